/-
  No cell of these rows narrows 'for every input' (looked for: loops, veiled, ifaces, maps, wideKeys, modest, calm, conditions, laid).
  DERIVED. THE GIVEN ROWS OF THIS SEAT. 2 by the template 'for every input the law returns true; each argument reads behind the call as it read before'; 0 by the template 'total and deterministic' (their statements: YtjlieapiedmiiaaGreatTotals.lean).
  GIVEN WITH THE SEED: the statements are not yours to turn. If you find one false, say at which input.
  Laid BY PROGRAM, IN A SANDBOX (cutbox-rows.mjs): the forced cells as the released guide's own fill.sh prints them over the translation 0d034c0d074d7eb0… (all of the seat's roots in one cut). By AI agents, Wed Nov 11 2026. No macro, syntax, notation, axiom, sorry.
-/
import Derived.Test.YtjlieapiedmiiaaGreatChecked
import GoSem.Claim
import GoSem.ClaimJoined
import GoSem.ClaimMapViews
import Derived.JoinedTies
import Derived.KernelRfl
namespace Go.Proofs.YtjlieapiedmiiaaGreat
/- THE CELL 'sum', in the pinned program and in every row, IS THE sha256 OF THE DUMP (.gsa) THAT YtjlieapiedmiiaaGreatProg.lean LOADS. Nothing in Lean hashes anything: it is a label: what it is worth is what the hold of that sum in a sandbox is worth. -/
noncomputable def Tryz.pinned : Pinned := { name := "ytjlieapiedmiiaagreat", sum := "0d034c0d074d7eb0b11447663cc6b6bb9de37a968612da8296d43752c38d517d", checked := Tryz.checked }
namespace Rows
def none {H : Type} : Left H := { results := [], args := [] }

/-- 'signpostlaw21.ExportNumbers': WHATEVER THE INPUT: true; the input reads as it did. -/
def exportNumbersSpec : ChangeSpec := { name := "exportNumbers", fn := fun _ => fun
  | [] => { results := [.lit (.bool true)], args := [] }
  | _ => none }
def exportNumbersRow : OpenClaim := { program := "ytjlieapiedmiiaagreat", sum := "0d034c0d074d7eb0b11447663cc6b6bb9de37a968612da8296d43752c38d517d", func := "signpost/signpostlaw21.ExportNumbers", spec := "exportNumbers", inPlace := ["slices.overlaps[signpost/api.Seg]", "slices.overlaps[uint32]"], recurses := true, apart := false }
def ExportNumbersSaid : Prop := exportNumbersRow.holds Tryz.pinned (OpenSpec.ofChange exportNumbersSpec)

/-- ITS FALSE NEIGHBOUR: 'it returns false'. Refute it at one input. -/
def exportNumbersWrong : ChangeSpec := { name := "exportNumbers", fn := fun _ => fun
  | [] => { results := [.lit (.bool false)], args := [] }
  | _ => none }
def ExportNumbersWrongFalsely : Prop := exportNumbersRow.holds Tryz.pinned (OpenSpec.ofChange exportNumbersWrong)

/-- 'signpostlaw22.AdjoutNumbers': WHATEVER THE INPUT: true; the input reads as it did. -/
def adjoutNumbersSpec : ChangeSpec := { name := "adjoutNumbers", fn := fun _ => fun
  | [] => { results := [.lit (.bool true)], args := [] }
  | _ => none }
def adjoutNumbersRow : OpenClaim := { program := "ytjlieapiedmiiaagreat", sum := "0d034c0d074d7eb0b11447663cc6b6bb9de37a968612da8296d43752c38d517d", func := "signpost/signpostlaw22.AdjoutNumbers", spec := "adjoutNumbers", inPlace := ["slices.overlaps[signpost/api.Seg]", "slices.overlaps[uint32]"], recurses := true, apart := false }
def AdjoutNumbersSaid : Prop := adjoutNumbersRow.holds Tryz.pinned (OpenSpec.ofChange adjoutNumbersSpec)

/-- ITS FALSE NEIGHBOUR: 'it returns false'. Refute it at one input. -/
def adjoutNumbersWrong : ChangeSpec := { name := "adjoutNumbers", fn := fun _ => fun
  | [] => { results := [.lit (.bool false)], args := [] }
  | _ => none }
def AdjoutNumbersWrongFalsely : Prop := adjoutNumbersRow.holds Tryz.pinned (OpenSpec.ofChange adjoutNumbersWrong)

/- THE SECOND FORM. 'bulk': how many values and letters a reading holds, each counted each time it is reached (what is shared counts as often as it is met; a slice's spare places count too). A statement '..UptoSaid' is the law's where the arguments, and the package variables that the reading takes, are together of bulk at most 1048576: NARROWER than '..Said'. Prove '..Said' where nothing that the law and all that it calls make is longer than what came in: it says more and counts as full. Else prove '..UptoSaid'. A law counts once. -/
mutual
def uptoBulk {H : Type} : DataW H → Nat
  | .lit (.string bytes) => bytes.length + 1
  | .lit _ => 1
  | .nil => 1
  | .ptr d => uptoBulk d + 1
  | .slice elems spare => uptoBulkAll elems + uptoBulkAll spare + 1
  | .agg parts => uptoBulkAll parts + 1
  | .iface _ d => uptoBulk d + 1
  | .map entries => uptoBulkEntries entries + 1
  | .held _ => 1
def uptoBulkAll {H : Type} : List (DataW H) → Nat
  | [] => 0
  | d :: r => uptoBulk d + uptoBulkAll r
def uptoBulkEntries {H : Type} : List (Lit × DataW H) → Nat
  | [] => 0
  | x :: r => uptoBulkEntry x + uptoBulkEntries r
def uptoBulkEntry {H : Type} : Lit × DataW H → Nat
  | (.string bytes, d) => bytes.length + uptoBulk d + 1
  | (_, d) => uptoBulk d + 1
 end
def uptoSmall : (H : Type) → List (DataW H) → Bool := fun _ ds => decide (uptoBulkAll ds ≤ 1048576)
def OpenSpec.upto (s : _root_.Go.ChangeSpec) : _root_.Go.OpenSpec := { _root_.Go.OpenSpec.ofChange s with cond := some uptoSmall }

/-- 'signpostlaw21.ExportNumbers', WHERE WHAT IT READS IS OF BULK AT MOST 1048576: true; the input reads as it did. -/
def exportNumbersUptoRow : OpenClaim := { program := "ytjlieapiedmiiaagreat", sum := "0d034c0d074d7eb0b11447663cc6b6bb9de37a968612da8296d43752c38d517d", func := "signpost/signpostlaw21.ExportNumbers", spec := "exportNumbers", inPlace := ["slices.overlaps[signpost/api.Seg]", "slices.overlaps[uint32]"], recurses := true, apart := false, narrowed := true }
def ExportNumbersUptoSaid : Prop := exportNumbersUptoRow.holds Tryz.pinned (OpenSpec.upto exportNumbersSpec)

/-- 'signpostlaw22.AdjoutNumbers', WHERE WHAT IT READS IS OF BULK AT MOST 1048576: true; the input reads as it did. -/
def adjoutNumbersUptoRow : OpenClaim := { program := "ytjlieapiedmiiaagreat", sum := "0d034c0d074d7eb0b11447663cc6b6bb9de37a968612da8296d43752c38d517d", func := "signpost/signpostlaw22.AdjoutNumbers", spec := "adjoutNumbers", inPlace := ["slices.overlaps[signpost/api.Seg]", "slices.overlaps[uint32]"], recurses := true, apart := false, narrowed := true }
def AdjoutNumbersUptoSaid : Prop := adjoutNumbersUptoRow.holds Tryz.pinned (OpenSpec.upto adjoutNumbersSpec)

end Rows
end Go.Proofs.YtjlieapiedmiiaaGreat
