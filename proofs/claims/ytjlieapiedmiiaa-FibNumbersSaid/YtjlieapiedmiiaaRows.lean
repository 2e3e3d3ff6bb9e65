/-
  No cell of these rows narrows 'for every input' (looked for: loops, veiled, ifaces, maps, wideKeys, modest, calm, conditions, laid).
  DERIVED. THE GIVEN ROWS OF THIS SEAT. 4 by the template 'for every input the law returns true; each argument reads behind the call as it read before'; 0 by the template 'total and deterministic' (their statements: YtjlieapiedmiiaaTotals.lean).
  GIVEN WITH THE SEED: the statements are not yours to turn. If you find one false, say at which input.
  Laid BY PROGRAM, IN A SANDBOX (cutbox-rows.mjs): the forced cells as the released guide's own fill.sh prints them over the translation a83dfb66e94d1631… (all of the seat's roots in one cut). By AI agents, Wed Nov 11 2026. No macro, syntax, notation, axiom, sorry.
-/
import Derived.Test.YtjlieapiedmiiaaChecked
import GoSem.Claim
import GoSem.ClaimJoined
import GoSem.ClaimMapViews
import Derived.JoinedTies
import Derived.KernelRfl
namespace Go.Proofs.Ytjlieapiedmiiaa
/- THE CELL 'sum', in the pinned program and in every row, IS THE sha256 OF THE DUMP (.gsa) THAT YtjlieapiedmiiaaProg.lean LOADS. Nothing in Lean hashes anything: it is a label: what it is worth is what the hold of that sum in a sandbox is worth. -/
noncomputable def Try.pinned : Pinned := { name := "ytjlieapiedmiiaa", sum := "a83dfb66e94d163166613bdb13e9b9dca83cb305947ac1dcc1d7363fa900ffab", checked := Try.checked }
namespace Rows
def none {H : Type} : Left H := { results := [], args := [] }

/-- 'signpostlaw11.InternNumbers': WHATEVER THE INPUT: true; the input reads as it did. -/
def internNumbersSpec : ChangeSpec := { name := "internNumbers", fn := fun _ => fun
  | [] => { results := [.lit (.bool true)], args := [] }
  | _ => none }
def internNumbersRow : OpenClaim := { program := "ytjlieapiedmiiaa", sum := "a83dfb66e94d163166613bdb13e9b9dca83cb305947ac1dcc1d7363fa900ffab", func := "signpost/signpostlaw11.InternNumbers", spec := "internNumbers", inPlace := ["slices.overlaps[signpost/api.Seg]", "slices.overlaps[uint32]", "slices.overlaps[int]"], unfollowed := true, recurses := true, apart := false }
def InternNumbersSaid : Prop := internNumbersRow.holds Try.pinned (OpenSpec.ofChange internNumbersSpec)

/-- ITS FALSE NEIGHBOUR: 'it returns false'. Refute it at one input. -/
def internNumbersWrong : ChangeSpec := { name := "internNumbers", fn := fun _ => fun
  | [] => { results := [.lit (.bool false)], args := [] }
  | _ => none }
def InternNumbersWrongFalsely : Prop := internNumbersRow.holds Try.pinned (OpenSpec.ofChange internNumbersWrong)

/-- 'signpostlaw13.PolicyNumbers': WHATEVER THE INPUT: true; the input reads as it did. -/
def policyNumbersSpec : ChangeSpec := { name := "policyNumbers", fn := fun _ => fun
  | [] => { results := [.lit (.bool true)], args := [] }
  | _ => none }
def policyNumbersRow : OpenClaim := { program := "ytjlieapiedmiiaa", sum := "a83dfb66e94d163166613bdb13e9b9dca83cb305947ac1dcc1d7363fa900ffab", func := "signpost/signpostlaw13.PolicyNumbers", spec := "policyNumbers", inPlace := ["slices.overlaps[signpost/api.Seg]", "slices.overlaps[uint32]"], recurses := true, apart := false }
def PolicyNumbersSaid : Prop := policyNumbersRow.holds Try.pinned (OpenSpec.ofChange policyNumbersSpec)

/-- ITS FALSE NEIGHBOUR: 'it returns false'. Refute it at one input. -/
def policyNumbersWrong : ChangeSpec := { name := "policyNumbers", fn := fun _ => fun
  | [] => { results := [.lit (.bool false)], args := [] }
  | _ => none }
def PolicyNumbersWrongFalsely : Prop := policyNumbersRow.holds Try.pinned (OpenSpec.ofChange policyNumbersWrong)

/-- 'signpostlaw25.FibNumbers': WHATEVER THE INPUT: true; the input reads as it did. -/
def fibNumbersSpec : ChangeSpec := { name := "fibNumbers", fn := fun _ => fun
  | [] => { results := [.lit (.bool true)], args := [] }
  | _ => none }
def fibNumbersRow : OpenClaim := { program := "ytjlieapiedmiiaa", sum := "a83dfb66e94d163166613bdb13e9b9dca83cb305947ac1dcc1d7363fa900ffab", func := "signpost/signpostlaw25.FibNumbers", spec := "fibNumbers", recurses := true, apart := false }
def FibNumbersSaid : Prop := fibNumbersRow.holds Try.pinned (OpenSpec.ofChange fibNumbersSpec)

/-- ITS FALSE NEIGHBOUR: 'it returns false'. Refute it at one input. -/
def fibNumbersWrong : ChangeSpec := { name := "fibNumbers", fn := fun _ => fun
  | [] => { results := [.lit (.bool false)], args := [] }
  | _ => none }
def FibNumbersWrongFalsely : Prop := fibNumbersRow.holds Try.pinned (OpenSpec.ofChange fibNumbersWrong)

/-- 'signpostlaw26.DownloadNumbers': WHATEVER THE INPUT: true; the input reads as it did. -/
def downloadNumbersSpec : ChangeSpec := { name := "downloadNumbers", fn := fun _ => fun
  | [] => { results := [.lit (.bool true)], args := [] }
  | _ => none }
def downloadNumbersRow : OpenClaim := { program := "ytjlieapiedmiiaa", sum := "a83dfb66e94d163166613bdb13e9b9dca83cb305947ac1dcc1d7363fa900ffab", func := "signpost/signpostlaw26.DownloadNumbers", spec := "downloadNumbers", unfollowed := true, recurses := true, apart := false }
def DownloadNumbersSaid : Prop := downloadNumbersRow.holds Try.pinned (OpenSpec.ofChange downloadNumbersSpec)

/-- ITS FALSE NEIGHBOUR: 'it returns false'. Refute it at one input. -/
def downloadNumbersWrong : ChangeSpec := { name := "downloadNumbers", fn := fun _ => fun
  | [] => { results := [.lit (.bool false)], args := [] }
  | _ => none }
def DownloadNumbersWrongFalsely : Prop := downloadNumbersRow.holds Try.pinned (OpenSpec.ofChange downloadNumbersWrong)

/- THE SECOND FORM. 'bulk': how many values and letters a reading holds, each counted each time it is reached (what is shared counts as often as it is met; a slice's spare places count too). A statement '..UptoSaid' is the law's where the arguments, and the package variables that the reading takes, are together of bulk at most 1048576: NARROWER than '..Said'. Prove '..Said' where nothing that the law and all that it calls make is longer than what came in: it says more and counts as full. Else prove '..UptoSaid'. A law counts once. -/
mutual
def uptoBulk {H : Type} : DataW H → Nat
  | .lit (.string bytes) => bytes.length + 1
  | .lit _ => 1
  | .nil => 1
  | .ptr d => uptoBulk d + 1
  | .slice elems spare => uptoBulkAll elems + uptoBulkAll spare + 1
  | .agg parts => uptoBulkAll parts + 1
  | .iface _ d => uptoBulk d + 1
  | .map entries => uptoBulkEntries entries + 1
  | .held _ => 1
def uptoBulkAll {H : Type} : List (DataW H) → Nat
  | [] => 0
  | d :: r => uptoBulk d + uptoBulkAll r
def uptoBulkEntries {H : Type} : List (Lit × DataW H) → Nat
  | [] => 0
  | x :: r => uptoBulkEntry x + uptoBulkEntries r
def uptoBulkEntry {H : Type} : Lit × DataW H → Nat
  | (.string bytes, d) => bytes.length + uptoBulk d + 1
  | (_, d) => uptoBulk d + 1
 end
def uptoSmall : (H : Type) → List (DataW H) → Bool := fun _ ds => decide (uptoBulkAll ds ≤ 1048576)
def OpenSpec.upto (s : _root_.Go.ChangeSpec) : _root_.Go.OpenSpec := { _root_.Go.OpenSpec.ofChange s with cond := some uptoSmall }

/-- 'signpostlaw11.InternNumbers', WHERE WHAT IT READS IS OF BULK AT MOST 1048576: true; the input reads as it did. -/
def internNumbersUptoRow : OpenClaim := { program := "ytjlieapiedmiiaa", sum := "a83dfb66e94d163166613bdb13e9b9dca83cb305947ac1dcc1d7363fa900ffab", func := "signpost/signpostlaw11.InternNumbers", spec := "internNumbers", inPlace := ["slices.overlaps[signpost/api.Seg]", "slices.overlaps[uint32]", "slices.overlaps[int]"], unfollowed := true, recurses := true, apart := false, narrowed := true }
def InternNumbersUptoSaid : Prop := internNumbersUptoRow.holds Try.pinned (OpenSpec.upto internNumbersSpec)

/-- 'signpostlaw13.PolicyNumbers', WHERE WHAT IT READS IS OF BULK AT MOST 1048576: true; the input reads as it did. -/
def policyNumbersUptoRow : OpenClaim := { program := "ytjlieapiedmiiaa", sum := "a83dfb66e94d163166613bdb13e9b9dca83cb305947ac1dcc1d7363fa900ffab", func := "signpost/signpostlaw13.PolicyNumbers", spec := "policyNumbers", inPlace := ["slices.overlaps[signpost/api.Seg]", "slices.overlaps[uint32]"], recurses := true, apart := false, narrowed := true }
def PolicyNumbersUptoSaid : Prop := policyNumbersUptoRow.holds Try.pinned (OpenSpec.upto policyNumbersSpec)

/-- 'signpostlaw25.FibNumbers', WHERE WHAT IT READS IS OF BULK AT MOST 1048576: true; the input reads as it did. -/
def fibNumbersUptoRow : OpenClaim := { program := "ytjlieapiedmiiaa", sum := "a83dfb66e94d163166613bdb13e9b9dca83cb305947ac1dcc1d7363fa900ffab", func := "signpost/signpostlaw25.FibNumbers", spec := "fibNumbers", recurses := true, apart := false, narrowed := true }
def FibNumbersUptoSaid : Prop := fibNumbersUptoRow.holds Try.pinned (OpenSpec.upto fibNumbersSpec)

/-- 'signpostlaw26.DownloadNumbers', WHERE WHAT IT READS IS OF BULK AT MOST 1048576: true; the input reads as it did. -/
def downloadNumbersUptoRow : OpenClaim := { program := "ytjlieapiedmiiaa", sum := "a83dfb66e94d163166613bdb13e9b9dca83cb305947ac1dcc1d7363fa900ffab", func := "signpost/signpostlaw26.DownloadNumbers", spec := "downloadNumbers", unfollowed := true, recurses := true, apart := false, narrowed := true }
def DownloadNumbersUptoSaid : Prop := downloadNumbersUptoRow.holds Try.pinned (OpenSpec.upto downloadNumbersSpec)

end Rows
end Go.Proofs.Ytjlieapiedmiiaa
