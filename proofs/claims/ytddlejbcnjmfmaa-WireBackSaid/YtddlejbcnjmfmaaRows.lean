/-
  No cell of these rows narrows 'for every input' (looked for: loops, veiled, ifaces, maps, wideKeys, modest, calm, conditions, laid).
  DERIVED. THE GIVEN ROWS OF THIS SEAT. 12 by the template 'for every input the law returns true; each argument reads behind the call as it read before'; 0 by the template 'total and deterministic' (their statements: YtddlejbcnjmfmaaTotals.lean).
  GIVEN WITH THE SEED: the statements are not yours to turn. If you find one false, say at which input.
  Laid BY PROGRAM, IN A SANDBOX (cutbox-rows.mjs): the forced cells as the released guide's own fill.sh prints them over the translation d89a8ed0bc4e0458… (all of the seat's roots in one cut). By AI agents, Wed Nov 11 2026. No macro, syntax, notation, axiom, sorry.
-/
import Derived.Test.YtddlejbcnjmfmaaChecked
import GoSem.Claim
import GoSem.ClaimJoined
import GoSem.ClaimMapViews
import Derived.JoinedTies
import Derived.KernelRfl
namespace Go.Proofs.Ytddlejbcnjmfmaa
/- THE CELL 'sum', in the pinned program and in every row, IS THE sha256 OF THE DUMP (.gsa) THAT YtddlejbcnjmfmaaProg.lean LOADS. Nothing in Lean hashes anything: it is a label: what it is worth is what the hold of that sum in a sandbox is worth. -/
noncomputable def Try.pinned : Pinned := { name := "ytddlejbcnjmfmaa", sum := "d89a8ed0bc4e04587d9b86888c22cff1572a8e92e90f350396d273bb18f96bbc", checked := Try.checked }
namespace Rows
def none {H : Type} : Left H := { results := [], args := [] }

/-- 'signpostlaw4.WireNumbers': WHATEVER THE INPUT: true; the input reads as it did. -/
def wireNumbersSpec : ChangeSpec := { name := "wireNumbers", fn := fun _ => fun
  | [] => { results := [.lit (.bool true)], args := [] }
  | _ => none }
def wireNumbersRow : OpenClaim := { program := "ytddlejbcnjmfmaa", sum := "d89a8ed0bc4e04587d9b86888c22cff1572a8e92e90f350396d273bb18f96bbc", func := "signpost/signpostlaw4.WireNumbers", spec := "wireNumbers", apart := false }
def WireNumbersSaid : Prop := wireNumbersRow.holds Try.pinned (OpenSpec.ofChange wireNumbersSpec)

/-- ITS FALSE NEIGHBOUR: 'it returns false'. Refute it at one input. -/
def wireNumbersWrong : ChangeSpec := { name := "wireNumbers", fn := fun _ => fun
  | [] => { results := [.lit (.bool false)], args := [] }
  | _ => none }
def WireNumbersWrongFalsely : Prop := wireNumbersRow.holds Try.pinned (OpenSpec.ofChange wireNumbersWrong)

/-- 'signpostlaw4.WireTells': WHATEVER THE INPUT: true; the input reads as it did. -/
def wireTellsSpec : ChangeSpec := { name := "wireTells", fn := fun _ => fun
  | [d1, d2, d3] => { results := [.lit (.bool true)], args := [d1, d2, d3] }
  | _ => none }
def wireTellsRow : OpenClaim := { program := "ytddlejbcnjmfmaa", sum := "d89a8ed0bc4e04587d9b86888c22cff1572a8e92e90f350396d273bb18f96bbc", func := "signpost/signpostlaw4.WireTells", spec := "wireTells", apart := false }
def WireTellsSaid : Prop := wireTellsRow.holds Try.pinned (OpenSpec.ofChange wireTellsSpec)

/-- ITS FALSE NEIGHBOUR: 'it returns false'. Refute it at one input. -/
def wireTellsWrong : ChangeSpec := { name := "wireTells", fn := fun _ => fun
  | [d1, d2, d3] => { results := [.lit (.bool false)], args := [d1, d2, d3] }
  | _ => none }
def WireTellsWrongFalsely : Prop := wireTellsRow.holds Try.pinned (OpenSpec.ofChange wireTellsWrong)

/-- 'signpostlaw4.WireBack': WHATEVER THE INPUT: true; the input reads as it did. -/
def wireBackSpec : ChangeSpec := { name := "wireBack", fn := fun _ => fun
  | [d] => { results := [.lit (.bool true)], args := [d] }
  | _ => none }
def wireBackRow : OpenClaim := { program := "ytddlejbcnjmfmaa", sum := "d89a8ed0bc4e04587d9b86888c22cff1572a8e92e90f350396d273bb18f96bbc", func := "signpost/signpostlaw4.WireBack", spec := "wireBack", apart := false }
def WireBackSaid : Prop := wireBackRow.holds Try.pinned (OpenSpec.ofChange wireBackSpec)

/-- ITS FALSE NEIGHBOUR: 'it returns false'. Refute it at one input. -/
def wireBackWrong : ChangeSpec := { name := "wireBack", fn := fun _ => fun
  | [d] => { results := [.lit (.bool false)], args := [d] }
  | _ => none }
def WireBackWrongFalsely : Prop := wireBackRow.holds Try.pinned (OpenSpec.ofChange wireBackWrong)

/-- 'signpostlaw4.WireLacks': WHATEVER THE INPUT: true; the input reads as it did. -/
def wireLacksSpec : ChangeSpec := { name := "wireLacks", fn := fun _ => fun
  | [d1, d2] => { results := [.lit (.bool true)], args := [d1, d2] }
  | _ => none }
def wireLacksRow : OpenClaim := { program := "ytddlejbcnjmfmaa", sum := "d89a8ed0bc4e04587d9b86888c22cff1572a8e92e90f350396d273bb18f96bbc", func := "signpost/signpostlaw4.WireLacks", spec := "wireLacks", apart := false }
def WireLacksSaid : Prop := wireLacksRow.holds Try.pinned (OpenSpec.ofChange wireLacksSpec)

/-- ITS FALSE NEIGHBOUR: 'it returns false'. Refute it at one input. -/
def wireLacksWrong : ChangeSpec := { name := "wireLacks", fn := fun _ => fun
  | [d1, d2] => { results := [.lit (.bool false)], args := [d1, d2] }
  | _ => none }
def WireLacksWrongFalsely : Prop := wireLacksRow.holds Try.pinned (OpenSpec.ofChange wireLacksWrong)

/-- 'signpostlaw5.FrameNumbers': WHATEVER THE INPUT: true; the input reads as it did. -/
def frameNumbersSpec : ChangeSpec := { name := "frameNumbers", fn := fun _ => fun
  | [] => { results := [.lit (.bool true)], args := [] }
  | _ => none }
def frameNumbersRow : OpenClaim := { program := "ytddlejbcnjmfmaa", sum := "d89a8ed0bc4e04587d9b86888c22cff1572a8e92e90f350396d273bb18f96bbc", func := "signpost/signpostlaw5.FrameNumbers", spec := "frameNumbers", apart := false }
def FrameNumbersSaid : Prop := frameNumbersRow.holds Try.pinned (OpenSpec.ofChange frameNumbersSpec)

/-- ITS FALSE NEIGHBOUR: 'it returns false'. Refute it at one input. -/
def frameNumbersWrong : ChangeSpec := { name := "frameNumbers", fn := fun _ => fun
  | [] => { results := [.lit (.bool false)], args := [] }
  | _ => none }
def FrameNumbersWrongFalsely : Prop := frameNumbersRow.holds Try.pinned (OpenSpec.ofChange frameNumbersWrong)

/-- 'signpostlaw5.FrameTells': WHATEVER THE INPUT: true; the input reads as it did. -/
def frameTellsSpec : ChangeSpec := { name := "frameTells", fn := fun _ => fun
  | [d1, d2, d3, d4, d5] => { results := [.lit (.bool true)], args := [d1, d2, d3, d4, d5] }
  | _ => none }
def frameTellsRow : OpenClaim := { program := "ytddlejbcnjmfmaa", sum := "d89a8ed0bc4e04587d9b86888c22cff1572a8e92e90f350396d273bb18f96bbc", func := "signpost/signpostlaw5.FrameTells", spec := "frameTells", apart := false }
def FrameTellsSaid : Prop := frameTellsRow.holds Try.pinned (OpenSpec.ofChange frameTellsSpec)

/-- ITS FALSE NEIGHBOUR: 'it returns false'. Refute it at one input. -/
def frameTellsWrong : ChangeSpec := { name := "frameTells", fn := fun _ => fun
  | [d1, d2, d3, d4, d5] => { results := [.lit (.bool false)], args := [d1, d2, d3, d4, d5] }
  | _ => none }
def FrameTellsWrongFalsely : Prop := frameTellsRow.holds Try.pinned (OpenSpec.ofChange frameTellsWrong)

/-- 'signpostlaw5.FrameSizes': WHATEVER THE INPUT: true; the input reads as it did. -/
def frameSizesSpec : ChangeSpec := { name := "frameSizes", fn := fun _ => fun
  | [d1, d2] => { results := [.lit (.bool true)], args := [d1, d2] }
  | _ => none }
def frameSizesRow : OpenClaim := { program := "ytddlejbcnjmfmaa", sum := "d89a8ed0bc4e04587d9b86888c22cff1572a8e92e90f350396d273bb18f96bbc", func := "signpost/signpostlaw5.FrameSizes", spec := "frameSizes", apart := false }
def FrameSizesSaid : Prop := frameSizesRow.holds Try.pinned (OpenSpec.ofChange frameSizesSpec)

/-- ITS FALSE NEIGHBOUR: 'it returns false'. Refute it at one input. -/
def frameSizesWrong : ChangeSpec := { name := "frameSizes", fn := fun _ => fun
  | [d1, d2] => { results := [.lit (.bool false)], args := [d1, d2] }
  | _ => none }
def FrameSizesWrongFalsely : Prop := frameSizesRow.holds Try.pinned (OpenSpec.ofChange frameSizesWrong)

/-- 'signpostlaw5.FrameBack': WHATEVER THE INPUT: true; the input reads as it did. -/
def frameBackSpec : ChangeSpec := { name := "frameBack", fn := fun _ => fun
  | [d1, d2] => { results := [.lit (.bool true)], args := [d1, d2] }
  | _ => none }
def frameBackRow : OpenClaim := { program := "ytddlejbcnjmfmaa", sum := "d89a8ed0bc4e04587d9b86888c22cff1572a8e92e90f350396d273bb18f96bbc", func := "signpost/signpostlaw5.FrameBack", spec := "frameBack", apart := false }
def FrameBackSaid : Prop := frameBackRow.holds Try.pinned (OpenSpec.ofChange frameBackSpec)

/-- ITS FALSE NEIGHBOUR: 'it returns false'. Refute it at one input. -/
def frameBackWrong : ChangeSpec := { name := "frameBack", fn := fun _ => fun
  | [d1, d2] => { results := [.lit (.bool false)], args := [d1, d2] }
  | _ => none }
def FrameBackWrongFalsely : Prop := frameBackRow.holds Try.pinned (OpenSpec.ofChange frameBackWrong)

/-- 'signpostlaw8.NlriNumbers': WHATEVER THE INPUT: true; the input reads as it did. -/
def nlriNumbersSpec : ChangeSpec := { name := "nlriNumbers", fn := fun _ => fun
  | [] => { results := [.lit (.bool true)], args := [] }
  | _ => none }
def nlriNumbersRow : OpenClaim := { program := "ytddlejbcnjmfmaa", sum := "d89a8ed0bc4e04587d9b86888c22cff1572a8e92e90f350396d273bb18f96bbc", func := "signpost/signpostlaw8.NlriNumbers", spec := "nlriNumbers", apart := false }
def NlriNumbersSaid : Prop := nlriNumbersRow.holds Try.pinned (OpenSpec.ofChange nlriNumbersSpec)

/-- ITS FALSE NEIGHBOUR: 'it returns false'. Refute it at one input. -/
def nlriNumbersWrong : ChangeSpec := { name := "nlriNumbers", fn := fun _ => fun
  | [] => { results := [.lit (.bool false)], args := [] }
  | _ => none }
def NlriNumbersWrongFalsely : Prop := nlriNumbersRow.holds Try.pinned (OpenSpec.ofChange nlriNumbersWrong)

/-- 'signpostlaw8.NlriTells': WHATEVER THE INPUT: true; the input reads as it did. -/
def nlriTellsSpec : ChangeSpec := { name := "nlriTells", fn := fun _ => fun
  | [d1, d2, d3, d4, d5] => { results := [.lit (.bool true)], args := [d1, d2, d3, d4, d5] }
  | _ => none }
def nlriTellsRow : OpenClaim := { program := "ytddlejbcnjmfmaa", sum := "d89a8ed0bc4e04587d9b86888c22cff1572a8e92e90f350396d273bb18f96bbc", func := "signpost/signpostlaw8.NlriTells", spec := "nlriTells", apart := false }
def NlriTellsSaid : Prop := nlriTellsRow.holds Try.pinned (OpenSpec.ofChange nlriTellsSpec)

/-- ITS FALSE NEIGHBOUR: 'it returns false'. Refute it at one input. -/
def nlriTellsWrong : ChangeSpec := { name := "nlriTells", fn := fun _ => fun
  | [d1, d2, d3, d4, d5] => { results := [.lit (.bool false)], args := [d1, d2, d3, d4, d5] }
  | _ => none }
def NlriTellsWrongFalsely : Prop := nlriTellsRow.holds Try.pinned (OpenSpec.ofChange nlriTellsWrong)

/-- 'signpostlaw8.NlriBack': WHATEVER THE INPUT: true; the input reads as it did. -/
def nlriBackSpec : ChangeSpec := { name := "nlriBack", fn := fun _ => fun
  | [d1, d2, d3] => { results := [.lit (.bool true)], args := [d1, d2, d3] }
  | _ => none }
def nlriBackRow : OpenClaim := { program := "ytddlejbcnjmfmaa", sum := "d89a8ed0bc4e04587d9b86888c22cff1572a8e92e90f350396d273bb18f96bbc", func := "signpost/signpostlaw8.NlriBack", spec := "nlriBack", apart := false }
def NlriBackSaid : Prop := nlriBackRow.holds Try.pinned (OpenSpec.ofChange nlriBackSpec)

/-- ITS FALSE NEIGHBOUR: 'it returns false'. Refute it at one input. -/
def nlriBackWrong : ChangeSpec := { name := "nlriBack", fn := fun _ => fun
  | [d1, d2, d3] => { results := [.lit (.bool false)], args := [d1, d2, d3] }
  | _ => none }
def NlriBackWrongFalsely : Prop := nlriBackRow.holds Try.pinned (OpenSpec.ofChange nlriBackWrong)

/-- 'signpostlaw10.OpenNumbers': WHATEVER THE INPUT: true; the input reads as it did. -/
def openNumbersSpec : ChangeSpec := { name := "openNumbers", fn := fun _ => fun
  | [] => { results := [.lit (.bool true)], args := [] }
  | _ => none }
def openNumbersRow : OpenClaim := { program := "ytddlejbcnjmfmaa", sum := "d89a8ed0bc4e04587d9b86888c22cff1572a8e92e90f350396d273bb18f96bbc", func := "signpost/signpostlaw10.OpenNumbers", spec := "openNumbers", apart := false }
def OpenNumbersSaid : Prop := openNumbersRow.holds Try.pinned (OpenSpec.ofChange openNumbersSpec)

/-- ITS FALSE NEIGHBOUR: 'it returns false'. Refute it at one input. -/
def openNumbersWrong : ChangeSpec := { name := "openNumbers", fn := fun _ => fun
  | [] => { results := [.lit (.bool false)], args := [] }
  | _ => none }
def OpenNumbersWrongFalsely : Prop := openNumbersRow.holds Try.pinned (OpenSpec.ofChange openNumbersWrong)

/- THE SECOND FORM. 'bulk': how many values and letters a reading holds, each counted each time it is reached (what is shared counts as often as it is met; a slice's spare places count too). A statement '..UptoSaid' is the law's where the arguments, and the package variables that the reading takes, are together of bulk at most 1048576: NARROWER than '..Said'. Prove '..Said' where nothing that the law and all that it calls make is longer than what came in: it says more and counts as full. Else prove '..UptoSaid'. A law counts once. -/
mutual
def uptoBulk {H : Type} : DataW H → Nat
  | .lit (.string bytes) => bytes.length + 1
  | .lit _ => 1
  | .nil => 1
  | .ptr d => uptoBulk d + 1
  | .slice elems spare => uptoBulkAll elems + uptoBulkAll spare + 1
  | .agg parts => uptoBulkAll parts + 1
  | .iface _ d => uptoBulk d + 1
  | .map entries => uptoBulkEntries entries + 1
  | .held _ => 1
def uptoBulkAll {H : Type} : List (DataW H) → Nat
  | [] => 0
  | d :: r => uptoBulk d + uptoBulkAll r
def uptoBulkEntries {H : Type} : List (Lit × DataW H) → Nat
  | [] => 0
  | x :: r => uptoBulkEntry x + uptoBulkEntries r
def uptoBulkEntry {H : Type} : Lit × DataW H → Nat
  | (.string bytes, d) => bytes.length + uptoBulk d + 1
  | (_, d) => uptoBulk d + 1
 end
def uptoSmall : (H : Type) → List (DataW H) → Bool := fun _ ds => decide (uptoBulkAll ds ≤ 1048576)
def OpenSpec.upto (s : _root_.Go.ChangeSpec) : _root_.Go.OpenSpec := { _root_.Go.OpenSpec.ofChange s with cond := some uptoSmall }

/-- 'signpostlaw4.WireNumbers', WHERE WHAT IT READS IS OF BULK AT MOST 1048576: true; the input reads as it did. -/
def wireNumbersUptoRow : OpenClaim := { program := "ytddlejbcnjmfmaa", sum := "d89a8ed0bc4e04587d9b86888c22cff1572a8e92e90f350396d273bb18f96bbc", func := "signpost/signpostlaw4.WireNumbers", spec := "wireNumbers", apart := false, narrowed := true }
def WireNumbersUptoSaid : Prop := wireNumbersUptoRow.holds Try.pinned (OpenSpec.upto wireNumbersSpec)

/-- 'signpostlaw4.WireTells', WHERE WHAT IT READS IS OF BULK AT MOST 1048576: true; the input reads as it did. -/
def wireTellsUptoRow : OpenClaim := { program := "ytddlejbcnjmfmaa", sum := "d89a8ed0bc4e04587d9b86888c22cff1572a8e92e90f350396d273bb18f96bbc", func := "signpost/signpostlaw4.WireTells", spec := "wireTells", apart := false, narrowed := true }
def WireTellsUptoSaid : Prop := wireTellsUptoRow.holds Try.pinned (OpenSpec.upto wireTellsSpec)

/-- 'signpostlaw4.WireBack', WHERE WHAT IT READS IS OF BULK AT MOST 1048576: true; the input reads as it did. -/
def wireBackUptoRow : OpenClaim := { program := "ytddlejbcnjmfmaa", sum := "d89a8ed0bc4e04587d9b86888c22cff1572a8e92e90f350396d273bb18f96bbc", func := "signpost/signpostlaw4.WireBack", spec := "wireBack", apart := false, narrowed := true }
def WireBackUptoSaid : Prop := wireBackUptoRow.holds Try.pinned (OpenSpec.upto wireBackSpec)

/-- 'signpostlaw4.WireLacks', WHERE WHAT IT READS IS OF BULK AT MOST 1048576: true; the input reads as it did. -/
def wireLacksUptoRow : OpenClaim := { program := "ytddlejbcnjmfmaa", sum := "d89a8ed0bc4e04587d9b86888c22cff1572a8e92e90f350396d273bb18f96bbc", func := "signpost/signpostlaw4.WireLacks", spec := "wireLacks", apart := false, narrowed := true }
def WireLacksUptoSaid : Prop := wireLacksUptoRow.holds Try.pinned (OpenSpec.upto wireLacksSpec)

/-- 'signpostlaw5.FrameNumbers', WHERE WHAT IT READS IS OF BULK AT MOST 1048576: true; the input reads as it did. -/
def frameNumbersUptoRow : OpenClaim := { program := "ytddlejbcnjmfmaa", sum := "d89a8ed0bc4e04587d9b86888c22cff1572a8e92e90f350396d273bb18f96bbc", func := "signpost/signpostlaw5.FrameNumbers", spec := "frameNumbers", apart := false, narrowed := true }
def FrameNumbersUptoSaid : Prop := frameNumbersUptoRow.holds Try.pinned (OpenSpec.upto frameNumbersSpec)

/-- 'signpostlaw5.FrameTells', WHERE WHAT IT READS IS OF BULK AT MOST 1048576: true; the input reads as it did. -/
def frameTellsUptoRow : OpenClaim := { program := "ytddlejbcnjmfmaa", sum := "d89a8ed0bc4e04587d9b86888c22cff1572a8e92e90f350396d273bb18f96bbc", func := "signpost/signpostlaw5.FrameTells", spec := "frameTells", apart := false, narrowed := true }
def FrameTellsUptoSaid : Prop := frameTellsUptoRow.holds Try.pinned (OpenSpec.upto frameTellsSpec)

/-- 'signpostlaw5.FrameSizes', WHERE WHAT IT READS IS OF BULK AT MOST 1048576: true; the input reads as it did. -/
def frameSizesUptoRow : OpenClaim := { program := "ytddlejbcnjmfmaa", sum := "d89a8ed0bc4e04587d9b86888c22cff1572a8e92e90f350396d273bb18f96bbc", func := "signpost/signpostlaw5.FrameSizes", spec := "frameSizes", apart := false, narrowed := true }
def FrameSizesUptoSaid : Prop := frameSizesUptoRow.holds Try.pinned (OpenSpec.upto frameSizesSpec)

/-- 'signpostlaw5.FrameBack', WHERE WHAT IT READS IS OF BULK AT MOST 1048576: true; the input reads as it did. -/
def frameBackUptoRow : OpenClaim := { program := "ytddlejbcnjmfmaa", sum := "d89a8ed0bc4e04587d9b86888c22cff1572a8e92e90f350396d273bb18f96bbc", func := "signpost/signpostlaw5.FrameBack", spec := "frameBack", apart := false, narrowed := true }
def FrameBackUptoSaid : Prop := frameBackUptoRow.holds Try.pinned (OpenSpec.upto frameBackSpec)

/-- 'signpostlaw8.NlriNumbers', WHERE WHAT IT READS IS OF BULK AT MOST 1048576: true; the input reads as it did. -/
def nlriNumbersUptoRow : OpenClaim := { program := "ytddlejbcnjmfmaa", sum := "d89a8ed0bc4e04587d9b86888c22cff1572a8e92e90f350396d273bb18f96bbc", func := "signpost/signpostlaw8.NlriNumbers", spec := "nlriNumbers", apart := false, narrowed := true }
def NlriNumbersUptoSaid : Prop := nlriNumbersUptoRow.holds Try.pinned (OpenSpec.upto nlriNumbersSpec)

/-- 'signpostlaw8.NlriTells', WHERE WHAT IT READS IS OF BULK AT MOST 1048576: true; the input reads as it did. -/
def nlriTellsUptoRow : OpenClaim := { program := "ytddlejbcnjmfmaa", sum := "d89a8ed0bc4e04587d9b86888c22cff1572a8e92e90f350396d273bb18f96bbc", func := "signpost/signpostlaw8.NlriTells", spec := "nlriTells", apart := false, narrowed := true }
def NlriTellsUptoSaid : Prop := nlriTellsUptoRow.holds Try.pinned (OpenSpec.upto nlriTellsSpec)

/-- 'signpostlaw8.NlriBack', WHERE WHAT IT READS IS OF BULK AT MOST 1048576: true; the input reads as it did. -/
def nlriBackUptoRow : OpenClaim := { program := "ytddlejbcnjmfmaa", sum := "d89a8ed0bc4e04587d9b86888c22cff1572a8e92e90f350396d273bb18f96bbc", func := "signpost/signpostlaw8.NlriBack", spec := "nlriBack", apart := false, narrowed := true }
def NlriBackUptoSaid : Prop := nlriBackUptoRow.holds Try.pinned (OpenSpec.upto nlriBackSpec)

/-- 'signpostlaw10.OpenNumbers', WHERE WHAT IT READS IS OF BULK AT MOST 1048576: true; the input reads as it did. -/
def openNumbersUptoRow : OpenClaim := { program := "ytddlejbcnjmfmaa", sum := "d89a8ed0bc4e04587d9b86888c22cff1572a8e92e90f350396d273bb18f96bbc", func := "signpost/signpostlaw10.OpenNumbers", spec := "openNumbers", apart := false, narrowed := true }
def OpenNumbersUptoSaid : Prop := openNumbersUptoRow.holds Try.pinned (OpenSpec.upto openNumbersSpec)

end Rows
end Go.Proofs.Ytddlejbcnjmfmaa
