/-
  No cell of these rows narrows 'for every input' (looked for: loops, veiled, ifaces, maps, wideKeys, modest, calm, conditions, laid).
  DERIVED. THE GIVEN ROWS OF THIS SEAT. 10 by the template 'for every input the law returns true; each argument reads behind the call as it read before'; 0 by the template 'total and deterministic' (their statements: YtajokgjebffkgaaTotals.lean).
  GIVEN WITH THE SEED: the statements are not yours to turn. If you find one false, say at which input.
  Laid BY PROGRAM, IN A SANDBOX (cutbox-rows.mjs): the forced cells as the released guide's own fill.sh prints them over the translation d46542699321a1f7… (all of the seat's roots in one cut). By AI agents, Wed Nov 11 2026. No macro, syntax, notation, axiom, sorry.
-/
import Derived.Test.YtajokgjebffkgaaChecked
import GoSem.Claim
import GoSem.ClaimJoined
import GoSem.ClaimMapViews
import Derived.JoinedTies
import Derived.KernelRfl
namespace Go.Proofs.Ytajokgjebffkgaa
/- THE CELL 'sum', in the pinned program and in every row, IS THE sha256 OF THE DUMP (.gsa) THAT YtajokgjebffkgaaProg.lean LOADS. Nothing in Lean hashes anything: it is a label: what it is worth is what the hold of that sum in a sandbox is worth. -/
noncomputable def Try.pinned : Pinned := { name := "ytajokgjebffkgaa", sum := "d46542699321a1f70b4e26e8cb459aed19f181b033c7b06a34c4555fb0b3d4a2", checked := Try.checked }
namespace Rows
def none {H : Type} : Left H := { results := [], args := [] }

/-- 'signpostlaw5.FrameFirst': WHATEVER THE INPUT: true; the input reads as it did. -/
def frameFirstSpec : ChangeSpec := { name := "frameFirst", fn := fun _ => fun
  | [d1, d2, d3] => { results := [.lit (.bool true)], args := [d1, d2, d3] }
  | _ => none }
def frameFirstRow : OpenClaim := { program := "ytajokgjebffkgaa", sum := "d46542699321a1f70b4e26e8cb459aed19f181b033c7b06a34c4555fb0b3d4a2", func := "signpost/signpostlaw5.FrameFirst", spec := "frameFirst", apart := false }
def FrameFirstSaid : Prop := frameFirstRow.holds Try.pinned (OpenSpec.ofChange frameFirstSpec)

/-- ITS FALSE NEIGHBOUR: 'it returns false'. Refute it at one input. -/
def frameFirstWrong : ChangeSpec := { name := "frameFirst", fn := fun _ => fun
  | [d1, d2, d3] => { results := [.lit (.bool false)], args := [d1, d2, d3] }
  | _ => none }
def FrameFirstWrongFalsely : Prop := frameFirstRow.holds Try.pinned (OpenSpec.ofChange frameFirstWrong)

/-- 'signpostlaw8.NlriBits': WHATEVER THE INPUT: true; the input reads as it did. -/
def nlriBitsSpec : ChangeSpec := { name := "nlriBits", fn := fun _ => fun
  | [d1, d2, d3, d4] => { results := [.lit (.bool true)], args := [d1, d2, d3, d4] }
  | _ => none }
def nlriBitsRow : OpenClaim := { program := "ytajokgjebffkgaa", sum := "d46542699321a1f70b4e26e8cb459aed19f181b033c7b06a34c4555fb0b3d4a2", func := "signpost/signpostlaw8.NlriBits", spec := "nlriBits", apart := false }
def NlriBitsSaid : Prop := nlriBitsRow.holds Try.pinned (OpenSpec.ofChange nlriBitsSpec)

/-- ITS FALSE NEIGHBOUR: 'it returns false'. Refute it at one input. -/
def nlriBitsWrong : ChangeSpec := { name := "nlriBits", fn := fun _ => fun
  | [d1, d2, d3, d4] => { results := [.lit (.bool false)], args := [d1, d2, d3, d4] }
  | _ => none }
def NlriBitsWrongFalsely : Prop := nlriBitsRow.holds Try.pinned (OpenSpec.ofChange nlriBitsWrong)

/-- 'signpostlaw2.MetricBits': WHATEVER THE INPUT: true; the input reads as it did. -/
def metricBitsSpec : ChangeSpec := { name := "metricBits", fn := fun _ => fun
  | [d1, d2, d3] => { results := [.lit (.bool true)], args := [d1, d2, d3] }
  | _ => none }
def metricBitsRow : OpenClaim := { program := "ytajokgjebffkgaa", sum := "d46542699321a1f70b4e26e8cb459aed19f181b033c7b06a34c4555fb0b3d4a2", func := "signpost/signpostlaw2.MetricBits", spec := "metricBits", inPlace := ["math.Float64frombits", "math.Float64bits"], apart := false }
def MetricBitsSaid : Prop := metricBitsRow.holds Try.pinned (OpenSpec.ofChange metricBitsSpec)

/-- ITS FALSE NEIGHBOUR: 'it returns false'. Refute it at one input. -/
def metricBitsWrong : ChangeSpec := { name := "metricBits", fn := fun _ => fun
  | [d1, d2, d3] => { results := [.lit (.bool false)], args := [d1, d2, d3] }
  | _ => none }
def MetricBitsWrongFalsely : Prop := metricBitsRow.holds Try.pinned (OpenSpec.ofChange metricBitsWrong)

/-- 'signpostlaw2.MetricRules': WHATEVER THE INPUT: true; the input reads as it did. -/
def metricRulesSpec : ChangeSpec := { name := "metricRules", fn := fun _ => fun
  | [d1, d2, d3] => { results := [.lit (.bool true)], args := [d1, d2, d3] }
  | _ => none }
def metricRulesRow : OpenClaim := { program := "ytajokgjebffkgaa", sum := "d46542699321a1f70b4e26e8cb459aed19f181b033c7b06a34c4555fb0b3d4a2", func := "signpost/signpostlaw2.MetricRules", spec := "metricRules", inPlace := ["math.Float64frombits", "math.Float64bits"], apart := false }
def MetricRulesSaid : Prop := metricRulesRow.holds Try.pinned (OpenSpec.ofChange metricRulesSpec)

/-- ITS FALSE NEIGHBOUR: 'it returns false'. Refute it at one input. -/
def metricRulesWrong : ChangeSpec := { name := "metricRules", fn := fun _ => fun
  | [d1, d2, d3] => { results := [.lit (.bool false)], args := [d1, d2, d3] }
  | _ => none }
def MetricRulesWrongFalsely : Prop := metricRulesRow.holds Try.pinned (OpenSpec.ofChange metricRulesWrong)

/-- 'signpostlaw10.OpenFirst': WHATEVER THE INPUT: true; the input reads as it did. -/
def openFirstSpec : ChangeSpec := { name := "openFirst", fn := fun _ => fun
  | [d1, d2] => { results := [.lit (.bool true)], args := [d1, d2] }
  | _ => none }
def openFirstRow : OpenClaim := { program := "ytajokgjebffkgaa", sum := "d46542699321a1f70b4e26e8cb459aed19f181b033c7b06a34c4555fb0b3d4a2", func := "signpost/signpostlaw10.OpenFirst", spec := "openFirst", apart := false }
def OpenFirstSaid : Prop := openFirstRow.holds Try.pinned (OpenSpec.ofChange openFirstSpec)

/-- ITS FALSE NEIGHBOUR: 'it returns false'. Refute it at one input. -/
def openFirstWrong : ChangeSpec := { name := "openFirst", fn := fun _ => fun
  | [d1, d2] => { results := [.lit (.bool false)], args := [d1, d2] }
  | _ => none }
def OpenFirstWrongFalsely : Prop := openFirstRow.holds Try.pinned (OpenSpec.ofChange openFirstWrong)

/-- 'signpostlaw10.OpenSizes': WHATEVER THE INPUT: true; the input reads as it did. -/
def openSizesSpec : ChangeSpec := { name := "openSizes", fn := fun _ => fun
  | [d1, d2, d3, d4] => { results := [.lit (.bool true)], args := [d1, d2, d3, d4] }
  | _ => none }
def openSizesRow : OpenClaim := { program := "ytajokgjebffkgaa", sum := "d46542699321a1f70b4e26e8cb459aed19f181b033c7b06a34c4555fb0b3d4a2", func := "signpost/signpostlaw10.OpenSizes", spec := "openSizes", apart := false }
def OpenSizesSaid : Prop := openSizesRow.holds Try.pinned (OpenSpec.ofChange openSizesSpec)

/-- ITS FALSE NEIGHBOUR: 'it returns false'. Refute it at one input. -/
def openSizesWrong : ChangeSpec := { name := "openSizes", fn := fun _ => fun
  | [d1, d2, d3, d4] => { results := [.lit (.bool false)], args := [d1, d2, d3, d4] }
  | _ => none }
def OpenSizesWrongFalsely : Prop := openSizesRow.holds Try.pinned (OpenSpec.ofChange openSizesWrong)

/-- 'signpostlaw10.OpenBack': WHATEVER THE INPUT: true; the input reads as it did. -/
def openBackSpec : ChangeSpec := { name := "openBack", fn := fun _ => fun
  | [d1, d2, d3, d4, d5, d6, d7] => { results := [.lit (.bool true)], args := [d1, d2, d3, d4, d5, d6, d7] }
  | _ => none }
def openBackRow : OpenClaim := { program := "ytajokgjebffkgaa", sum := "d46542699321a1f70b4e26e8cb459aed19f181b033c7b06a34c4555fb0b3d4a2", func := "signpost/signpostlaw10.OpenBack", spec := "openBack", apart := false }
def OpenBackSaid : Prop := openBackRow.holds Try.pinned (OpenSpec.ofChange openBackSpec)

/-- ITS FALSE NEIGHBOUR: 'it returns false'. Refute it at one input. -/
def openBackWrong : ChangeSpec := { name := "openBack", fn := fun _ => fun
  | [d1, d2, d3, d4, d5, d6, d7] => { results := [.lit (.bool false)], args := [d1, d2, d3, d4, d5, d6, d7] }
  | _ => none }
def OpenBackWrongFalsely : Prop := openBackRow.holds Try.pinned (OpenSpec.ofChange openBackWrong)

/-- 'signpostlaw10.OpenTells': WHATEVER THE INPUT: true; the input reads as it did. -/
def openTellsSpec : ChangeSpec := { name := "openTells", fn := fun _ => fun
  | [d1, d2, d3, d4, d5, d6] => { results := [.lit (.bool true)], args := [d1, d2, d3, d4, d5, d6] }
  | _ => none }
def openTellsRow : OpenClaim := { program := "ytajokgjebffkgaa", sum := "d46542699321a1f70b4e26e8cb459aed19f181b033c7b06a34c4555fb0b3d4a2", func := "signpost/signpostlaw10.OpenTells", spec := "openTells", apart := false }
def OpenTellsSaid : Prop := openTellsRow.holds Try.pinned (OpenSpec.ofChange openTellsSpec)

/-- ITS FALSE NEIGHBOUR: 'it returns false'. Refute it at one input. -/
def openTellsWrong : ChangeSpec := { name := "openTells", fn := fun _ => fun
  | [d1, d2, d3, d4, d5, d6] => { results := [.lit (.bool false)], args := [d1, d2, d3, d4, d5, d6] }
  | _ => none }
def OpenTellsWrongFalsely : Prop := openTellsRow.holds Try.pinned (OpenSpec.ofChange openTellsWrong)

/-- 'signpostlaw5.FrameTells': WHATEVER THE INPUT: true; the input reads as it did. -/
def frameTellsSpec : ChangeSpec := { name := "frameTells", fn := fun _ => fun
  | [d1, d2, d3, d4, d5] => { results := [.lit (.bool true)], args := [d1, d2, d3, d4, d5] }
  | _ => none }
def frameTellsRow : OpenClaim := { program := "ytajokgjebffkgaa", sum := "d46542699321a1f70b4e26e8cb459aed19f181b033c7b06a34c4555fb0b3d4a2", func := "signpost/signpostlaw5.FrameTells", spec := "frameTells", apart := false }
def FrameTellsSaid : Prop := frameTellsRow.holds Try.pinned (OpenSpec.ofChange frameTellsSpec)

/-- ITS FALSE NEIGHBOUR: 'it returns false'. Refute it at one input. -/
def frameTellsWrong : ChangeSpec := { name := "frameTells", fn := fun _ => fun
  | [d1, d2, d3, d4, d5] => { results := [.lit (.bool false)], args := [d1, d2, d3, d4, d5] }
  | _ => none }
def FrameTellsWrongFalsely : Prop := frameTellsRow.holds Try.pinned (OpenSpec.ofChange frameTellsWrong)

/-- 'signpostlaw8.NlriTells': WHATEVER THE INPUT: true; the input reads as it did. -/
def nlriTellsSpec : ChangeSpec := { name := "nlriTells", fn := fun _ => fun
  | [d1, d2, d3, d4, d5] => { results := [.lit (.bool true)], args := [d1, d2, d3, d4, d5] }
  | _ => none }
def nlriTellsRow : OpenClaim := { program := "ytajokgjebffkgaa", sum := "d46542699321a1f70b4e26e8cb459aed19f181b033c7b06a34c4555fb0b3d4a2", func := "signpost/signpostlaw8.NlriTells", spec := "nlriTells", apart := false }
def NlriTellsSaid : Prop := nlriTellsRow.holds Try.pinned (OpenSpec.ofChange nlriTellsSpec)

/-- ITS FALSE NEIGHBOUR: 'it returns false'. Refute it at one input. -/
def nlriTellsWrong : ChangeSpec := { name := "nlriTells", fn := fun _ => fun
  | [d1, d2, d3, d4, d5] => { results := [.lit (.bool false)], args := [d1, d2, d3, d4, d5] }
  | _ => none }
def NlriTellsWrongFalsely : Prop := nlriTellsRow.holds Try.pinned (OpenSpec.ofChange nlriTellsWrong)

/- THE SECOND FORM. 'bulk': how many values and letters a reading holds, each counted each time it is reached (what is shared counts as often as it is met; a slice's spare places count too). A statement '..UptoSaid' is the law's where the arguments, and the package variables that the reading takes, are together of bulk at most 1048576: NARROWER than '..Said'. Prove '..Said' where nothing that the law and all that it calls make is longer than what came in: it says more and counts as full. Else prove '..UptoSaid'. A law counts once. -/
mutual
def uptoBulk {H : Type} : DataW H → Nat
  | .lit (.string bytes) => bytes.length + 1
  | .lit _ => 1
  | .nil => 1
  | .ptr d => uptoBulk d + 1
  | .slice elems spare => uptoBulkAll elems + uptoBulkAll spare + 1
  | .agg parts => uptoBulkAll parts + 1
  | .iface _ d => uptoBulk d + 1
  | .map entries => uptoBulkEntries entries + 1
  | .held _ => 1
def uptoBulkAll {H : Type} : List (DataW H) → Nat
  | [] => 0
  | d :: r => uptoBulk d + uptoBulkAll r
def uptoBulkEntries {H : Type} : List (Lit × DataW H) → Nat
  | [] => 0
  | x :: r => uptoBulkEntry x + uptoBulkEntries r
def uptoBulkEntry {H : Type} : Lit × DataW H → Nat
  | (.string bytes, d) => bytes.length + uptoBulk d + 1
  | (_, d) => uptoBulk d + 1
 end
def uptoSmall : (H : Type) → List (DataW H) → Bool := fun _ ds => decide (uptoBulkAll ds ≤ 1048576)
def OpenSpec.upto (s : _root_.Go.ChangeSpec) : _root_.Go.OpenSpec := { _root_.Go.OpenSpec.ofChange s with cond := some uptoSmall }

/-- 'signpostlaw5.FrameFirst', WHERE WHAT IT READS IS OF BULK AT MOST 1048576: true; the input reads as it did. -/
def frameFirstUptoRow : OpenClaim := { program := "ytajokgjebffkgaa", sum := "d46542699321a1f70b4e26e8cb459aed19f181b033c7b06a34c4555fb0b3d4a2", func := "signpost/signpostlaw5.FrameFirst", spec := "frameFirst", apart := false, narrowed := true }
def FrameFirstUptoSaid : Prop := frameFirstUptoRow.holds Try.pinned (OpenSpec.upto frameFirstSpec)

/-- 'signpostlaw8.NlriBits', WHERE WHAT IT READS IS OF BULK AT MOST 1048576: true; the input reads as it did. -/
def nlriBitsUptoRow : OpenClaim := { program := "ytajokgjebffkgaa", sum := "d46542699321a1f70b4e26e8cb459aed19f181b033c7b06a34c4555fb0b3d4a2", func := "signpost/signpostlaw8.NlriBits", spec := "nlriBits", apart := false, narrowed := true }
def NlriBitsUptoSaid : Prop := nlriBitsUptoRow.holds Try.pinned (OpenSpec.upto nlriBitsSpec)

/-- 'signpostlaw2.MetricBits', WHERE WHAT IT READS IS OF BULK AT MOST 1048576: true; the input reads as it did. -/
def metricBitsUptoRow : OpenClaim := { program := "ytajokgjebffkgaa", sum := "d46542699321a1f70b4e26e8cb459aed19f181b033c7b06a34c4555fb0b3d4a2", func := "signpost/signpostlaw2.MetricBits", spec := "metricBits", inPlace := ["math.Float64frombits", "math.Float64bits"], apart := false, narrowed := true }
def MetricBitsUptoSaid : Prop := metricBitsUptoRow.holds Try.pinned (OpenSpec.upto metricBitsSpec)

/-- 'signpostlaw2.MetricRules', WHERE WHAT IT READS IS OF BULK AT MOST 1048576: true; the input reads as it did. -/
def metricRulesUptoRow : OpenClaim := { program := "ytajokgjebffkgaa", sum := "d46542699321a1f70b4e26e8cb459aed19f181b033c7b06a34c4555fb0b3d4a2", func := "signpost/signpostlaw2.MetricRules", spec := "metricRules", inPlace := ["math.Float64frombits", "math.Float64bits"], apart := false, narrowed := true }
def MetricRulesUptoSaid : Prop := metricRulesUptoRow.holds Try.pinned (OpenSpec.upto metricRulesSpec)

/-- 'signpostlaw10.OpenFirst', WHERE WHAT IT READS IS OF BULK AT MOST 1048576: true; the input reads as it did. -/
def openFirstUptoRow : OpenClaim := { program := "ytajokgjebffkgaa", sum := "d46542699321a1f70b4e26e8cb459aed19f181b033c7b06a34c4555fb0b3d4a2", func := "signpost/signpostlaw10.OpenFirst", spec := "openFirst", apart := false, narrowed := true }
def OpenFirstUptoSaid : Prop := openFirstUptoRow.holds Try.pinned (OpenSpec.upto openFirstSpec)

/-- 'signpostlaw10.OpenSizes', WHERE WHAT IT READS IS OF BULK AT MOST 1048576: true; the input reads as it did. -/
def openSizesUptoRow : OpenClaim := { program := "ytajokgjebffkgaa", sum := "d46542699321a1f70b4e26e8cb459aed19f181b033c7b06a34c4555fb0b3d4a2", func := "signpost/signpostlaw10.OpenSizes", spec := "openSizes", apart := false, narrowed := true }
def OpenSizesUptoSaid : Prop := openSizesUptoRow.holds Try.pinned (OpenSpec.upto openSizesSpec)

/-- 'signpostlaw10.OpenBack', WHERE WHAT IT READS IS OF BULK AT MOST 1048576: true; the input reads as it did. -/
def openBackUptoRow : OpenClaim := { program := "ytajokgjebffkgaa", sum := "d46542699321a1f70b4e26e8cb459aed19f181b033c7b06a34c4555fb0b3d4a2", func := "signpost/signpostlaw10.OpenBack", spec := "openBack", apart := false, narrowed := true }
def OpenBackUptoSaid : Prop := openBackUptoRow.holds Try.pinned (OpenSpec.upto openBackSpec)

/-- 'signpostlaw10.OpenTells', WHERE WHAT IT READS IS OF BULK AT MOST 1048576: true; the input reads as it did. -/
def openTellsUptoRow : OpenClaim := { program := "ytajokgjebffkgaa", sum := "d46542699321a1f70b4e26e8cb459aed19f181b033c7b06a34c4555fb0b3d4a2", func := "signpost/signpostlaw10.OpenTells", spec := "openTells", apart := false, narrowed := true }
def OpenTellsUptoSaid : Prop := openTellsUptoRow.holds Try.pinned (OpenSpec.upto openTellsSpec)

/-- 'signpostlaw5.FrameTells', WHERE WHAT IT READS IS OF BULK AT MOST 1048576: true; the input reads as it did. -/
def frameTellsUptoRow : OpenClaim := { program := "ytajokgjebffkgaa", sum := "d46542699321a1f70b4e26e8cb459aed19f181b033c7b06a34c4555fb0b3d4a2", func := "signpost/signpostlaw5.FrameTells", spec := "frameTells", apart := false, narrowed := true }
def FrameTellsUptoSaid : Prop := frameTellsUptoRow.holds Try.pinned (OpenSpec.upto frameTellsSpec)

/-- 'signpostlaw8.NlriTells', WHERE WHAT IT READS IS OF BULK AT MOST 1048576: true; the input reads as it did. -/
def nlriTellsUptoRow : OpenClaim := { program := "ytajokgjebffkgaa", sum := "d46542699321a1f70b4e26e8cb459aed19f181b033c7b06a34c4555fb0b3d4a2", func := "signpost/signpostlaw8.NlriTells", spec := "nlriTells", apart := false, narrowed := true }
def NlriTellsUptoSaid : Prop := nlriTellsUptoRow.holds Try.pinned (OpenSpec.upto nlriTellsSpec)

end Rows
end Go.Proofs.Ytajokgjebffkgaa
