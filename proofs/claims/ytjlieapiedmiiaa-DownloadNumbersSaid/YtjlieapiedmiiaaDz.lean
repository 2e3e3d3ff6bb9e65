/- Chapter 26: DownloadNumbers, a closed sentence, comes out true. -/
import Derived.Test.YtjlieapiedmiiaaDb
import Derived.Test.YtjlieapiedmiiaaDc
import Derived.Test.YtjlieapiedmiiaaDd
import Derived.Test.YtjlieapiedmiiaaDe
import Derived.Test.YtjlieapiedmiiaaDf
import Derived.Test.YtjlieapiedmiiaaDg
namespace Go.Proofs.Ytjlieapiedmiiaa
open Go Go.Ev Go.RowKit
set_option maxRecDepth 100000
namespace DLaw
theorem q22 {W : World} : Gs W [1, 1, 1, 1, 1, 1, 1, 1, 1, 1, 1, 1, 1, 1, 1, 1, 0, 1, 0] L10 K13 (.exit 0) L14 K18 := .of sh1_1_1_1_1_1_1_1_1_1_1_1_1_1_1_1_0_1_0 (GoesL.loop (n := 5) (GoesL.next (gs (by kernel_rfl) p17) (GoesL.next (gs (by kernel_rfl) p18) (GoesL.next (gs (by kernel_rfl) p19) (GoesL.next (gs (by kernel_rfl) p20) (GoesL.exit (n := 0) (gs (by kernel_rfl) p21)))))))
theorem q23 {W : World} : Gs W [1, 1, 1, 1, 1, 1, 1, 1, 1, 1, 1, 1, 1, 1, 1, 1, 0, 1] L10 K13 (.normal) L14 K18 := .of sh1_1_1_1_1_1_1_1_1_1_1_1_1_1_1_1_0_1 (.blockExit q22)
theorem q24 {W : World} : Gs W [1, 1, 1, 1, 1, 1, 1, 1, 1, 1, 1, 1, 1, 1, 1, 1, 0] L10 K10 (.normal) L14 K18 := .of sh1_1_1_1_1_1_1_1_1_1_1_1_1_1_1_1_0 (.seq (gs (by kernel_rfl) p16) q23)
theorem q32 {W : World} : GsA30 W [1, 1, 1, 1, 0, 1, 0] L0 K24 (.exit 0) L0 K0 := .of shA301_1_1_1_0_1_0 (GoesL.loop (n := 1) (GoesL.exit (n := 0) (gsA30 (by kernel_rfl) p31)))
theorem q33 {W : World} : GsA30 W [1, 1, 1, 1, 0, 1] L0 K24 (.normal) L0 K0 := .of shA301_1_1_1_0_1 (.blockExit q32)
theorem q34 {W : World} : GsA30 W [1, 1, 1, 1, 0] L0 K23 (.normal) L0 K0 := .of shA301_1_1_1_0 (.seq (gsA30 (by kernel_rfl) p30) q33)
theorem q36 {W : World} : GsA30 W [1, 1, 1, 1] L0 K23 (.ret) L0 K25 := .of shA301_1_1_1 (.seq q34 (gsA30 (by kernel_rfl) p35))
theorem q37 {W : World} : GsA30 W [1, 1, 1] L0 K22 (.ret) L0 K25 := .of shA301_1_1 (.seq (gsA30 (by kernel_rfl) p29) q36)
theorem q38 {W : World} : GsA30 W [1, 1] L16 K21 (.ret) L0 K25 := .of shA301_1 (.seq (gsA30 (by kernel_rfl) p28) q37)
theorem q39 {W : World} : GsA30 W [1] L16 K20 (.ret) L0 K25 := .of shA301 (.seq (gsA30 (by kernel_rfl) p27) q38)
theorem q40 {W : World} : GsA30 W [] L16 K20 (.ret) L0 K25 := .of shA30 (.seq (gsA30 (by kernel_rfl) p26) q39)
theorem ks41 : KnownSum Try.prog 30 kn41 := ksA30 (x := .ret) (K' := K25) (L' := L0) L16 K20 kn41 (by kernel_rfl) (by kernel_rfl) (by kernel_rfl) (by kernel_rfl) (.inl rfl) (by kernel_rfl) fun W => q40
theorem q52 {W : World} : GsA30 W [1, 1, 1, 1, 0, 1, 0] L18 K30 (.exit 0) L0 K0 := .of shA301_1_1_1_0_1_0 (GoesL.loop (n := 5) (GoesL.next (gsA30 (by kernel_rfl) p47) (GoesL.next (gsA30 (by kernel_rfl) p48) (GoesL.next (gsA30 (by kernel_rfl) p49) (GoesL.next (gsA30 (by kernel_rfl) p50) (GoesL.exit (n := 0) (gsA30 (by kernel_rfl) p51)))))))
theorem q53 {W : World} : GsA30 W [1, 1, 1, 1, 0, 1] L18 K30 (.normal) L0 K0 := .of shA301_1_1_1_0_1 (.blockExit q52)
theorem q54 {W : World} : GsA30 W [1, 1, 1, 1, 0] L18 K29 (.normal) L0 K0 := .of shA301_1_1_1_0 (.seq (gsA30 (by kernel_rfl) p46) q53)
theorem q56 {W : World} : GsA30 W [1, 1, 1, 1] L18 K29 (.ret) L0 K25 := .of shA301_1_1_1 (.seq q54 (gsA30 (by kernel_rfl) p55))
theorem q57 {W : World} : GsA30 W [1, 1, 1] L18 K28 (.ret) L0 K25 := .of shA301_1_1 (.seq (gsA30 (by kernel_rfl) p45) q56)
theorem q58 {W : World} : GsA30 W [1, 1] L17 K27 (.ret) L0 K25 := .of shA301_1 (.seq (gsA30 (by kernel_rfl) p44) q57)
theorem q59 {W : World} : GsA30 W [1] L16 K26 (.ret) L0 K25 := .of shA301 (.seq (gsA30 (by kernel_rfl) p43) q58)
theorem q60 {W : World} : GsA30 W [] L16 K26 (.ret) L0 K25 := .of shA30 (.seq (gsA30 (by kernel_rfl) p42) q59)
theorem ks61 : KnownSum Try.prog 30 kn61 := ksA30 (x := .ret) (K' := K25) (L' := L0) L16 K26 kn61 (by kernel_rfl) (by kernel_rfl) (by kernel_rfl) (by kernel_rfl) (.inl rfl) (by kernel_rfl) fun W => q60
theorem q72 {W : World} : GsA30 W [1, 1, 1, 1, 0, 1, 0] L20 K39 (.exit 0) L0 K0 := .of shA301_1_1_1_0_1_0 (GoesL.loop (n := 5) (GoesL.next (gsA30 (by kernel_rfl) p67) (GoesL.next (gsA30 (by kernel_rfl) p68) (GoesL.next (gsA30 (by kernel_rfl) p69) (GoesL.next (gsA30 (by kernel_rfl) p70) (GoesL.exit (n := 0) (gsA30 (by kernel_rfl) p71)))))))
theorem q73 {W : World} : GsA30 W [1, 1, 1, 1, 0, 1] L20 K39 (.normal) L0 K0 := .of shA301_1_1_1_0_1 (.blockExit q72)
theorem q74 {W : World} : GsA30 W [1, 1, 1, 1, 0] L20 K38 (.normal) L0 K0 := .of shA301_1_1_1_0 (.seq (gsA30 (by kernel_rfl) p66) q73)
theorem q76 {W : World} : GsA30 W [1, 1, 1, 1] L20 K38 (.ret) L0 K25 := .of shA301_1_1_1 (.seq q74 (gsA30 (by kernel_rfl) p75))
theorem q77 {W : World} : GsA30 W [1, 1, 1] L20 K37 (.ret) L0 K25 := .of shA301_1_1 (.seq (gsA30 (by kernel_rfl) p65) q76)
theorem q78 {W : World} : GsA30 W [1, 1] L19 K36 (.ret) L0 K25 := .of shA301_1 (.seq (gsA30 (by kernel_rfl) p64) q77)
theorem q79 {W : World} : GsA30 W [1] L16 K35 (.ret) L0 K25 := .of shA301 (.seq (gsA30 (by kernel_rfl) p63) q78)
theorem q80 {W : World} : GsA30 W [] L16 K35 (.ret) L0 K25 := .of shA30 (.seq (gsA30 (by kernel_rfl) p62) q79)
theorem ks81 : KnownSum Try.prog 30 kn81 := ksA30 (x := .ret) (K' := K25) (L' := L0) L16 K35 kn81 (by kernel_rfl) (by kernel_rfl) (by kernel_rfl) (by kernel_rfl) (.inl rfl) (by kernel_rfl) fun W => q80
theorem q88 {W : World} : GsA30 W [1, 1, 1, 1, 0, 1, 0] L0 K24 (.exit 0) L0 K0 := .of shA301_1_1_1_0_1_0 (GoesL.loop (n := 1) (GoesL.exit (n := 0) (gsA30 (by kernel_rfl) p87)))
theorem q89 {W : World} : GsA30 W [1, 1, 1, 1, 0, 1] L0 K24 (.normal) L0 K0 := .of shA301_1_1_1_0_1 (.blockExit q88)
theorem q90 {W : World} : GsA30 W [1, 1, 1, 1, 0] L0 K23 (.normal) L0 K0 := .of shA301_1_1_1_0 (.seq (gsA30 (by kernel_rfl) p86) q89)
theorem q92 {W : World} : GsA30 W [1, 1, 1, 1] L0 K23 (.ret) L0 K25 := .of shA301_1_1_1 (.seq q90 (gsA30 (by kernel_rfl) p91))
theorem q93 {W : World} : GsA30 W [1, 1, 1] L0 K46 (.ret) L0 K25 := .of shA301_1_1 (.seq (gsA30 (by kernel_rfl) p85) q92)
theorem q94 {W : World} : GsA30 W [1, 1] L21 K45 (.ret) L0 K25 := .of shA301_1 (.seq (gsA30 (by kernel_rfl) p84) q93)
theorem q95 {W : World} : GsA30 W [1] L21 K44 (.ret) L0 K25 := .of shA301 (.seq (gsA30 (by kernel_rfl) p83) q94)
theorem q96 {W : World} : GsA30 W [] L21 K44 (.ret) L0 K25 := .of shA30 (.seq (gsA30 (by kernel_rfl) p82) q95)
theorem ks97 : KnownSum Try.prog 30 kn97 := ksA30 (x := .ret) (K' := K25) (L' := L0) L21 K44 kn97 (by kernel_rfl) (by kernel_rfl) (by kernel_rfl) (by kernel_rfl) (.inl rfl) (by kernel_rfl) fun W => q96
theorem q104 {W : World} : GsA30 W [1, 1, 1, 1, 0, 1, 0] L0 K24 (.exit 0) L0 K0 := .of shA301_1_1_1_0_1_0 (GoesL.loop (n := 1) (GoesL.exit (n := 0) (gsA30 (by kernel_rfl) p103)))
theorem q105 {W : World} : GsA30 W [1, 1, 1, 1, 0, 1] L0 K24 (.normal) L0 K0 := .of shA301_1_1_1_0_1 (.blockExit q104)
theorem q106 {W : World} : GsA30 W [1, 1, 1, 1, 0] L0 K23 (.normal) L0 K0 := .of shA301_1_1_1_0 (.seq (gsA30 (by kernel_rfl) p102) q105)
theorem q108 {W : World} : GsA30 W [1, 1, 1, 1] L0 K23 (.ret) L0 K25 := .of shA301_1_1_1 (.seq q106 (gsA30 (by kernel_rfl) p107))
theorem q109 {W : World} : GsA30 W [1, 1, 1] L0 K46 (.ret) L0 K25 := .of shA301_1_1 (.seq (gsA30 (by kernel_rfl) p101) q108)
theorem q110 {W : World} : GsA30 W [1, 1] L22 K48 (.ret) L0 K25 := .of shA301_1 (.seq (gsA30 (by kernel_rfl) p100) q109)
theorem q111 {W : World} : GsA30 W [1] L22 K47 (.ret) L0 K25 := .of shA301 (.seq (gsA30 (by kernel_rfl) p99) q110)
theorem q112 {W : World} : GsA30 W [] L22 K47 (.ret) L0 K25 := .of shA30 (.seq (gsA30 (by kernel_rfl) p98) q111)
theorem ks113 : KnownSum Try.prog 30 kn113 := ksA30 (x := .ret) (K' := K25) (L' := L0) L22 K47 kn113 (by kernel_rfl) (by kernel_rfl) (by kernel_rfl) (by kernel_rfl) (.inl rfl) (by kernel_rfl) fun W => q112
theorem q124 {W : World} : GsA30 W [1, 1, 1, 1, 0, 1, 0] L25 K53 (.exit 0) L0 K0 := .of shA301_1_1_1_0_1_0 (GoesL.loop (n := 5) (GoesL.next (gsA30 (by kernel_rfl) p119) (GoesL.next (gsA30 (by kernel_rfl) p120) (GoesL.next (gsA30 (by kernel_rfl) p121) (GoesL.next (gsA30 (by kernel_rfl) p122) (GoesL.exit (n := 0) (gsA30 (by kernel_rfl) p123)))))))
theorem q125 {W : World} : GsA30 W [1, 1, 1, 1, 0, 1] L25 K53 (.normal) L0 K0 := .of shA301_1_1_1_0_1 (.blockExit q124)
theorem q126 {W : World} : GsA30 W [1, 1, 1, 1, 0] L25 K52 (.normal) L0 K0 := .of shA301_1_1_1_0 (.seq (gsA30 (by kernel_rfl) p118) q125)
theorem q128 {W : World} : GsA30 W [1, 1, 1, 1] L25 K52 (.ret) L0 K25 := .of shA301_1_1_1 (.seq q126 (gsA30 (by kernel_rfl) p127))
theorem q129 {W : World} : GsA30 W [1, 1, 1] L25 K51 (.ret) L0 K25 := .of shA301_1_1 (.seq (gsA30 (by kernel_rfl) p117) q128)
theorem q130 {W : World} : GsA30 W [1, 1] L24 K50 (.ret) L0 K25 := .of shA301_1 (.seq (gsA30 (by kernel_rfl) p116) q129)
theorem q131 {W : World} : GsA30 W [1] L23 K49 (.ret) L0 K25 := .of shA301 (.seq (gsA30 (by kernel_rfl) p115) q130)
theorem q132 {W : World} : GsA30 W [] L23 K49 (.ret) L0 K25 := .of shA30 (.seq (gsA30 (by kernel_rfl) p114) q131)
theorem ks133 : KnownSum Try.prog 30 kn133 := ksA30 (x := .ret) (K' := K25) (L' := L0) L23 K49 kn133 (by kernel_rfl) (by kernel_rfl) (by kernel_rfl) (by kernel_rfl) (.inl rfl) (by kernel_rfl) fun W => q132
theorem q136 {W : World} : Gs W [1, 1, 1, 1, 1, 1, 1, 1, 1, 1, 1, 1, 1, 1, 1, 1, 1, 1] L15 K19 (.ret) L0 K58 := .of sh1_1_1_1_1_1_1_1_1_1_1_1_1_1_1_1_1_1 (.seq (gsK30 (more ks133 (more ks113 (more ks97 (more ks81 (more ks61 (more ks41 none0)))))) (by kernel_rfl) p134) (gs (by kernel_rfl) p135))
theorem q137 {W : World} : Gs W [1, 1, 1, 1, 1, 1, 1, 1, 1, 1, 1, 1, 1, 1, 1, 1, 1] L14 K18 (.ret) L0 K58 := .of sh1_1_1_1_1_1_1_1_1_1_1_1_1_1_1_1_1 (.seq (gs (by kernel_rfl) p25) q136)
theorem q138 {W : World} : Gs W [1, 1, 1, 1, 1, 1, 1, 1, 1, 1, 1, 1, 1, 1, 1, 1] L10 K10 (.ret) L0 K58 := .of sh1_1_1_1_1_1_1_1_1_1_1_1_1_1_1_1 (.seq q24 q137)
theorem q139 {W : World} : Gs W [1, 1, 1, 1, 1, 1, 1, 1, 1, 1, 1, 1, 1, 1, 1] L9 K10 (.ret) L0 K58 := .of sh1_1_1_1_1_1_1_1_1_1_1_1_1_1_1 (.seq (gs (by kernel_rfl) p15) q138)
theorem q140 {W : World} : Gs W [1, 1, 1, 1, 1, 1, 1, 1, 1, 1, 1, 1, 1, 1] L8 K12 (.ret) L0 K58 := .of sh1_1_1_1_1_1_1_1_1_1_1_1_1_1 (.seq (gs (by kernel_rfl) p14) q139)
theorem q141 {W : World} : Gs W [1, 1, 1, 1, 1, 1, 1, 1, 1, 1, 1, 1, 1] L7 K11 (.ret) L0 K58 := .of sh1_1_1_1_1_1_1_1_1_1_1_1_1 (.seq (gs (by kernel_rfl) p13) q140)
theorem q142 {W : World} : Gs W [1, 1, 1, 1, 1, 1, 1, 1, 1, 1, 1, 1] L6 K10 (.ret) L0 K58 := .of sh1_1_1_1_1_1_1_1_1_1_1_1 (.seq (gs (by kernel_rfl) p12) q141)
theorem q143 {W : World} : Gs W [1, 1, 1, 1, 1, 1, 1, 1, 1, 1, 1] L6 K9 (.ret) L0 K58 := .of sh1_1_1_1_1_1_1_1_1_1_1 (.seq (gs (by kernel_rfl) p11) q142)
theorem q144 {W : World} : Gs W [1, 1, 1, 1, 1, 1, 1, 1, 1, 1] L5 K8 (.ret) L0 K58 := .of sh1_1_1_1_1_1_1_1_1_1 (.seq (gs (by kernel_rfl) p10) q143)
theorem q145 {W : World} : Gs W [1, 1, 1, 1, 1, 1, 1, 1, 1] L5 K7 (.ret) L0 K58 := .of sh1_1_1_1_1_1_1_1_1 (.seq (gs (by kernel_rfl) p9) q144)
theorem q146 {W : World} : Gs W [1, 1, 1, 1, 1, 1, 1, 1] L5 K6 (.ret) L0 K58 := .of sh1_1_1_1_1_1_1_1 (.seq (gs (by kernel_rfl) p8) q145)
theorem q147 {W : World} : Gs W [1, 1, 1, 1, 1, 1, 1] L4 K5 (.ret) L0 K58 := .of sh1_1_1_1_1_1_1 (.seq (gs (by kernel_rfl) p7) q146)
theorem q148 {W : World} : Gs W [1, 1, 1, 1, 1, 1] L4 K5 (.ret) L0 K58 := .of sh1_1_1_1_1_1 (.seq (gs (by kernel_rfl) p6) q147)
theorem q149 {W : World} : Gs W [1, 1, 1, 1, 1] L3 K4 (.ret) L0 K58 := .of sh1_1_1_1_1 (.seq (gs (by kernel_rfl) p5) q148)
theorem q150 {W : World} : Gs W [1, 1, 1, 1] L2 K3 (.ret) L0 K58 := .of sh1_1_1_1 (.seq (gs (by kernel_rfl) p4) q149)
theorem q151 {W : World} : Gs W [1, 1, 1] L1 K2 (.ret) L0 K58 := .of sh1_1_1 (.seq (gs (by kernel_rfl) p3) q150)
theorem q152 {W : World} : Gs W [1, 1] L0 K1 (.ret) L0 K58 := .of sh1_1 (.seq (gs (by kernel_rfl) p2) q151)
theorem q153 {W : World} : Gs W [1] L0 K0 (.ret) L0 K58 := .of sh1 (.seq (gs (by kernel_rfl) p1) q152)
theorem q154 {W : World} : Gs W [] L0 K0 (.ret) L0 K58 := .of sh (.seq (gs (by kernel_rfl) p0) q153)
theorem whole : Try.f6.body = some (nav [] B) := by kernel_rfl
theorem walk (W : World) : Calls Try.prog 6 #[] W fun e W' => e = .returned (.bool true) ∧ Below W.heap.size W W' :=
  Goes.calls (H := hk G L0) (t := tk NT K58) (e := .ret) (s' := ⟨hk G L0, 0, none, []⟩) Try.func6 whole (Nat.le_of_ble_eq_true (by kernel_rfl)) q154 (.inl rfl) (by kernel_rfl) rfl rfl
end DLaw
end Go.Proofs.Ytjlieapiedmiiaa
