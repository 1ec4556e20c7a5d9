/- SuperTells walked. -/
import Derived.Test.YtdecpkcdljpnaaaDoorSupOfA
import Derived.Test.YtdecpkcdljpnaaaDoorSupWakes
import Derived.Test.YtdecpkcdljpnaaaDoorRefEnc
import Derived.Test.YtdecpkcdljpnaaaDoorMakeS
set_option linter.unusedVariables false
set_option linter.unusedSimpArgs false
namespace Go.Proofs.YtdecpkcdljpnaaaDoor
open Go.RowKit

set_option maxHeartbeats 8000000 in
theorem supertells (gen a b window epoch out how : Int) (w : World) (hgen : (-9223372036854775808 ≤ gen ∧ gen ≤ 9223372036854775807)) (ha : (-9223372036854775808 ≤ a ∧ a ≤ 9223372036854775807)) (hb : (-9223372036854775808 ≤ b ∧ b ≤ 9223372036854775807)) (hwin : (-9223372036854775808 ≤ window ∧ window ≤ 9223372036854775807)) (hep : (-9223372036854775808 ≤ epoch ∧ epoch ≤ 9223372036854775807)) (hout : (-9223372036854775808 ≤ out ∧ out ≤ 9223372036854775807)) (hhow : (-9223372036854775808 ≤ how ∧ how ≤ 9223372036854775807)) (ht : TabOk w) :
    Calls Tryd.prog 4 #[.int .i64 gen, .int .i64 a, .int .i64 b, .int .i64 window, .int .i64 epoch, .int .i64 out, .int .i64 how] w fun e w' => e = .returned (.bool true) ∧ Below w.heap.size w w' := by
  have CO := Lib.hid (fun V => suOf_any gen a b window epoch out how V hgen ha hb hwin hep hout hhow)
  have Ht := Lib.hid ht
  have hw0 : 0 < w.heap.size := ht.pos
  have Wk := Lib.hid (fun W (hW : Below w.heap.size w W) => wakesSu_any W (Ht.out.below hW hw0))
  clear hgen ha hb hwin hep hout hhow ht
  go_enter Tryd.func4, Tryd.ntmps4
  go_wp2_with fail
  (with_reducible refine (CO.out _).mono ?_); rintro e w1 ⟨s, h64, rfl, hb1⟩
  have S0 := ss_new w1 s 25 (0, 0)
  have HF1 := Lib.hid hb1
  clear CO hb1
  cases hok : suOk s
  · have CN := Lib.hid (fun W => suEncode_no s W h64 hok)
    have RN := Lib.hid (fun W => refEncode_no s W h64 hok)
    have CK := Lib.hid (fun W => suCheck_no s W h64 hok)
    have CS := Lib.hid (fun W => same_eq none none 0 0 0 0 [] W rfl (RdB.nil _ _ _) (RdB.nil _ _ _))
    clear hok h64
    go_wp2_with fail
    (with_reducible refine (CN.out _).mono ?_); rintro e w2 ⟨rfl, hb2⟩
    have S1 := S0.later hb2
    have HS1 := Lib.hid S1
    clear S0 hb2
    obtain ⟨⟨c0, c1, c2, c3, c4, c5, c6, c7, c8, c9, c10⟩, _, _⟩ := S1
    go_wp2_with fail
    (with_reducible refine (RN.out _).mono ?_); rintro e w3 ⟨rfl, hb3⟩
    have S2 := HS1.out.later hb3
    have HS2 := Lib.hid S2
    clear HS1 hb3 c0 c1 c2 c3 c4 c5 c6 c7 c8 c9 c10
    obtain ⟨⟨c0, c1, c2, c3, c4, c5, c6, c7, c8, c9, c10⟩, _, _⟩ := S2
    go_wp2_with fail
    (with_reducible refine (CK.out _).mono ?_); rintro e w4 ⟨rfl, hb4⟩
    have S3 := HS2.out.later hb4
    have HS3 := Lib.hid S3
    clear HS2 hb4 c0 c1 c2 c3 c4 c5 c6 c7 c8 c9 c10 S3
    go_wp2_with fail
    (with_reducible refine (CS.out _).mono ?_); rintro e w5 ⟨rfl, hb5⟩
    have F5 := HF1.out.trans ((HS3.out.later hb5).2.1.mono HF1.out.size)
    clear hb5
    go_wp2_with fail
    (with_reducible refine (Wk.out _ F5).mono ?_); rintro e w6 ⟨rfl, hb6⟩
    go_wp2_with fail
    go_ret
    exact ⟨rfl, F5.trans (hb6.mono F5.size)⟩
  · have CY := Lib.hid (fun W hW => suEncode_yes s W h64 hok (Ht.out.below (B := w.heap.size) hW hw0))
    have RY := Lib.hid (fun W => refEncode_yes s W h64 hok)
    have CK := Lib.hid (fun W => suCheck_yes s W h64 hok)
    have HL := Lib.hid (suB_len s)
    clear hok h64
    have T0 := HF1.out.trans (S0.2.1.mono HF1.out.size)
    go_wp2_with fail
    (with_reducible refine (CY.out _ T0).mono ?_); rintro e w2 ⟨g, rfl, o2, hb2⟩
    have S1 := S0.later hb2
    have HS1 := Lib.hid S1
    clear S0 hb2 T0
    obtain ⟨⟨c0, c1, c2, c3, c4, c5, c6, c7, c8, c9, c10⟩, _, _⟩ := S1
    go_wp2_with fail
    (with_reducible refine (RY.out _).mono ?_); rintro e w3 ⟨v, rfl, o3, hb3⟩
    have S2 := HS1.out.later hb3
    have HS2 := Lib.hid S2
    have p3 := o2.below hb3
    clear HS1 hb3 c0 c1 c2 c3 c4 c5 c6 c7 c8 c9 c10 o2
    obtain ⟨⟨c0, c1, c2, c3, c4, c5, c6, c7, c8, c9, c10⟩, _, _⟩ := S2
    go_wp2_with fail
    (with_reducible refine (CK.out _).mono ?_); rintro e w4 ⟨rfl, hb4⟩
    have S3 := HS2.out.later hb4
    have HS3 := Lib.hid S3
    have p4 := p3.below hb4
    have o4 := o3.below hb4
    obtain ⟨A, cp, rfl, hcp, hrd⟩ := o4.rd
    rw [HL.out]
    have CS := Lib.hid (same_eq (some ⟨g, 0, none⟩) A 32 32 cp w4.heap.size (suB s) w4 HL.out.symm p4.rdS.1 hrd)
    clear HS2 hb4 c0 c1 c2 c3 c4 c5 c6 c7 c8 c9 c10 S3 p3 p4 o3 o4 hrd hcp HL
    go_wp2_with fail
    (with_reducible refine (CS.out).mono ?_); rintro e w5 ⟨rfl, hb5⟩
    have F5 := HF1.out.trans ((HS3.out.later hb5).2.1.mono HF1.out.size)
    clear hb5
    go_wp2_with fail
    (with_reducible refine (Wk.out _ F5).mono ?_); rintro e w6 ⟨rfl, hb6⟩
    go_wp2_with fail
    go_ret
    exact ⟨rfl, F5.trans (hb6.mono F5.size)⟩
end Go.Proofs.YtdecpkcdljpnaaaDoor
