/- RecordUnlike walked. -/
import Derived.Test.YtfgiomidlfoonaaDoorRecordUnlikeLoops
set_option linter.unusedVariables false
set_option linter.unusedSimpArgs false
namespace Go.Proofs.YtfgiomidlfoonaaDoor
open Go.RowKit

/-- Encode, told by its error alone. -/
theorem encode_err (A : Option Addr) (n c : Nat) (s : Int) (l : List It) (w : World) (hn : l.length = n) (hnc : n ≤ c) (hs : (-9223372036854775808 ≤ s ∧ s ≤ 9223372036854775807)) (h : RdI w w.heap.size A l) (h64 : Its64 l) (ht : TabOk w) :
    Calls Tryd.prog 9 #[.agg #[.int .i64 s, .slice A n c]] w fun e w' => ∃ A' n' c', e = .returned (.tuple #[.slice A' n' c', .int .i64 (recErr s l)]) ∧ Below w.heap.size w w' := by
  cases hk : recOk s l
  · refine (encode_no A n c s l w hn hnc hs h h64 (Lib.hid hk)).mono ?_
    rintro e w' ⟨rfl, hb⟩
    rw [recErr_no hk]
    exact ⟨_, _, _, rfl, hb⟩
  · refine (encode_yes A n c s l w hn hnc hs h h64 (Lib.hid hk) ht).mono ?_
    rintro e w' ⟨g, bk, rfl, _, hb⟩
    rw [recErr_yes hk]
    exact ⟨_, _, _, rfl, hb⟩
theorem recB_eq {s t : Int} {l m : List It} (h : recOk s l = true) (g : recOk t m = true) : decide (recB s l = recB t m) = decide (s = t ∧ l = m) := by
  rw [Bool.eq_iff_iff, decide_eq_true_iff, decide_eq_true_iff]
  exact ⟨recB_inj h g, fun ⟨a, b⟩ => by rw [a, b]⟩
set_option maxRecDepth 100000 in
set_option maxHeartbeats 8000000 in
theorem recordunlike (seq other : Int) (A : Option Addr) (l : List Int) (cl : Nat) (A2 : Option Addr) (m : List Int) (cm : Nat) (how what : Int) (w : World) (hseq : (-9223372036854775808 ≤ seq ∧ seq ≤ 9223372036854775807)) (hoth : (-9223372036854775808 ≤ other ∧ other ≤ 9223372036854775807)) (_ : l.length ≤ cl) (hz : RdZ w w.heap.size A l) (_ : m.length ≤ cm) (hz2 : RdZ w w.heap.size A2 m) (hhow : (-9223372036854775808 ≤ how ∧ how ≤ 9223372036854775807)) (hwhat : (-9223372036854775808 ≤ what ∧ what ≤ 9223372036854775807)) (ht : TabOk w) :
    Calls Tryd.prog 7 #[.int .i64 seq, .int .i64 other, .slice A l.length cl, .slice A2 m.length cm, .int .i64 how, .int .i64 what] w fun e w' => e = .returned (.bool true) ∧ Below w.heap.size w w' := by
  have hm1 : -60 < how.tmod 60 := Int.lt_tmod_of_pos _ (by omega)
  have hm2 : how.tmod 60 < 60 := Int.tmod_lt_of_pos _ (by omega)
  have hm3 : -60 < what.tmod 60 := Int.lt_tmod_of_pos _ (by omega)
  have hm4 : what.tmod 60 < 60 := Int.tmod_lt_of_pos _ (by omega)
  have CO := Lib.hid (of_any seq (how.tmod 60) A l cl w hseq (by omega) hz)
  have CO2 := Lib.hid (fun W (hW : Below w.heap.size w W) => of_any other (what.tmod 60) A2 m cm W hoth (by omega) (hz2.keep hW.size fun p hp => hW.cell hp))
  have Ht := Lib.hid ht
  have hw0 : 0 < w.heap.size := ht.pos
  have Wk := Lib.hid (fun W (hW : Below w.heap.size w W) => wakesRec_any W (Ht.out.below hW hw0))
  clear hseq hoth hz hz2 hhow hwhat ht hm1 hm2 hm3 hm4
  go_enter Tryd.func7, Tryd.ntmps7
  go_wp2_with fail
  (with_reducible refine CO.out.mono ?_); rintro e w1 ⟨s, L, B, cb, rfl, hs64, h64, hl6, ho1, hb1⟩
  have HB1 := Lib.hid hb1
  have HO1 := Lib.hid ho1
  have H64 := Lib.hid h64
  clear CO hb1 ho1 h64
  go_wp2_with fail
  (with_reducible refine (CO2.out _ HB1.out).mono ?_); rintro e w2 ⟨t, M, B2, cb2, rfl, ht64, m64, hm6, ho2, hb2⟩
  have ho1 := HO1.out.below hb2
  obtain ⟨_, hlc, hr1⟩ := ho1.rdS
  obtain ⟨_, hmc, hr2⟩ := ho2.rdS
  have B4 := below2 w2 (.cells #[.int .i64 s, .slice B L.length cb] 32) (.cells #[.int .i64 t, .slice B2 M.length cb2] 32)
  have HR1 := Lib.hid (hr1.later B4)
  have HR2 := Lib.hid (hr2.later B4)
  have HX1 := Lib.hid ((rxb_new w2 s B L.length cb 32).below (below1 (w2.alloc (.cells #[.int .i64 s, .slice B L.length cb] 32)) (.cells #[.int .i64 t, .slice B2 M.length cb2] 32)))
  have HX2 := Lib.hid (rxb_new (w2.alloc (.cells #[.int .i64 s, .slice B L.length cb] 32)) t B2 M.length cb2 32)
  rw [show (w2.alloc (.cells #[.int .i64 s, .slice B L.length cb] 32)).heap.size = w2.heap.size + 1 by simp] at HX2
  have F4 := Lib.hid (HB1.out.trans ((hb2.trans (B4.mono hb2.size)).mono HB1.out.size))
  have M64 := Lib.hid m64
  obtain ⟨W4, hW4⟩ : ∃ W, ((w2.alloc (.cells #[.int .i64 s, .slice B L.length cb] 32)).alloc (.cells #[.int .i64 t, .slice B2 M.length cb2] 32)) = W := ⟨_, rfl⟩
  rw [hW4] at HR1 HR2 HX1 HX2 F4
  have G4 := Lib.hid hW4
  have HW2 : Hid (w2.heap.size < W4.heap.size) := Lib.hid HX1.out.lt
  clear hb2 ho1 ho2 hr1 hr2 B4 HB1 HO1 CO2 m64
  clear hW4
  go_wp2_with fail
  rw [G4.out]
  cases hok : recOk s L
  · have CE := Lib.hid (encode_no B L.length cb s L W4 rfl hlc hs64 HR1.out H64.out (Lib.hid hok))
    clear hok G4
    (with_reducible refine CE.out.mono ?_); rintro e w5 ⟨rfl, hb5⟩
    have F5 := Lib.hid (F4.out.trans (hb5.mono F4.out.size))
    have HX5 := Lib.hid (HX2.out.below hb5)
    have CE2 := Lib.hid (encode_err B2 M.length cb2 t M w5 rfl hmc ht64 (HR2.out.later hb5) M64.out (Ht.out.below F5.out hw0))
    clear hb5 CE HX1 HX2 HR1 HR2 F4
    obtain ⟨q2, q3⟩ := HX5.out
    go_wp2_with fail
    (with_reducible refine CE2.out.mono ?_); rintro e w6 ⟨A6, n6, c6, rfl, hb6⟩
    have F6 := Lib.hid (F5.out.trans (hb6.mono F5.out.size))
    clear hb6 CE2 q2 q3 HX5
    go_wp2_with fail
    (with_reducible refine (Wk.out _ F6.out).mono ?_); rintro e w7 ⟨rfl, hb7⟩
    go_wp2_with fail
    go_ret
    exact ⟨rfl, F6.out.trans (hb7.mono F6.out.size)⟩
  · have CY := Lib.hid (encode_yes B L.length cb s L W4 rfl hlc hs64 HR1.out H64.out (Lib.hid hok) (Ht.out.below F4.out hw0))
    clear G4
    have HOK := Lib.hid hok
    clear hok
    (with_reducible refine CY.out.mono ?_); rintro e w5 ⟨g, bk, rfl, hp5, hb5⟩
    have F5 := Lib.hid (F4.out.trans (hb5.mono F4.out.size))
    have HX5 := Lib.hid (HX2.out.below hb5)
    have HY5 := Lib.hid (HX1.out.below hb5)
    have HP5 := Lib.hid hp5
    have G5 := Lib.hid hb5
    have HR5 := Lib.hid (HR2.out.later hb5)
    obtain ⟨q2, q3⟩ := HX5.out
    clear hb5 CY HX1 HX2 hp5
    cases hok2 : recOk t M
    · have CE := Lib.hid (encode_no B2 M.length cb2 t M w5 rfl hmc ht64 HR5.out M64.out (Lib.hid hok2))
      clear hok2
      go_wp2_with fail
      (with_reducible refine CE.out.mono ?_); rintro e w6 ⟨rfl, hb6⟩
      have F6 := Lib.hid (F5.out.trans (hb6.mono F5.out.size))
      clear hb6 CE q2 q3 HX5 HY5 HP5 G5 HR5 HR1 HR2 F4
      go_wp2_with fail
      (with_reducible refine (Wk.out _ F6.out).mono ?_); rintro e w7 ⟨rfl, hb7⟩
      go_wp2_with fail
      go_ret
      exact ⟨rfl, F6.out.trans (hb7.mono F6.out.size)⟩
    · have CY2 := Lib.hid (encode_yes B2 M.length cb2 t M w5 rfl hmc ht64 HR5.out M64.out (Lib.hid hok2) (Ht.out.below F5.out hw0))
      have HEQ := Lib.hid (recB_eq HOK.out hok2)
      have hL1 := (recB_len (s := s) ((recOk_iff s L).1 HOK.out).1.2.2)
      have hL2 := (recB_len (s := t) ((recOk_iff t M).1 hok2).1.2.2)
      clear hok2
      go_wp2_with fail
      (with_reducible refine CY2.out.mono ?_); rintro e w6 ⟨g2, bk2, rfl, hp6, hb6⟩
      have F6 := Lib.hid (F5.out.trans (hb6.mono F5.out.size))
      have HP6 := Lib.hid (HP5.out.below hb6)
      have HQ6 := Lib.hid hp6
      have HX6 := Lib.hid (HX5.out.below hb6)
      have HY6 := Lib.hid (HY5.out.below hb6)
      have G6 := Lib.hid (G5.out.trans (hb6.mono G5.out.size))
      have HR6 := Lib.hid (HR5.out.later hb6)
      have HS6 := Lib.hid (HR1.out.later G6.out)
      have HL := Lib.hid (And.intro hL1 hL2)
      clear hb6 CY2 q2 q3 HX5 HY5 HP5 G5 HR5 HR2 hp6 hL1 hL2
      go_upto_block 0 with fail
      refine wp_block ?_
      refine ruA _ _ _ _ _ _ _ _ _ _ _ _ _ _ _ _ _ _ _ _ _ _ _ _ _ _ _ _ _ _ _ _ _ _ _ _ _ _ _ _ _ _ _ _ _ _ _ _ _ _ _ _ _ _ _ _ _ _ _ _ _ _ _ _ _ _ _ _ _ _ _ _ _ _ _ _ _ _ _ _ _ _ _ _ _ _ _ _ _ _ _ _ _ _ _ _ _ _ _ _ _ _ _ _ _ _ _ _ _ _ _ _ _ _ _ _ _ _ _ _ _ _ _ _ _ _ _ _ _ _ _ _ _ _ _ _ HP6.out HQ6.out HL.out.1 HL.out.2 ⟨by omega, rfl, Below.refl _ _⟩ (fun v20 v60 v61 v62 v63 v64 v65 v66 v67 v68 v69 v70 v71 v72 v73 v74 j q w7 hI hx => ?_)
      subst hx
      obtain ⟨_, hq, hB⟩ := hI
      rw [sameN_all HL.out.1 HL.out.2, HEQ.out] at hq
      have F7 := Lib.hid (F6.out.trans (hB.mono F6.out.size))
      have HP7 := Lib.hid (HP6.out.below hB)
      have HY7 := Lib.hid (HY6.out.below hB)
      have HX7 := Lib.hid (HX6.out.below hB)
      have G7 := Lib.hid (G6.out.trans (hB.mono G6.out.size))
      have CS := Lib.hid (sameRec_any s t B B2 L.length M.length cb cb2 L M w7 rfl rfl (HS6.out.later hB) (HR6.out.later hB))
      rw [← hq] at CS
      obtain ⟨q0, q1⟩ := HY7.out
      obtain ⟨q2, q3⟩ := HX7.out
      clear hq hB HP6 HQ6 HX6 HY6 G6 HR6 HS6
      have hqq : (q != q) = false := by cases q <;> rfl
      go_wp2_with fail
      (with_reducible refine CS.out.mono ?_); rintro e w8 ⟨rfl, hb8⟩
      have F8 := Lib.hid (F7.out.trans (hb8.mono F7.out.size))
      have HP8 := Lib.hid (HP7.out.below hb8)
      have HY8 := Lib.hid (HY7.out.below hb8)
      have G8 := Lib.hid (G7.out.trans (hb8.mono G7.out.size))
      clear hb8 CS q0 q1 q2 q3 HX7 HY7 G7 HP7
      go_upto_block 2 with fail
      refine wp_block ?_
      refine ruB _ _ _ _ _ _ _ _ _ _ _ _ _ _ _ _ _ _ _ _ _ _ _ _ _ _ _ _ _ _ _ _ _ _ _ _ _ _ _ _ _ _ _ _ _ _ _ _ _ _ _ _ _ _ _ _ _ _ _ _ _ _ _ _ _ _ _ _ _ _ _ _ _ _ _ _ _ _ _ _ _ _ _ _ _ _ _ _ _ _ _ _ _ _ _ _ _ _ _ _ _ _ _ _ _ _ _ _ _ _ _ _ _ _ _ _ _ _ _ _ _ _ _ _ _ _ _ _ _ _ _ _ _ _ _ _ _ _ G8.out.size ⟨by omega, HL.out.1, HP8.out, Below.refl _ _⟩ (fun v21 v89 v90 v91 v92 v93 v94 v95 v96 v97 v98 v99 v100 v101 v102 v103 v104 v105 v106 v107 j2 ps w9 hI hx => ?_)
      obtain ⟨_, _, _, hB⟩ := hI
      have F9 := Lib.hid (F8.out.trans (hB.mono F4.out.size))
      have G9 := Lib.hid (G8.out.trans hB)
      have HR9 := Lib.hid ((HR1.out.below G9.out (Nat.le_refl _)).more G9.out.size)
      have HY9 : Hid (RxB w9 w2.heap.size s B L.length cb) := Lib.hid ⟨(hB.cell (p := ⟨w2.heap.size, 0, none⟩) HW2.out).trans HY8.out.1, (hB.cell (p := ⟨w2.heap.size, 1, none⟩) HW2.out).trans HY8.out.2⟩
      have CY3 := Lib.hid (encode_yes B L.length cb s L w9 rfl hlc hs64 HR9.out H64.out (Lib.hid HOK.out) (Ht.out.below F9.out hw0))
      obtain ⟨q0, q1⟩ := HY9.out
      clear hB hx HP8 HY8 G8 G9 HR1
      go_wp2_with fail
      (with_reducible refine CY3.out.mono ?_); rintro e w10 ⟨g3, bk3, rfl, hp10, hb10⟩
      have F10 := Lib.hid (F9.out.trans (hb10.mono F9.out.size))
      have HY10 := Lib.hid (HY9.out.below hb10)
      have HR10 := Lib.hid (HR9.out.later hb10)
      have HP10 := Lib.hid hp10
      have hl3 := ((recOk_iff s L).1 HOK.out).1.2.2
      have h32 := Lib.hid (show Its32 L from fun x hx => (recOk_may HOK.out x hx).2.2.2.2)
      clear q0 q1
      have q1 := HY10.out.2
      clear hb10 hp10 CY3 HY9 HR9
      go_upto_block 4 with fail
      refine wp_block ?_
      refine ruC _ _ _ _ _ _ _ _ _ _ _ _ _ _ _ _ _ _ _ _ _ _ _ _ _ _ _ _ _ _ _ _ _ _ _ _ _ _ _ _ _ _ _ _ _ _ _ _ _ _ _ _ _ _ _ _ _ _ _ _ _ _ _ _ _ _ _ _ _ _ _ _ _ _ _ _ _ _ _ _ _ _ _ _ _ _ _ _ _ _ _ _ _ _ _ _ _ _ _ _ _ _ _ _ _ _ _ _ _ _ _ _ _ _ _ _ _ _ _ _ _ _ _ _ _ _ _ _ _ _ _ _ _ _ _ _ _ HP10.out hl3 HY10.out HR10.out h32.out ⟨by omega, Below.refl _ _⟩ (fun v24 v124 v125 v126 v127 v128 v129 v130 v131 v132 v133 v134 v135 v136 v137 v138 v139 j3 w11 hI hx => ?_)
      have F11 := Lib.hid (F10.out.trans (hI.2.mono F10.out.size))
      clear hI hx q1 HP10 HY10 HR10
      go_wp2_with fail
      (with_reducible refine (Wk.out _ F11.out).mono ?_); rintro e w12 ⟨rfl, hb12⟩
      go_wp2_with fail
      go_ret
      exact ⟨rfl, F11.out.trans (hb12.mono F11.out.size)⟩
end Go.Proofs.YtfgiomidlfoonaaDoor
