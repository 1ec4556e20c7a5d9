/- SyndSplit's walk. -/
import Derived.Test.YtfhbdfhndgfneaaRefSynd
import Derived.Test.YtfhbdfhndgfneaaParts
import Derived.Test.YtfhbdfhndgfneaaSyndWakes
import Derived.Test.YtfhbdfhndgfneaaSyndOwn
namespace Go.Proofs.Ytfhbdfhndgfneaa
open Go.RowKit

theorem sub_mod5 (n : Int) : (n - n.tmod 5).tmod 5 = 0 := by
  have h := Int.mul_tdiv_add_tmod n 5
  have e : n - n.tmod 5 = 5 * n.tdiv 5 := by omega
  rw [e]
  exact Int.mul_tmod_right 5 _
theorem sub_mod5_bd (n : Int) (hn : -9223372036854775808 ≤ n ∧ n ≤ 9223372036854775807) : -9223372036854775808 ≤ n - n.tmod 5 ∧ n - n.tmod 5 ≤ 9223372036854775807 := by
  have h := Int.mul_tdiv_add_tmod n 5
  have h1 : -5 < n.tmod 5 := Int.lt_tmod_of_pos _ (by omega)
  have h2 : n.tmod 5 < 5 := Int.tmod_lt_of_pos _ (by omega)
  rcases Int.lt_or_le n 0 with hneg | hpos
  · have : n.tmod 5 ≤ 0 := by
      have := Int.neg_tmod (-n) 5
      have h3 : 0 ≤ (-n).tmod 5 := Int.tmod_nonneg _ (by omega)
      rw [Int.neg_neg] at this
      omega
    omega
  · have := Int.tmod_nonneg 5 hpos
    omega
set_option maxRecDepth 100000 in
set_option maxHeartbeats 1600000 in
theorem splits (Al : Option Addr) (l : List (List UInt8)) (cl : Nat) (n cut : Int) (w : World) (_ : l.length ≤ cl) (hrl : RdC w w.heap.size Al l) (hn : -9223372036854775808 ≤ n ∧ n ≤ 9223372036854775807) (hcut : -9223372036854775808 ≤ cut ∧ cut ≤ 9223372036854775807) :
    Calls Try.prog 6 #[.slice Al l.length cl, .int .i64 n, .int .i64 cut] w fun e w' => e = .returned (.bool true) ∧ Below w.heap.size w w' := by
  have hs := sub_mod5_bd n hn
  have Hm := Lib.hid (sub_mod5 n)
  obtain ⟨hn1, hn2⟩ := hn
  obtain ⟨hs1, hs2⟩ := hs
  have hlo : -5 < n.tmod 5 := Int.lt_tmod_of_pos _ (by omega)
  have hhi : n.tmod 5 < 5 := Int.tmod_lt_of_pos _ (by omega)
  have hpa := partsR_alike (rs := l) Hm.out
  have Hpa := Lib.hid hpa
  clear hpa
  go_enter Try.func6, Try.ntmps6
  go_wp2_with fail
  refine (parts_any Al l l.length cl (n - n.tmod 5) w rfl hrl ⟨hs1, hs2⟩).mono ?_
  rintro e w1 ⟨Ax, cx, rfl, hcx, hx, hb1⟩
  have hxl := Lib.hid (show (partsR l (n - n.tmod 5)).length ≤ 7 by rw [partsR_len]; omega)
  generalize partsR l (n - n.tmod 5) = x at hx hcx hxl Hpa
  have h7 := hxl.out
  by_cases h2 : x.length < 2
  · have e0 : decide ((x.length : Int) < 2) = true := by simp; omega
    go_wp2_with fail
    refine (wakesSynd_any w1).mono ?_
    rintro e wz ⟨rfl, hbz⟩
    go_wp2
    go_ret
    exact ⟨rfl, hb1.trans (hbz.mono hb1.size)⟩
  · have e0 : decide ((x.length : Int) < 2) = false := by simp; omega
    have hwi := withinI_bd cut ((x.length : Int) - 1) (by omega)
    obtain ⟨q, hq⟩ := Int.eq_ofNat_of_zero_le hwi.1
    rw [hq] at hwi
    have Hq := Lib.hid hq
    have hqx : q + 1 < x.length := by omega
    clear hq hwi
    go_wp2_with fail
    refine (within_any cut ((x.length : Int) - 1) w1 hcut (by omega)).mono ?_
    rintro e w2 ⟨rfl, rfl⟩
    rw [Hq.out]
    obtain ⟨k, hk⟩ : ∃ k, k = 1 + q := ⟨_, rfl⟩
    have hk1 : 1 ≤ k := by omega
    have hk2 : k < x.length := by omega
    have ek : (1 : Int) + (q : Int) = (k : Int) := by omega
    clear hk
    have i0 : (0 : Int) ≤ (k : Int) := by omega
    have i1 : (k : Int) ≤ (x.length : Int) := by omega
    have i2 : (k : Int) ≤ (cx : Int) := by omega
    have i3 : (x.length : Int) ≤ (cx : Int) := by omega
    have i4 : k ≤ cx := by omega
    have hsp : x = x.take k ++ x.drop k := (List.take_append_drop k x).symm
    have hal : ∀ r ∈ x.take k ++ x.drop k, r.length = 1 + (withinI (n - n.tmod 5) 8).toNat := by rw [← hsp]; exact Hpa.out
    have Hp := Lib.hid (p_split (by simp; omega) (by simp; omega) hal)
    have Hqq := Lib.hid (q_split (by simp; omega) (by simp; omega) hal)
    rw [← hsp, List.length_take, Nat.min_eq_left (Nat.le_of_lt hk2)] at Hqq
    rw [← hsp] at Hp
    clear hsp hal Hpa
    have P0 : Hid (∀ W, Below w2.heap.size w2 W → Calls Try.prog 8 #[.slice Ax x.length cx] W (Gives W (pB x))) :=
      Lib.hid fun W hb => p_gives ((hx.below hb (Nat.le_refl _)).more hb.size) rfl rfl
    have P1 : Hid (∀ W, Below w2.heap.size w2 W → Calls Try.prog 8 #[.slice Ax k cx] W (Gives W (pB (x.take k)))) :=
      Lib.hid fun W hb => p_gives (((hx.below hb (Nat.le_refl _)).more hb.size).take k) (by simp; omega) rfl
    have P2 : Hid (∀ W, Below w2.heap.size w2 W → Calls Try.prog 8 #[.slice (if cx = k then Ax else Ax.map (·.add k)) (x.length - k) (cx - k)] W (Gives W (pB (x.drop k)))) :=
      Lib.hid fun W hb => p_gives (((hx.below hb (Nat.le_refl _)).more hb.size).drop k cx hcx) (by simp) rfl
    have Q0 : Hid (∀ W, Below w2.heap.size w2 W → Calls Try.prog 9 #[.slice Ax x.length cx] W (Gives W (qB x))) :=
      Lib.hid fun W hb => q_gives ((hx.below hb (Nat.le_refl _)).more hb.size) rfl rfl
    have Q1 : Hid (∀ W, Below w2.heap.size w2 W → Calls Try.prog 9 #[.slice Ax k cx] W (Gives W (qB (x.take k)))) :=
      Lib.hid fun W hb => q_gives (((hx.below hb (Nat.le_refl _)).more hb.size).take k) (by simp; omega) rfl
    have Q2 : Hid (∀ W, Below w2.heap.size w2 W → Calls Try.prog 9 #[.slice (if cx = k then Ax else Ax.map (·.add k)) (x.length - k) (cx - k)] W (Gives W (qB (x.drop k)))) :=
      Lib.hid fun W hb => q_gives (((hx.below hb (Nat.le_refl _)).more hb.size).drop k cx hcx) (by simp) rfl
    have CP := Lib.hid (fun W => refPow_any (k : Int) (by omega) W)
    have hfp := gpow_lt (k : Int)
    generalize gpow (k : Int) = f at CP hfp Hqq
    generalize pB x = p0 at P0 Hp
    generalize pB (x.take k) = p1 at P1 Hp
    generalize pB (x.drop k) = p2 at P2 Hp
    generalize qB x = q0 at Q0 Hqq
    generalize qB (x.take k) = q1 at Q1 Hqq
    generalize qB (x.drop k) = q2 at Q2 Hqq
    obtain ⟨q3, hq3⟩ : ∃ q3, scaleL q2 f = q3 := ⟨_, rfl⟩
    have Hq3 := Lib.hid hq3
    rw [hq3] at Hqq
    clear hq3 hx
    go_wp2_with fail
    go_region_held3 (fun _ => True) (trivial)
      (first
        | (go_at_call 8
           (with_reducible refine (P0.out _ ?_).mono ?_)
           exact (Below.refl _ _).drew
           rintro e wa ⟨Aa, ca, rfl, hoa, hba⟩
           have hwa := ((Below.refl w2.heap.size w2).drew).trans (hba.mono (Nat.le_refl _))
           dsimp only)
        | (go_at_call 8
           (with_reducible refine (P1.out _ hwa).mono ?_)
           rintro e wb ⟨Ab, cb, rfl, hob, hbb⟩
           have hwb := hwa.trans (hbb.mono hwa.size)
           dsimp only)
        | (go_at_call 8
           (with_reducible refine (P2.out _ hwb).mono ?_)
           rintro e wc ⟨Ac, cc, rfl, hoc, hbc⟩
           have hwc := hwb.trans (hbc.mono hwb.size)
           dsimp only)
        | (go_at_call 11
           (with_reducible refine (add_gives (hob.below hbc) hoc Hp.out.symm).mono ?_)
           rintro e wd ⟨Ad, cd, rfl, hod, hbd⟩
           have hwd := hwc.trans (hbd.mono hwc.size)
           dsimp only)
        | (go_at_call 7
           (with_reducible refine (same_own (((hoa.below hbb).below hbc).below hbd) hod).mono ?_)
           rintro e we ⟨rfl, me, rfl⟩
           have hwe := hwd.trans (belowN w2.heap.size wd me)
           dsimp only)
        | (go_at_call 9
           (with_reducible refine (Q0.out _ hwe).mono ?_)
           rintro e wf ⟨Af, cf, rfl, hof, hbf⟩
           have hwf := hwe.trans (hbf.mono hwe.size)
           dsimp only)
        | (go_at_call 9
           (with_reducible refine (Q1.out _ hwf).mono ?_)
           rintro e wg ⟨Ag, cg, rfl, hog, hbg⟩
           have hwg := hwf.trans (hbg.mono hwf.size)
           dsimp only)
        | (go_at_call 9
           (with_reducible refine (Q2.out _ hwg).mono ?_)
           rintro e wh ⟨Ah, ch, rfl, hoh, hbh⟩
           have hwh := hwg.trans (hbh.mono hwg.size)
           dsimp only)
        | (go_at_call 19
           (with_reducible refine (CP.out _).mono ?_)
           rintro e wi ⟨rfl, rfl⟩
           dsimp only)
        | (go_at_call 12
           (with_reducible refine (scale_gives hoh hfp Hq3.out).mono ?_)
           rintro e wj ⟨Aj, cj, rfl, hoj, hbj⟩
           have hwj := hwh.trans (hbj.mono hwh.size)
           dsimp only)
        | (go_at_call 11
           (with_reducible refine (add_gives ((hog.below hbh).below hbj) hoj Hqq.out.symm).mono ?_)
           rintro e wk ⟨Ak, ck, rfl, hok, hbk⟩
           have hwk := hwj.trans (hbk.mono hwj.size)
           dsimp only)
        | (go_at_call 7
           (with_reducible refine (same_own ((((hof.below hbg).below hbh).below hbj).below hbk) hok).mono ?_)
           rintro e wl ⟨rfl, ml, rfl⟩
           have hwl := hwk.trans (belowN w2.heap.size wk ml)
           dsimp only)
        | (go_at_call 13
           (with_reducible refine (wakesSynd_any _).mono ?_)
           rintro e wm ⟨rfl, hbm⟩
           have hwm := hwl.trans (hbm.mono hwl.size)
           dsimp only))
    go_wp2
    go_ret
    exact ⟨rfl, hb1.trans (hwm.mono hb1.size)⟩
end Go.Proofs.Ytfhbdfhndgfneaa
