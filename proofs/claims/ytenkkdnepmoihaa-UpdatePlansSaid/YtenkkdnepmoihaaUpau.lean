/- Texts put together: RowKit, BchCalls, BchWrite, RowLost. -/
import Derived.Test.YtenkkdnepmoihaaUpat
import Derived.Test.YtenkkdnepmoihaaUpaj
import Derived.Test.YtenkkdnepmoihaaUpab
import Derived.Test.YtenkkdnepmoihaaUpaa
import Derived.Carry
import Derived.Test.YtenkkdnepmoihaaUpam
section
set_option maxRecDepth 8000
set_option linter.unusedVariables false
set_option linter.unusedSimpArgs false
namespace Go.Proofs.Ytenkkdnepmoihaa
open Go.RowKit

/-- Sectors that are made, as they are read. -/
theorem sectors_rd {A : Option Addr} {zs : List Int} {m cp n : Nat} {w : World} (hm : m = zs.length) (hr : RdZ w w.heap.size A zs) (hn : n ≤ 8) :
    Calls Try.prog 23 #[.slice A m cp, .int .i64 (n : Int)] w fun e w' => ∃ A' c', e = .returned (.slice A' n c') ∧ OwV w.heap.size w' (.slice A' n c') (sectorsB zs n) ∧ RdR w' w'.heap.size A' (sectorsB zs n) ∧ Below w.heap.size w w' :=
  (sectors_any A zs m cp n w hm hr hn).mono fun _ _ ⟨v, he, ho, hb⟩ => by
    obtain ⟨A', c', rfl, _, hrd⟩ := ho.rd (by rw [sectorsB_len]; omega)
    rw [sectorsB_len] at he ho
    exact ⟨A', c', he, ho, hrd, hb⟩
/-- A good geometry, a row of it: what stands where. -/
structure Gr (n : Int) (l c r : Int) (D F W : Nat) : Prop where
  ok : plOk l (D : Int) c r = true
  R : Ro l (D : Int) c r
  eD : roD (D : Int) = D
  eF : roF l (D : Int) c r = F
  eW : roW l (D : Int) = W
  hF : F < D
  hW : W < D
  w1 : 1 ≤ W
  w7 : W ≤ 7
  d8 : D ≤ 8
  d3 : 3 ≤ D
  lv : (l = 5 ∧ D = W + 1) ∨ (l = 6 ∧ D = W + 2)
  wd : gWid l (D : Int) c = (W : Int)
  l64 : -9223372036854775808 ≤ l ∧ l ≤ 9223372036854775807
  d64 : -9223372036854775808 ≤ (D : Int) ∧ (D : Int) ≤ 9223372036854775807
  c64 : -9223372036854775808 ≤ c ∧ c ≤ 9223372036854775807
  r64 : -9223372036854775808 ≤ r ∧ r ≤ 9223372036854775807
  r0 : 0 ≤ r ∧ r < 16
theorem gr_of (n : Int) {r : Int} (h0 : 0 ≤ r) (h1 : r < 16) : ∃ D F W : Nat, goD n = (D : Int) ∧ Gr n (goL n) (goC n) r D F W := by
  have hg := go_ok n
  have hb := gOk_bd hg
  have hok := plOk_mk hg h0 h1
  have R := ro_of hok
  obtain ⟨D, hD⟩ : ∃ D : Nat, goD n = (D : Int) := ⟨_, R.dd.symm⟩
  rw [hD] at hg hb hok R
  exact ⟨D, roF (goL n) D (goC n) r, roW (goL n) D, hD, hok, R, rfl, rfl, rfl, R.hF, R.hW, R.w1, R.w7, R.d8, R.d3, R.lv, R.wd, by omega, by omega, by omega, by omega, ⟨h0, h1⟩⟩
section
variable {n l c r : Int} {D F W : Nat}
theorem Gr.fok (h : Gr n l c r D F W) {rs : List (List UInt8)} (hl : rs.length = W) (ha : ∀ x ∈ rs, x.length = 32) : fillOk l (D : Int) c r rs = true := fillOk_mk h.ok (by rw [h.eW]; exact hl) ha
theorem Gr.fills (h : Gr n l c r D F W) {rs : List (List UInt8)} (hl : rs.length = W) (ha : ∀ x ∈ rs, x.length = 32) {i : Nat} (hi : i < D) : ((fillL D F rs).getD i []).length = 32 := by
  have := fill_32 (h.fok hl ha) (i := i) (by rw [h.eD]; exact hi)
  rwa [h.eD, h.eF] at this
end
end Go.Proofs.Ytenkkdnepmoihaa
end
section
namespace Go.Proofs.Ytenkkdnepmoihaa
open Go.RowKit

namespace Bch
theorem readE_pow {N : Bch} {d : Int} (k : Int) (h : N.powE d ≠ 0) : N.readE d k = N.powE d ∧ N.read d k = [] := by
  have e : N.readE d k = N.powE d := by unfold readE; rw [if_pos h]
  exact ⟨e, by unfold read; rw [e, if_pos h]⟩
theorem readE_dsk {N : Bch} {d : Int} (k : Int) (h : N.powE d = 0) : N.readE d k = reachE (N.at_ d).f k ∧ N.read d k = (N.at_ d).readE k := by
  have e : N.readE d k = reachE (N.at_ d).f k := by unfold readE; rw [if_neg (by simp [h])]
  refine ⟨e, ?_⟩
  unfold read Dsk.readE
  rw [e]
  by_cases c : reachE (N.at_ d).f k = 0
  · rw [if_neg (by simp [c]), if_pos c]
  · rw [if_pos c, if_neg c]
end Bch
theorem dptr_no (H : BH) {e : Int} (d : Int) (h : e ≠ 0) : dptr H e d = .pointer none := by unfold dptr; rw [if_pos h]
theorem dptr_ok (H : BH) (d : Int) : dptr H 0 d = .pointer (some ⟨H.bk d.toNat, 0, none⟩) := by unfold dptr; rw [if_neg (by simp)]; rfl
section
variable (B b : Nat) (H : BH) (N : Bch) (w : World) (h : BAt w B b H N)
include h
theorem bch_read_any (d k : Int) (hd : i64B d) (hk : i64B k) : Calls Try.prog 48 #[ptr b, .int .i64 d, .int .i64 k] w fun e w' => ∃ v, e = .returned (.tuple #[v, .int .i64 (N.readE d k)]) ∧ OwB 5 w' w.heap.size v (N.read d k) ∧ Below w.heap.size w w' := by
  have CP := Lib.hid (bch_powered_any B b H N w h d hd)
  by_cases h0 : N.powE d = 0
  · rw [h0, dptr_ok] at CP
    have hr := Bch.powE_zero h0
    have hi := Bch.pickE_zero hr.1
    obtain ⟨e1, e2⟩ := Bch.readE_dsk k h0
    have CD := dsk_read_any _ _ _ _ w (h.dsk d.toNat (by omega)) k hk
    rw [show N.D d.toNat = N.at_ d from rfl, ← e1, ← e2] at CD
    have CD := Lib.hid CD
    generalize N.readE d k = E at CD
    generalize N.read d k = x at CD
    clear h h0 hr hi e1 e2
    generalize H.bk d.toNat = db at CP CD
    unfold ptr at CP ⊢
    go_enter Try.func48, Try.ntmps48
    go_wp2_with fail
    refine CP.out.mono ?_
    rintro e w' ⟨rfl, rfl⟩
    go_wp2_with fail
    refine CD.out.mono ?_
    rintro e w1 ⟨v, rfl, ho, hb⟩
    go_wp2
    go_ret2
    exact ⟨v, rfl, ho, hb⟩
  · have HR := Lib.hid (Bch.readE_pow k h0)
    have hne : (N.powE d != 0) = true := by rw [bne_iff_ne]; exact h0
    rw [dptr_no H d h0] at CP
    generalize N.powE d = E at CP HR hne
    clear h h0
    unfold ptr at CP ⊢
    go_enter Try.func48, Try.ntmps48
    go_wp2_with fail
    refine CP.out.mono ?_
    rintro e w' ⟨rfl, rfl⟩
    go_wp2
    go_ret2
    exact ⟨_, by rw [HR.out.1]; rfl, by rw [HR.out.2]; exact OwB.nil _ _ _, Below.refl _ _⟩
theorem bch_failed_any (d : Int) (hd : i64B d) : Calls Try.prog 57 #[ptr b, .int .i64 d] w fun e w' => e = .returned (.bool (N.failed d)) ∧ w' = w := by
  have CP := Lib.hid (bch_pick_any B b H N w h d hd)
  by_cases h0 : N.pickE d = 0
  · rw [h0, dptr_ok] at CP
    have hi := Bch.pickE_zero h0
    have HE := Lib.hid (show N.failed d = (N.at_ d).f by unfold Bch.failed; rw [if_neg (by simp [h0])])
    have CD := Lib.hid (dsk_failed_any _ _ _ _ w (h.dsk d.toNat (by omega)))
    generalize hX : N.D d.toNat = X at CD
    rw [show N.at_ d = X from hX] at HE
    clear h h0 hi hX
    generalize H.bk d.toNat = db at CP CD
    unfold ptr at CP ⊢
    go_enter Try.func57, Try.ntmps57
    go_wp2_with fail
    refine CP.out.mono ?_
    rintro e w' ⟨rfl, rfl⟩
    go_wp2_with fail
    refine CD.out.mono ?_
    rintro e w1 ⟨rfl, rfl⟩
    go_wp2
    go_ret
    exact ⟨by rw [HE.out]; rfl, rfl⟩
  · have HE := Lib.hid (show N.failed d = false by unfold Bch.failed; rw [if_pos h0])
    have hne : (N.pickE d == 0) = false := by rw [beq_eq_false_iff_ne]; exact h0
    rw [dptr_no H d h0] at CP
    generalize N.pickE d = E at CP hne
    clear h h0
    unfold ptr at CP ⊢
    go_enter Try.func57, Try.ntmps57
    go_wp2_with fail
    refine CP.out.mono ?_
    rintro e w' ⟨rfl, rfl⟩
    go_wp2
    go_ret
    exact ⟨by rw [HE.out]; rfl, rfl⟩
theorem bch_damage_any (d k : Int) (x : List UInt8) (A : Option Addr) (n c : Nat) (hn : n = x.length) (hd : i64B d) (hk : i64B k) (hr : RdB w w.heap.size A x) (hps : ∀ i, i < N.n → (N.D i).ps.length ≤ 2000000) :
    Calls Try.prog 25 #[ptr b, .int .i64 d, .int .i64 k, .slice A n c] w fun e w' => e = .returned (.int .i64 (N.damageE d k n)) ∧ BTo w w' B b H N.n (N.damage d k x) := by
  have Hh := Lib.hid h
  have CP := Lib.hid (bch_pick_any B b H N w h d hd)
  by_cases h0 : N.pickE d = 0
  · rw [h0, dptr_ok] at CP
    have hi := Bch.pickE_zero h0
    have HI := Lib.hid (show d.toNat < N.n by omega)
    have e1 : takeE (N.at_ d).f k n = N.damageE d k n := by unfold Bch.damageE; rw [if_neg (by simp [h0])]
    have HF := Lib.hid (show N.damage d k x = N.set d.toNat ((N.at_ d).damageE k x) by unfold Bch.damage; rw [if_neg (by simp [h0])])
    have CD := dsk_damage_any _ _ _ _ w (h.dsk d.toNat (by omega)) k x A n c hn hk hr (hps _ (by omega))
    rw [show N.D d.toNat = N.at_ d from rfl, e1] at CD
    have CD := Lib.hid CD
    generalize N.damageE d k n = E at CD
    clear h h0 hi e1 hr hps hn
    unfold ptr at CP ⊢
    go_enter Try.func25, Try.ntmps25
    go_wp2_with fail
    refine CP.out.mono ?_
    rintro e w' ⟨rfl, rfl⟩
    go_wp2_with fail
    refine CD.out.mono ?_
    rintro e w1 ⟨pv', rfl, hd1, hc1, hn1⟩
    go_wp2
    go_ret
    exact ⟨rfl, by rw [HF.out]; exact Hh.out.step HI.out hd1 hc1 hn1⟩
  · have HE := Lib.hid (show N.damageE d k n = N.pickE d by unfold Bch.damageE; rw [if_pos h0])
    have HF := Lib.hid (show N.damage d k x = N by unfold Bch.damage; rw [if_pos h0])
    have hne : (N.pickE d != 0) = true := by rw [bne_iff_ne]; exact h0
    rw [dptr_no H d h0] at CP
    generalize N.pickE d = E at CP HE hne
    clear h h0 hr hps hn
    unfold ptr at CP ⊢
    go_enter Try.func25, Try.ntmps25
    go_wp2_with fail
    refine CP.out.mono ?_
    rintro e w' ⟨rfl, rfl⟩
    go_wp2
    go_ret
    exact ⟨by rw [HE.out]; rfl, by rw [HF.out]; exact Hh.out.self⟩
end
end Go.Proofs.Ytenkkdnepmoihaa
end
section
namespace Go.Proofs.Ytenkkdnepmoihaa
open Go.RowKit

end Go.Proofs.Ytenkkdnepmoihaa
end
section
set_option linter.unusedVariables false
set_option linter.unusedSimpArgs false
namespace Go.Proofs.Ytenkkdnepmoihaa
open Go.RowKit

theorem some_if {P Q : Prop} [Decidable P] [Decidable Q] (x : List (List UInt8)) (h : P ↔ Q) : (if (true && (decide P && (true && true))) = true then some x else none).isSome = decide Q := by
  by_cases hp : P
  · rw [decide_eq_true hp, decide_eq_true (h.1 hp)]; rfl
  · rw [decide_eq_false hp, decide_eq_false fun q => hp (h.2 q)]; rfl
def thereN (l : Int) (lp lq : Nat) : Nat := (if 0 < lp then 1 else 0) + (if l = 6 ∧ 0 < lq then 1 else 0)
/-- Whether what is left tells the data. -/
theorem lose_end {n l c r : Int} {D F W : Nat} (gr : Gr n l c r D F W) {xs : List (List UInt8)} (hl : xs.length = D) (hs : ∀ i, i < D → (xs.getD i []).length = 0 ∨ (xs.getD i []).length = 32) :
    (roTake l (D : Int) c r xs).isSome = decide (cntB D (fun k : Nat => emptyB xs k && (!decide (k = roS D F W) && !decide ((k : Int) = if l = 6 then ((roS D F (W + 1) : Nat) : Int) else -1))) ≤ thereN l (xs.getD (roS D F W) []).length (xs.getD (roS D F (W + 1)) []).length) := by
  have hF := gr.hF; have hW := gr.hW; have w7 := gr.w7; have w1 := gr.w1; have hlv := gr.lv
  rw [roTake_yes gr.ok (by rw [gr.eD]; exact hl)]
  have ed := data_cnt (l := l) (d := (D : Int)) (c := c) (r := r) xs
  have edl := dataL_len l (D : Int) c r xs
  rw [gr.eD, gr.eF, gr.eW] at ed
  rw [gr.eW] at edl
  have hdat : sizedB 32 (dataL l (D : Int) c r xs) = true := sizedB_iff.2 fun k hk => by
    rw [dataL_get (by rw [gr.eW]; omega), gr.eD, gr.eF]
    exact hs _ (roS_lt hF (by omega))
  have eP : parL l (D : Int) c r xs = xs.getD (roS D F W) [] := by unfold parL; rw [gr.eD, gr.eF, gr.eW]
  have eQ : parQ l (D : Int) c r xs = if l = 6 then xs.getD (roS D F (W + 1)) [] else [] := by unfold parQ; rw [gr.eD, gr.eF, gr.eW]
  have hp := hs _ (roS_lt hF hW)
  have hask : askB 32 (parL l (D : Int) c r xs) (parQ l (D : Int) c r xs) (dataL l (D : Int) c r xs) = true := by
    unfold askB
    rw [hdat, Bool.and_true, Bool.and_eq_true]
    refine ⟨rfl, sizedB_iff.2 fun k hk => ?_⟩
    match k, hk with
    | 0, _ => show (parL l (D : Int) c r xs).length = 0 ∨ _; rw [eP]; exact hp
    | 1, _ =>
      show (parQ l (D : Int) c r xs).length = 0 ∨ _
      rw [eQ]
      split
      · exact hs _ (roS_lt hF (by omega))
      · exact .inl rfl
  have ecnt : cntB D (fun k : Nat => emptyB xs k && (!decide (k = roS D F W) && !decide ((k : Int) = if l = 6 then ((roS D F (W + 1) : Nat) : Int) else -1))) = (missB (dataL l (D : Int) c r xs)).length := by
    rw [ed, cntB_roS hF]
    have inj : ∀ a b, a < D → b < D → a ≠ b → roS D F a ≠ roS D F b := fun a b h1 h2 h3 h4 => h3 (roS_inj hF h1 h2 h4)
    have low : ∀ (q : Int), (∀ k, k < W → ((roS D F k : Nat) : Int) ≠ q) → cntB W (fun k => emptyB xs (roS D F k) && (!decide (roS D F k = roS D F W) && !decide (((roS D F k : Nat) : Int) = q))) = cntB W (fun k => emptyB xs (roS D F k)) := fun q hq => cntB_congr fun k hk => by
      rw [decide_eq_false (inj k W (by omega) hW (by omega)), decide_eq_false (hq k hk)]
      simp
    rcases hlv with ⟨h5, hD⟩ | ⟨h6, hD⟩
    · rw [if_neg (by omega)]
      have hl := low (-1) (fun k hk => by omega)
      generalize hf : (fun k => emptyB xs (roS D F k) && (!decide (roS D F k = roS D F W) && !decide (((roS D F k : Nat) : Int) = -1))) = f at hl ⊢
      have hfW : f W = false := by rw [← hf]; simp
      rw [show cntB D f = cntB (W + 1) f by rw [hD], cntB_succ, hfW]
      exact hl
    · rw [if_pos h6]
      have hl := low ((roS D F (W + 1) : Nat) : Int) (fun k hk => by have := inj k (W + 1) (by omega) (by omega) (by omega); omega)
      generalize hf : (fun k => emptyB xs (roS D F k) && (!decide (roS D F k = roS D F W) && !decide (((roS D F k : Nat) : Int) = ((roS D F (W + 1) : Nat) : Int)))) = f at hl ⊢
      have hfW : f W = false := by rw [← hf]; simp
      have hfW1 : f (W + 1) = false := by rw [← hf]; simp
      rw [show cntB D f = cntB (W + 2) f by rw [hD], cntB_succ, hfW1, cntB_succ, hfW]
      exact hl
  rw [ecnt]
  unfold solveB canB
  rw [hask, edl, decide_eq_true (show 0 < W by omega), decide_eq_true (show W ≤ 8 by omega), missB_pair, eP, eQ]
  generalize (missB (dataL l (D : Int) c r xs)).length = m
  unfold thereN
  generalize (xs.getD (roS D F W) []).length = lp
  rcases hlv with ⟨h5, _⟩ | ⟨h6, _⟩
  · rw [if_neg (show ¬ l = 6 by omega)]
    refine some_if _ ?_
    rw [if_neg (show ¬ (l = 6 ∧ _) by omega), if_pos (show ([] : List UInt8).length = 0 from rfl)]
    by_cases h0 : lp = 0
    · rw [if_pos h0, if_neg (by omega)]
    · rw [if_neg h0, if_pos (by omega)]
  · rw [if_pos h6]
    generalize (xs.getD (roS D F (W + 1)) []).length = lq
    refine some_if _ ?_
    by_cases h0 : lp = 0
    · by_cases h1 : lq = 0
      · rw [if_pos h0, if_pos h1, if_neg (by omega), if_neg (by omega)]
      · rw [if_pos h0, if_neg h1, if_neg (by omega), if_pos ⟨h6, by omega⟩]
    · by_cases h1 : lq = 0
      · rw [if_neg h0, if_pos h1, if_pos (by omega), if_neg (by omega)]
      · rw [if_neg h0, if_neg h1, if_pos (by omega), if_pos ⟨h6, by omega⟩]
end Go.Proofs.Ytenkkdnepmoihaa
end
