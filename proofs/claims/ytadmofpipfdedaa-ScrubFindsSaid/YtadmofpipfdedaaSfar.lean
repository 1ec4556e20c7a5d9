/- Texts put together: RowKit, StpMath, BchCalls, BchWrite, RowLost, BchDown, RowKit2. -/
import Derived.Test.YtadmofpipfdedaaSfaq
import Derived.Test.YtadmofpipfdedaaSfag
import Derived.Test.YtadmofpipfdedaaSfab
import Derived.Test.YtadmofpipfdedaaSfaa
import Derived.Carry
import Derived.Test.YtadmofpipfdedaaSfah
import Derived.Test.YtadmofpipfdedaaSfap
import Derived.Test.YtadmofpipfdedaaSfaj
section
set_option maxRecDepth 8000
set_option linter.unusedVariables false
set_option linter.unusedSimpArgs false
namespace Go.Proofs.Ytadmofpipfdedaa
open Go.RowKit

/-- Sectors that are made, as they are read. -/
theorem sectors_rd {A : Option Addr} {zs : List Int} {m cp n : Nat} {w : World} (hm : m = zs.length) (hr : RdZ w w.heap.size A zs) (hn : n ≤ 8) :
    Calls Try.prog 37 #[.slice A m cp, .int .i64 (n : Int)] w fun e w' => ∃ A' c', e = .returned (.slice A' n c') ∧ OwV w.heap.size w' (.slice A' n c') (sectorsB zs n) ∧ RdR w' w'.heap.size A' (sectorsB zs n) ∧ Below w.heap.size w w' :=
  (sectors_any A zs m cp n w hm hr hn).mono fun _ _ ⟨v, he, ho, hb⟩ => by
    obtain ⟨A', c', rfl, _, hrd⟩ := ho.rd (by rw [sectorsB_len]; omega)
    rw [sectorsB_len] at he ho
    exact ⟨A', c', he, ho, hrd, hb⟩
/-- A good geometry, a row of it: what stands where. -/
structure Gr (n : Int) (l c r : Int) (D F W : Nat) : Prop where
  ok : plOk l (D : Int) c r = true
  R : Ro l (D : Int) c r
  eD : roD (D : Int) = D
  eF : roF l (D : Int) c r = F
  eW : roW l (D : Int) = W
  hF : F < D
  hW : W < D
  w1 : 1 ≤ W
  w7 : W ≤ 7
  d8 : D ≤ 8
  d3 : 3 ≤ D
  lv : (l = 5 ∧ D = W + 1) ∨ (l = 6 ∧ D = W + 2)
  wd : gWid l (D : Int) c = (W : Int)
  l64 : -9223372036854775808 ≤ l ∧ l ≤ 9223372036854775807
  d64 : -9223372036854775808 ≤ (D : Int) ∧ (D : Int) ≤ 9223372036854775807
  c64 : -9223372036854775808 ≤ c ∧ c ≤ 9223372036854775807
  r64 : -9223372036854775808 ≤ r ∧ r ≤ 9223372036854775807
  r0 : 0 ≤ r ∧ r < 16
section
variable {n l c r : Int} {D F W : Nat}
theorem Gr.fok (h : Gr n l c r D F W) {rs : List (List UInt8)} (hl : rs.length = W) (ha : ∀ x ∈ rs, x.length = 32) : fillOk l (D : Int) c r rs = true := fillOk_mk h.ok (by rw [h.eW]; exact hl) ha
theorem Gr.take (h : Gr n l c r D F W) {A : Option Addr} {xs : List (List UInt8)} {cp : Nat} {w : World} (hrd : RdR w w.heap.size A xs) (hl : xs.length = D) :
    Calls Try.prog 77 #[.agg #[.int .i64 l, .int .i64 (D : Int), .int .i64 c], .int .i64 r, .slice A D cp] w (SolveR w (roTake l (D : Int) c r xs)) :=
  take_any A xs D cp l D c r w hl (by have := h.d8; omega) hrd h.l64 h.d64 h.c64 h.r64
theorem Gr.right (h : Gr n l c r D F W) {A : Option Addr} {xs : List (List UInt8)} {cp : Nat} {w : World} (hrd : RdR w w.heap.size A xs) (hl : xs.length = D) :
    Calls Try.prog 58 #[.agg #[.int .i64 l, .int .i64 (D : Int), .int .i64 c], .int .i64 r, .slice A D cp] w fun e w' => e = .returned (.bool (roRight l (D : Int) c r xs)) ∧ Below w.heap.size w w' :=
  right_any A xs D cp l D c r w hl (by have := h.d8; omega) hrd h.l64 h.d64 h.c64 h.r64
theorem Gr.fills (h : Gr n l c r D F W) {rs : List (List UInt8)} (hl : rs.length = W) (ha : ∀ x ∈ rs, x.length = 32) {i : Nat} (hi : i < D) : ((fillL D F rs).getD i []).length = 32 := by
  have := fill_32 (h.fok hl ha) (i := i) (by rw [h.eD]; exact hi)
  rwa [h.eD, h.eF] at this
end
end Go.Proofs.Ytadmofpipfdedaa
end
section
set_option linter.unusedVariables false
set_option linter.unusedSimpArgs false
namespace Go.Proofs.Ytadmofpipfdedaa

/-- A disk of the bench that is live; and has not failed. -/
def livD (N : Bch) (lv : List Bool) (i : Nat) : Bool := decide (i < N.n) && lv.getD i false
def srvD (N : Bch) (lv : List Bool) (i : Nat) : Bool := livD N lv i && !(N.D i).f
theorem srvD_yes {N : Bch} {lv : List Bool} {i : Nat} (h : srvD N lv i = true) : i < N.n ∧ lv.getD i false = true ∧ (N.D i).f = false := by
  unfold srvD livD at h
  simp only [Bool.and_eq_true, decide_eq_true_eq, Bool.not_eq_true'] at h
  exact ⟨h.1.1, h.1.2, h.2⟩
theorem srvD_mk {N : Bch} {lv : List Bool} {i : Nat} (h1 : i < N.n) (h2 : lv.getD i false = true) (h3 : (N.D i).f = false) : srvD N lv i = true := by
  unfold srvD livD; rw [h2, h3, decide_eq_true h1]; rfl
theorem srvD_no {N : Bch} {lv : List Bool} {i : Nat} (h : ¬ (i < N.n ∧ lv.getD i false = true ∧ (N.D i).f = false)) : srvD N lv i = false := by
  cases e : srvD N lv i with
  | false => rfl
  | true => exact absurd (srvD_yes e) h
/-- The sectors of a row, as far as disk k was asked. -/
def ssTo (N : Bch) (lv : List Bool) (a D k : Nat) : List (List UInt8) := (List.range D).map fun i => if i < k ∧ srvD N lv i = true then secAt (N.D i).now a else []
def ssL (N : Bch) (lv : List Bool) (a D : Nat) : List (List UInt8) := ssTo N lv a D D
theorem ssTo_len (N : Bch) (lv : List Bool) (a D k : Nat) : (ssTo N lv a D k).length = D := by simp [ssTo]
theorem ssL_len (N : Bch) (lv : List Bool) (a D : Nat) : (ssL N lv a D).length = D := ssTo_len _ _ _ _ _
theorem ssTo_get {N : Bch} {lv : List Bool} {a D k i : Nat} (hi : i < D) : (ssTo N lv a D k).getD i [] = if i < k ∧ srvD N lv i = true then secAt (N.D i).now a else [] := by
  simp [ssTo, List.getD_eq_getElem?_getD, hi]
theorem ssL_get {N : Bch} {lv : List Bool} {a D i : Nat} (hi : i < D) : (ssL N lv a D).getD i [] = if srvD N lv i = true then secAt (N.D i).now a else [] := by
  unfold ssL; rw [ssTo_get hi]; simp only [hi, true_and]
theorem ssTo_zero (N : Bch) (lv : List Bool) (a D : Nat) : ssTo N lv a D 0 = List.replicate D [] := by
  apply List.ext_getElem (by simp [ssTo])
  intro i h1 h2
  simp [ssTo]
theorem ssTo_goes {N : Bch} {lv : List Bool} {a D k : Nat} (hk : k < D) (hs : srvD N lv k = true) : (ssTo N lv a D k).set k (secAt (N.D k).now a) = ssTo N lv a D (k + 1) := ext_getD (by rw [List.length_set, ssTo_len, ssTo_len]) fun i hi => by
  rw [List.length_set, ssTo_len] at hi
  rw [ssTo_get hi]
  by_cases e : k = i
  · subst e
    rw [getD_set_same (by rw [ssTo_len]; exact hi), if_pos ⟨by omega, hs⟩]
  · rw [getD_set_other e, ssTo_get hi]
    by_cases h : i < k
    · simp only [h, show i < k + 1 by omega]
    · rw [if_neg (by omega), if_neg (by omega)]
section
variable {lv : List Bool} {a : Nat} {xs : List (List UInt8)} {N : Bch}
end
end Go.Proofs.Ytadmofpipfdedaa
end
section
namespace Go.Proofs.Ytadmofpipfdedaa
open Go.RowKit

namespace Bch
theorem readE_pow {N : Bch} {d : Int} (k : Int) (h : N.powE d ≠ 0) : N.readE d k = N.powE d ∧ N.read d k = [] := by
  have e : N.readE d k = N.powE d := by unfold readE; rw [if_pos h]
  exact ⟨e, by unfold read; rw [e, if_pos h]⟩
theorem readE_dsk {N : Bch} {d : Int} (k : Int) (h : N.powE d = 0) : N.readE d k = reachE (N.at_ d).f k ∧ N.read d k = (N.at_ d).readE k := by
  have e : N.readE d k = reachE (N.at_ d).f k := by unfold readE; rw [if_neg (by simp [h])]
  refine ⟨e, ?_⟩
  unfold read Dsk.readE
  rw [e]
  by_cases c : reachE (N.at_ d).f k = 0
  · rw [if_neg (by simp [c]), if_pos c]
  · rw [if_pos c, if_neg c]
end Bch
theorem dptr_no (H : BH) {e : Int} (d : Int) (h : e ≠ 0) : dptr H e d = .pointer none := by unfold dptr; rw [if_pos h]
theorem dptr_ok (H : BH) (d : Int) : dptr H 0 d = .pointer (some ⟨H.bk d.toNat, 0, none⟩) := by unfold dptr; rw [if_neg (by simp)]; rfl
section
variable (B b : Nat) (H : BH) (N : Bch) (w : World) (h : BAt w B b H N)
include h
theorem bch_read_any (d k : Int) (hd : i64B d) (hk : i64B k) : Calls Try.prog 22 #[ptr b, .int .i64 d, .int .i64 k] w fun e w' => ∃ v, e = .returned (.tuple #[v, .int .i64 (N.readE d k)]) ∧ OwB 5 w' w.heap.size v (N.read d k) ∧ Below w.heap.size w w' := by
  have CP := Lib.hid (bch_powered_any B b H N w h d hd)
  by_cases h0 : N.powE d = 0
  · rw [h0, dptr_ok] at CP
    have hr := Bch.powE_zero h0
    have hi := Bch.pickE_zero hr.1
    obtain ⟨e1, e2⟩ := Bch.readE_dsk k h0
    have CD := dsk_read_any _ _ _ _ w (h.dsk d.toNat (by omega)) k hk
    rw [show N.D d.toNat = N.at_ d from rfl, ← e1, ← e2] at CD
    have CD := Lib.hid CD
    generalize N.readE d k = E at CD
    generalize N.read d k = x at CD
    clear h h0 hr hi e1 e2
    generalize H.bk d.toNat = db at CP CD
    unfold ptr at CP ⊢
    go_enter Try.func22, Try.ntmps22
    go_wp2_with fail
    refine CP.out.mono ?_
    rintro e w' ⟨rfl, rfl⟩
    go_wp2_with fail
    refine CD.out.mono ?_
    rintro e w1 ⟨v, rfl, ho, hb⟩
    go_wp2
    go_ret2
    exact ⟨v, rfl, ho, hb⟩
  · have HR := Lib.hid (Bch.readE_pow k h0)
    have hne : (N.powE d != 0) = true := by rw [bne_iff_ne]; exact h0
    rw [dptr_no H d h0] at CP
    generalize N.powE d = E at CP HR hne
    clear h h0
    unfold ptr at CP ⊢
    go_enter Try.func22, Try.ntmps22
    go_wp2_with fail
    refine CP.out.mono ?_
    rintro e w' ⟨rfl, rfl⟩
    go_wp2
    go_ret2
    exact ⟨_, by rw [HR.out.1]; rfl, by rw [HR.out.2]; exact OwB.nil _ _ _, Below.refl _ _⟩
theorem bch_failed_any (d : Int) (hd : i64B d) : Calls Try.prog 47 #[ptr b, .int .i64 d] w fun e w' => e = .returned (.bool (N.failed d)) ∧ w' = w := by
  have CP := Lib.hid (bch_pick_any B b H N w h d hd)
  by_cases h0 : N.pickE d = 0
  · rw [h0, dptr_ok] at CP
    have hi := Bch.pickE_zero h0
    have HE := Lib.hid (show N.failed d = (N.at_ d).f by unfold Bch.failed; rw [if_neg (by simp [h0])])
    have CD := Lib.hid (dsk_failed_any _ _ _ _ w (h.dsk d.toNat (by omega)))
    generalize hX : N.D d.toNat = X at CD
    rw [show N.at_ d = X from hX] at HE
    clear h h0 hi hX
    generalize H.bk d.toNat = db at CP CD
    unfold ptr at CP ⊢
    go_enter Try.func47, Try.ntmps47
    go_wp2_with fail
    refine CP.out.mono ?_
    rintro e w' ⟨rfl, rfl⟩
    go_wp2_with fail
    refine CD.out.mono ?_
    rintro e w1 ⟨rfl, rfl⟩
    go_wp2
    go_ret
    exact ⟨by rw [HE.out]; rfl, rfl⟩
  · have HE := Lib.hid (show N.failed d = false by unfold Bch.failed; rw [if_pos h0])
    have hne : (N.pickE d == 0) = false := by rw [beq_eq_false_iff_ne]; exact h0
    rw [dptr_no H d h0] at CP
    generalize N.pickE d = E at CP hne
    clear h h0
    unfold ptr at CP ⊢
    go_enter Try.func47, Try.ntmps47
    go_wp2_with fail
    refine CP.out.mono ?_
    rintro e w' ⟨rfl, rfl⟩
    go_wp2
    go_ret
    exact ⟨by rw [HE.out]; rfl, rfl⟩
theorem bch_fail_any (d : Int) (hd : i64B d) : Calls Try.prog 15 #[ptr b, .int .i64 d] w fun e w' => e = .returned (.int .i64 (N.pickE d)) ∧ BTo w w' B b H N.n (N.fail d) := by
  have Hh := Lib.hid h
  have CP := Lib.hid (bch_pick_any B b H N w h d hd)
  by_cases h0 : N.pickE d = 0
  · rw [h0, dptr_ok] at CP
    have hi := Bch.pickE_zero h0
    have HI := Lib.hid (show d.toNat < N.n by omega)
    have HF := Lib.hid (show N.fail d = N.set d.toNat Dsk.failed by unfold Bch.fail; rw [if_neg (by simp [h0])])
    have CD := Lib.hid (dsk_fail_any _ _ _ _ w (h.dsk d.toNat (by omega)))
    have HE := Lib.hid h0
    clear h h0 hi
    unfold ptr at CP ⊢
    go_enter Try.func15, Try.ntmps15
    go_wp2_with fail
    refine CP.out.mono ?_
    rintro e w' ⟨rfl, rfl⟩
    go_wp2_with fail
    refine CD.out.mono ?_
    rintro e w1 ⟨rfl, hd1, hc1⟩
    go_wp2
    go_ret
    exact ⟨by rw [HE.out]; rfl, by rw [HF.out]; exact Hh.out.step HI.out hd1 hc1 (NewOr.none _ _)⟩
  · have HF := Lib.hid (show N.fail d = N by unfold Bch.fail; rw [if_pos h0])
    have hne : (N.pickE d != 0) = true := by rw [bne_iff_ne]; exact h0
    rw [dptr_no H d h0] at CP
    generalize N.pickE d = E at CP hne ⊢
    clear h h0
    unfold ptr at CP ⊢
    go_enter Try.func15, Try.ntmps15
    go_wp2_with fail
    refine CP.out.mono ?_
    rintro e w' ⟨rfl, rfl⟩
    go_wp2
    go_ret
    exact ⟨rfl, by rw [HF.out]; exact Hh.out.self⟩
theorem bch_damage_any (d k : Int) (x : List UInt8) (A : Option Addr) (n c : Nat) (hn : n = x.length) (hd : i64B d) (hk : i64B k) (hr : RdB w w.heap.size A x) (hps : ∀ i, i < N.n → (N.D i).ps.length ≤ 2000000) :
    Calls Try.prog 33 #[ptr b, .int .i64 d, .int .i64 k, .slice A n c] w fun e w' => e = .returned (.int .i64 (N.damageE d k n)) ∧ BTo w w' B b H N.n (N.damage d k x) := by
  have Hh := Lib.hid h
  have CP := Lib.hid (bch_pick_any B b H N w h d hd)
  by_cases h0 : N.pickE d = 0
  · rw [h0, dptr_ok] at CP
    have hi := Bch.pickE_zero h0
    have HI := Lib.hid (show d.toNat < N.n by omega)
    have e1 : takeE (N.at_ d).f k n = N.damageE d k n := by unfold Bch.damageE; rw [if_neg (by simp [h0])]
    have HF := Lib.hid (show N.damage d k x = N.set d.toNat ((N.at_ d).damageE k x) by unfold Bch.damage; rw [if_neg (by simp [h0])])
    have CD := dsk_damage_any _ _ _ _ w (h.dsk d.toNat (by omega)) k x A n c hn hk hr (hps _ (by omega))
    rw [show N.D d.toNat = N.at_ d from rfl, e1] at CD
    have CD := Lib.hid CD
    generalize N.damageE d k n = E at CD
    clear h h0 hi e1 hr hps hn
    unfold ptr at CP ⊢
    go_enter Try.func33, Try.ntmps33
    go_wp2_with fail
    refine CP.out.mono ?_
    rintro e w' ⟨rfl, rfl⟩
    go_wp2_with fail
    refine CD.out.mono ?_
    rintro e w1 ⟨pv', rfl, hd1, hc1, hn1⟩
    go_wp2
    go_ret
    exact ⟨rfl, by rw [HF.out]; exact Hh.out.step HI.out hd1 hc1 hn1⟩
  · have HE := Lib.hid (show N.damageE d k n = N.pickE d by unfold Bch.damageE; rw [if_pos h0])
    have HF := Lib.hid (show N.damage d k x = N by unfold Bch.damage; rw [if_pos h0])
    have hne : (N.pickE d != 0) = true := by rw [bne_iff_ne]; exact h0
    rw [dptr_no H d h0] at CP
    generalize N.pickE d = E at CP HE hne
    clear h h0 hr hps hn
    unfold ptr at CP ⊢
    go_enter Try.func33, Try.ntmps33
    go_wp2_with fail
    refine CP.out.mono ?_
    rintro e w' ⟨rfl, rfl⟩
    go_wp2
    go_ret
    exact ⟨by rw [HE.out]; rfl, by rw [HF.out]; exact Hh.out.self⟩
end
end Go.Proofs.Ytadmofpipfdedaa
end
section
namespace Go.Proofs.Ytadmofpipfdedaa
open Go.RowKit

end Go.Proofs.Ytadmofpipfdedaa
end
section
set_option linter.unusedVariables false
set_option linter.unusedSimpArgs false
namespace Go.Proofs.Ytadmofpipfdedaa
open Go.RowKit

end Go.Proofs.Ytadmofpipfdedaa
end
section
namespace Go.Proofs.Ytadmofpipfdedaa
open Go.RowKit

section
variable (B b : Nat) (H : BH) (N : Bch) (w : World) (h : BAt w B b H N)
include h
theorem bch_down_any : Calls Try.prog 19 #[ptr b] w fun e w' => e = .returned (.bool N.down) ∧ w' = w := by
  have hc := h.cell 2 _ rfl
  clear h
  unfold ptr
  go_enter Try.func19, Try.ntmps19
  go_wp2
  go_ret
  exact ⟨rfl, rfl⟩
end
end Go.Proofs.Ytadmofpipfdedaa
end
section
set_option maxRecDepth 8000
set_option linter.unusedVariables false
set_option linter.unusedSimpArgs false
namespace Go.Proofs.Ytadmofpipfdedaa
open Go.RowKit

end Go.Proofs.Ytadmofpipfdedaa
end
