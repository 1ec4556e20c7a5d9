/- Texts put together: StpFld, RefPlace, RefFill, StpFilledLoops. -/
import Derived.Test.YtenkkdnepmoihaaGreatDoorUral
import Derived.Test.YtenkkdnepmoihaaGreatDoorUrao
import Derived.Test.YtenkkdnepmoihaaGreatDoorUrah
import Derived.Test.YtenkkdnepmoihaaGreatDoorUrae
import Derived.Test.YtenkkdnepmoihaaGreatDoorUraf
import Derived.Test.YtenkkdnepmoihaaGreatDoorUran
import Derived.Test.YtenkkdnepmoihaaGreatDoorUrai
section
set_option linter.unusedVariables false
set_option linter.unusedSimpArgs false
namespace Go.Proofs.YtenkkdnepmoihaaGreatDoor

/-- A bench with power, without a limit, on which nothing is pending. -/
structure Gd (N : Bch) (m : Nat) : Prop where
  n : N.n = m
  dn : N.down = false
  lf : N.left = -1
  done : N.done = 0
  ps : ∀ i, i < m → (N.D i).ps = []
  ok : ∀ i, i < m → (N.D i).Ok
  f : ∀ i, i < m → (N.D i).f = false
/-- The rows below s stand on it, and of row s what is on disks below j. -/
structure Fld (N : Bch) (m D : Nat) (fl : Nat → List (List UInt8)) (s j : Nat) : Prop where
  gd : Gd N m
  at' : ∀ t i, i < D → t < 16 → t < s ∨ (t = s ∧ i < j) → secAt (N.D i).now (36 + t) = (fl t).getD i []
theorem gd_new (m : Nat) : Gd (Bch.new m) m := ⟨rfl, rfl, rfl, rfl, fun _ _ => rfl, fun _ _ => Dsk.new_ok, fun _ _ => rfl⟩
theorem fld_new (m D : Nat) (fl : Nat → List (List UInt8)) : Fld (Bch.new m) m D fl 0 0 := ⟨gd_new m, fun t i _ _ h => by omega⟩
theorem damage_do {N : Bch} {d k : Nat} {x : List UInt8} (hd : d < N.n) (hk : k < 52) (hx : x.length = 32) (hf : (N.D d).f = false) : N.damage (d : Int) (k : Int) x = N.set d ((N.D d).damage k x) := by
  unfold Bch.damage
  rw [if_neg (by rw [Bch.pickE_ok (by omega) (by omega)]; simp)]
  show N.set d ((N.D d).damageE (k : Int) x) = _
  unfold Dsk.damageE
  rw [if_pos (by rw [hx, hf]; exact takeE_ok (by omega) (by omega))]
  rfl
theorem gd_damage {N : Bch} {m d k : Nat} {x : List UInt8} (h : Gd N m) (hd : d < m) (hk : k < 52) (hx : x.length = 32) : Gd (N.damage (d : Int) (k : Int) x) m := by
  rw [damage_do (by rw [h.n]; exact hd) hk hx (h.f d hd)]
  refine ⟨h.n, h.dn, h.lf, h.done, fun i hi => ?_, fun i hi => ?_, fun i hi => ?_⟩ <;> show _
  · show (upd N.D d _ i).ps = []
    by_cases e : i = d
    · subst e; rw [upd_same]; show List.filter _ (N.D i).ps = []; rw [h.ps i hi]; rfl
    · rw [upd_other _ _ e]; exact h.ps i hi
  · show (upd N.D d _ i).Ok
    by_cases e : i = d
    · subst e; rw [upd_same]; exact (h.ok i hi).damage hk hx
    · rw [upd_other _ _ e]; exact h.ok i hi
  · show (upd N.D d _ i).f = false
    by_cases e : i = d
    · subst e; rw [upd_same]; exact h.f i hi
    · rw [upd_other _ _ e]; exact h.f i hi
theorem sec_damage {N : Bch} {m d k : Nat} {x : List UInt8} (h : Gd N m) (hd : d < m) (hk : k < 52) (hx : x.length = 32) (i j : Nat) : secAt ((N.damage (d : Int) (k : Int) x).D i).now j = if i = d ∧ j = k then x else secAt (N.D i).now j := by
  rw [damage_do (by rw [h.n]; exact hd) hk hx (h.f d hd)]
  show secAt (upd N.D d _ i).now j = _
  by_cases e : i = d
  · subst e
    rw [upd_same, Dsk.damage_now (h.ok i hd) hk hx]
    by_cases e2 : j = k
    · subst e2; rw [if_pos ⟨rfl, rfl⟩]; exact sec_put_same (h.ok i hd).now hk hx
    · rw [if_neg (fun q => e2 q.2)]; exact sec_put_other (h.ok i hd).now hk hx e2
  · rw [upd_other _ _ e, if_neg (fun q => e q.1)]
theorem fld_damage {N : Bch} {m D : Nat} {fl : Nat → List (List UInt8)} {s j : Nat} (h : Fld N m D fl s j) (hj : j < m) (hs : s < 16) (hx : ((fl s).getD j []).length = 32) : Fld (N.damage (j : Int) ((36 + s : Nat) : Int) ((fl s).getD j [])) m D fl s (j + 1) := by
  refine ⟨gd_damage h.gd hj (by omega) hx, fun t i hi ht h2 => ?_⟩
  rw [sec_damage h.gd hj (by omega) hx]
  by_cases e : i = j ∧ 36 + t = 36 + s
  · rw [if_pos e]
    obtain ⟨rfl, e2⟩ := e
    obtain rfl : t = s := by omega
    rfl
  · rw [if_neg e]
    exact h.at' t i hi ht (by omega)
theorem fld_next {N : Bch} {m D : Nat} {fl : Nat → List (List UInt8)} {s : Nat} (h : Fld N m D fl s D) : Fld N m D fl (s + 1) 0 := ⟨h.gd, fun t i hi ht h2 => h.at' t i hi ht (by omega)⟩
/-- Filled. -/
theorem Fld.all {N : Bch} {m D : Nat} {fl : Nat → List (List UInt8)} (h : Fld N m D fl 16 0) {t i : Nat} (hi : i < D) (ht : t < 16) : secAt (N.D i).now (36 + t) = (fl t).getD i [] := h.at' t i hi ht (by omega)
end Go.Proofs.YtenkkdnepmoihaaGreatDoor
end
section
set_option linter.unusedVariables false
set_option linter.unusedSimpArgs false
namespace Go.Proofs.YtenkkdnepmoihaaGreatDoor
open Go.RowKit

theorem refFine_any (l d c r : Int) (w : World) (hl : (-9223372036854775808 ≤ l ∧ l ≤ 9223372036854775807)) (hd : (-9223372036854775808 ≤ d ∧ d ≤ 9223372036854775807)) (hc : (-9223372036854775808 ≤ c ∧ c ≤ 9223372036854775807)) (hr : (-9223372036854775808 ≤ r ∧ r ≤ 9223372036854775807)) :
    Calls Tryz.prog 43 #[.agg #[.int .i64 l, .int .i64 d, .int .i64 c], .int .i64 r] w fun e w' => e = .returned (.bool (plOk l d c r)) ∧ Below w.heap.size w w' := by
  cases hG : gOk l d c
  · have H : Hid (plOk l d c r = false) := plOk_no (by rw [hG]; simp)
    have HG := Lib.hid hG
    clear hG
    go_enter Tryz.func43, Tryz.ntmps43
    go_wp2_with fail
    (with_reducible refine (refCheck_no l d c _ HG hl hd hc).mono ?_); rintro e w1 ⟨rfl, hb⟩
    have F := (below1 w _).trans (hb.mono (by simp))
    clear hb
    go_wp2_with fail
    go_ret
    exact ⟨by rw [H.out]; rfl, F⟩
  · have HG := Lib.hid hG
    by_cases h0 : 0 ≤ r
    · have e0 : decide (0 ≤ r) = true := decide_eq_true h0
      by_cases h1 : r < 16
      · have e1 : decide (r < 16) = true := decide_eq_true h1
        have H : Hid (plOk l d c r = true) := plOk_mk hG h0 h1
        clear hG
        go_enter Tryz.func43, Tryz.ntmps43
        go_wp2_with fail
        (with_reducible refine (refCheck_yes l d c _ HG hl hd hc).mono ?_); rintro e w1 ⟨rfl, hb⟩
        have F := (below1 w _).trans (hb.mono (by simp))
        clear hb
        go_wp2_with fail
        go_ret
        exact ⟨by rw [H.out]; rfl, F⟩
      · have e1 : decide (r < 16) = false := decide_eq_false h1
        have H : Hid (plOk l d c r = false) := plOk_no (by omega)
        clear hG
        go_enter Tryz.func43, Tryz.ntmps43
        go_wp2_with fail
        (with_reducible refine (refCheck_yes l d c _ HG hl hd hc).mono ?_); rintro e w1 ⟨rfl, hb⟩
        have F := (below1 w _).trans (hb.mono (by simp))
        clear hb
        go_wp2_with fail
        go_ret
        exact ⟨by rw [H.out]; rfl, F⟩
    · have e0 : decide (0 ≤ r) = false := decide_eq_false h0
      have H : Hid (plOk l d c r = false) := plOk_no (by omega)
      clear hG
      go_enter Tryz.func43, Tryz.ntmps43
      go_wp2_with fail
      (with_reducible refine (refCheck_yes l d c _ HG hl hd hc).mono ?_); rintro e w1 ⟨rfl, hb⟩
      have F := (below1 w _).trans (hb.mono (by simp))
      clear hb
      go_wp2_with fail
      go_ret
      exact ⟨by rw [H.out]; rfl, F⟩
theorem refFine_yes (l d c r : Int) (w : World) (h : Hid (plOk l d c r = true)) (hl : (-9223372036854775808 ≤ l ∧ l ≤ 9223372036854775807)) (hd : (-9223372036854775808 ≤ d ∧ d ≤ 9223372036854775807)) (hc : (-9223372036854775808 ≤ c ∧ c ≤ 9223372036854775807)) (hr : (-9223372036854775808 ≤ r ∧ r ≤ 9223372036854775807)) :
    Calls Tryz.prog 43 #[.agg #[.int .i64 l, .int .i64 d, .int .i64 c], .int .i64 r] w fun e w' => e = .returned (.bool true) ∧ Below w.heap.size w w' := by
  have := refFine_any l d c r w hl hd hc hr
  rwa [h.out] at this
theorem refFine_no (l d c r : Int) (w : World) (h : Hid (plOk l d c r = false)) (hl : (-9223372036854775808 ≤ l ∧ l ≤ 9223372036854775807)) (hd : (-9223372036854775808 ≤ d ∧ d ≤ 9223372036854775807)) (hc : (-9223372036854775808 ≤ c ∧ c ≤ 9223372036854775807)) (hr : (-9223372036854775808 ≤ r ∧ r ≤ 9223372036854775807)) :
    Calls Tryz.prog 43 #[.agg #[.int .i64 l, .int .i64 d, .int .i64 c], .int .i64 r] w fun e w' => e = .returned (.bool false) ∧ Below w.heap.size w w' := by
  have := refFine_any l d c r w hl hd hc hr
  rwa [h.out] at this
theorem refParity_any (l d c r : Int) (w : World) (hl : (-9223372036854775808 ≤ l ∧ l ≤ 9223372036854775807)) (hd : (-9223372036854775808 ≤ d ∧ d ≤ 9223372036854775807)) (hc : (-9223372036854775808 ≤ c ∧ c ≤ 9223372036854775807)) (hr : (-9223372036854775808 ≤ r ∧ r ≤ 9223372036854775807)) :
    Calls Tryz.prog 73 #[.agg #[.int .i64 l, .int .i64 d, .int .i64 c], .int .i64 r] w fun e w' => e = .returned (.tuple #[.int .i64 (plP l d c r), .int .i64 (plQ l d c r)]) ∧ Below w.heap.size w w' := by
  have G := gat_new w l d c 24 (0, 0)
  cases hT : plOk l d c r
  · have HP := Lib.hid (plP_no hT)
    have HQ := Lib.hid (plQ_no hT)
    have HT := Lib.hid hT
    clear hT
    go_enter Tryz.func73, Tryz.ntmps73
    go_wp2_with fail
    (with_reducible refine (refFine_no l d c r _ HT hl hd hc hr).mono ?_); rintro e w1 ⟨rfl, hb⟩
    have F := (below1 w _).trans (hb.mono (by simp))
    clear hb
    go_wp2_with fail
    go_ret2
    exact ⟨by rw [HP.out, HQ.out]; rfl, F⟩
  · have HT := Lib.hid hT
    obtain ⟨hg, h0, h1⟩ := plOk_yes hT
    have hb6 := gOk_bd hg
    have hq := quo_bd 16 h0 h1 (show 1 ≤ c by omega)
    have hm := rem_bd (r / c) (show 1 ≤ d by omega)
    have HP := Lib.hid (plP_yes hT)
    by_cases h6 : l = 6
    · subst h6
      have HQ := Lib.hid (plQ_6 hT)
      clear hT hg
      go_enter Tryz.func73, Tryz.ntmps73
      go_wp2_with fail
      (with_reducible refine (refFine_yes 6 d c r _ HT hl hd hc hr).mono ?_); rintro e w1 ⟨rfl, hb⟩
      have F := (below1 w _).trans (hb.mono (by simp))
      obtain ⟨g1, g2, g3⟩ := G.below hb (by simp)
      clear hb
      go_wp2_with fail
      go_quiet (fail)
      go_wp2_with fail
      go_quiet (fail)
      go_wp2
      go_ret2
      exact ⟨by rw [HP.out, HQ.out]; rfl, (F.trans (belowN _ _ _)).trans (belowN _ _ _)⟩
    · obtain rfl : l = 5 := by omega
      have HQ := Lib.hid (@plQ_5 d c r)
      clear hT hg h6
      go_enter Tryz.func73, Tryz.ntmps73
      go_wp2_with fail
      (with_reducible refine (refFine_yes 5 d c r _ HT hl hd hc hr).mono ?_); rintro e w1 ⟨rfl, hb⟩
      have F := (below1 w _).trans (hb.mono (by simp))
      obtain ⟨g1, g2, g3⟩ := G.below hb (by simp)
      clear hb
      go_wp2_with fail
      go_quiet (fail)
      go_wp2
      go_ret2
      exact ⟨by rw [HP.out, HQ.out]; rfl, F.trans (belowN _ _ _)⟩
theorem refDisk_any (l d c r k : Int) (w : World) (hl : (-9223372036854775808 ≤ l ∧ l ≤ 9223372036854775807)) (hd : (-9223372036854775808 ≤ d ∧ d ≤ 9223372036854775807)) (hc : (-9223372036854775808 ≤ c ∧ c ≤ 9223372036854775807)) (hr : (-9223372036854775808 ≤ r ∧ r ≤ 9223372036854775807)) (hk : (-9223372036854775808 ≤ k ∧ k ≤ 9223372036854775807)) :
    Calls Tryz.prog 67 #[.agg #[.int .i64 l, .int .i64 d, .int .i64 c], .int .i64 r, .int .i64 k] w fun e w' => e = .returned (.int .i64 (plD l d c r k)) ∧ Below w.heap.size w w' := by
  have G := gat_new w l d c 24 (0, 0)
  have HD : Hid (∀ b, plDok l d c r k = b → plD l d c r k = if b = true then (plF l d c r + k) % d else -1) := Lib.hid (fun b h => by subst h; rfl)
  have HW := Lib.hid (fun W => refWidth_any l d c W hl hd hc)
  have HK : Hid (plDok l d c r k = (plOk l d c r && decide (0 ≤ k ∧ k < gWid l d c))) := rfl
  cases hT : plOk l d c r
  · have H := Lib.hid ((HD.out false (by rw [HK.out, hT]; rfl)).trans (if_neg (by decide)))
    have HT := Lib.hid hT
    clear hT
    go_enter Tryz.func67, Tryz.ntmps67
    go_wp2_with fail
    (with_reducible refine (refFine_no l d c r _ HT hl hd hc hr).mono ?_); rintro e w1 ⟨rfl, hb⟩
    have F := (below1 w _).trans (hb.mono (by simp))
    clear hb
    go_wp2_with fail
    go_ret
    exact ⟨by rw [H.out]; rfl, F⟩
  · have HT := Lib.hid hT
    by_cases h0 : k < 0
    · have H := Lib.hid ((HD.out false (by rw [HK.out, hT, decide_eq_false (by omega)]; rfl)).trans (if_neg (by decide)))
      have e0 : decide (k < 0) = true := decide_eq_true h0
      clear hT
      go_enter Tryz.func67, Tryz.ntmps67
      go_wp2_with fail
      (with_reducible refine (refFine_yes l d c r _ HT hl hd hc hr).mono ?_); rintro e w1 ⟨rfl, hb⟩
      have F := (below1 w _).trans (hb.mono (by simp))
      clear hb
      go_wp2_with fail
      go_ret
      exact ⟨by rw [H.out]; rfl, F⟩
    · have e0 : decide (k < 0) = false := decide_eq_false h0
      obtain ⟨hg, h00, h11⟩ := plOk_yes HT.out
      have hb6 := gOk_bd hg
      have hw := gWid_bd l d c
      by_cases h1 : gWid l d c ≤ k
      · have H := Lib.hid ((HD.out false (by rw [HK.out, hT, decide_eq_false (by omega)]; rfl)).trans (if_neg (by decide)))
        generalize gWid l d c = wd at HW hw h1
        have e1 : decide (wd ≤ k) = true := decide_eq_true h1
        clear hT hg h00 h11 HK HD
        go_enter Tryz.func67, Tryz.ntmps67
        go_wp2_with fail
        (with_reducible refine (refFine_yes l d c r _ HT hl hd hc hr).mono ?_); rintro e w1 ⟨rfl, hb⟩
        have S1 := GS.later (w0 := w) (B := w.heap.size) ⟨G.1, G.2.1, G.2.2, below1 w _⟩ hb
        clear hb G
        obtain ⟨g1, g2, g3, F⟩ := S1
        go_wp2_with fail
        (with_reducible refine (HW.out _).mono ?_); rintro e w2 ⟨rfl, hb⟩
        have S2 := GS.later (w0 := w) (B := w.heap.size) ⟨g1, g2, g3, F⟩ hb
        clear hb g1 g2 g3 F
        go_wp2_with fail
        go_ret
        exact ⟨by rw [H.out]; rfl, S2.2.2.2⟩
      · have H0 := (HD.out true (by rw [HK.out, hT, decide_eq_true (by omega)]; rfl)).trans (if_pos rfl)
        have H : Hid (plD l d c r k = (plP l d c r + gBud l d c + k) % d) := by rw [H0, plP_yes hT, gBud_yes hg]; unfold plF; exact Int.emod_add_emod _ _ _
        have hm := rem_bd (r / c) (show 1 ≤ d by omega)
        have hp : 0 ≤ plP l d c r ∧ plP l d c r < d := by rw [plP_yes hT]; omega
        have hbd := gBud_bd l d c
        have HP := Lib.hid (fun W => refParity_any l d c r W hl hd hc hr)
        have HB := Lib.hid (fun W => refBudget_any l d c W hl hd hc)
        clear H0 hm
        generalize gWid l d c = wd at HW hw h1
        generalize plP l d c r = p at HP hp H
        generalize plQ l d c r = q at HP
        generalize gBud l d c = bd at HB hbd H
        have e1 : decide (wd ≤ k) = false := decide_eq_false h1
        have n1 : ¬ d = 0 := by omega
        have z1 : IntKind.i64.wrap (p + bd) = p + bd := IntWalk.i64_in _ (by omega)
        have z2 : IntKind.i64.wrap (p + bd + k) = p + bd + k := IntWalk.i64_in _ (by omega)
        clear hT hg h00 h11 HK HD
        go_enter Tryz.func67, Tryz.ntmps67
        go_wp2_with fail
        (with_reducible refine (refFine_yes l d c r _ HT hl hd hc hr).mono ?_); rintro e w1 ⟨rfl, hb⟩
        have S1 := GS.later (w0 := w) (B := w.heap.size) ⟨G.1, G.2.1, G.2.2, below1 w _⟩ hb
        clear hb G
        obtain ⟨g1, g2, g3, F⟩ := S1
        go_wp2_with fail
        (with_reducible refine (HW.out _).mono ?_); rintro e w2 ⟨rfl, hb⟩
        have S2 := GS.later (w0 := w) (B := w.heap.size) ⟨g1, g2, g3, F⟩ hb
        clear hb g1 g2 g3 F
        obtain ⟨g1, g2, g3, F⟩ := S2
        go_wp2_with fail
        (with_reducible refine (HP.out _).mono ?_); rintro e w3 ⟨rfl, hb⟩
        have S0 := GS.later (w0 := w) (B := w.heap.size) ⟨g1, g2, g3, F⟩ hb
        clear hb g1 g2 g3 F
        obtain ⟨g1, g2, g3, F⟩ := S0
        go_wp2_with fail
        have S0 : GS w w.heap.size w.heap.size l d c w3 := ⟨g1, g2, g3, F⟩
        clear g1 g2 g3 F
        go_region_held3 (GS w w.heap.size w.heap.size l d c)
          (first | assumption | exact GS.drew ‹_›)
          ((go_at_call 76; (with_reducible refine (HB.out _).mono ?_); rintro e w4 ⟨rfl, hb⟩; have S4 := (GS.drew S0).later hb))
        go_wp2
        go_ret
        exact ⟨by rw [H.out, ← Int.tmod_eq_emod_of_nonneg (show 0 ≤ p + bd + k by omega)]; rfl, S4.2.2.2⟩
end Go.Proofs.YtenkkdnepmoihaaGreatDoor
end
section
set_option maxRecDepth 20000
set_option linter.unusedVariables false
set_option linter.unusedSimpArgs false
namespace Go.Proofs.YtenkkdnepmoihaaGreatDoor
open Go.RowKit

set_option maxHeartbeats 3200000 in
theorem refFill_yes (A : Option Addr) (rs : List (List UInt8)) (n cp : Nat) (l d c r : Int) (w : World) (hn : rs.length = n) (hrd : RdR w w.heap.size A rs) (hT : fillOk l d c r rs = true)
    (hl : -9223372036854775808 ≤ l ∧ l ≤ 9223372036854775807) (hd : -9223372036854775808 ≤ d ∧ d ≤ 9223372036854775807) (hc : -9223372036854775808 ≤ c ∧ c ≤ 9223372036854775807) (hr : -9223372036854775808 ≤ r ∧ r ≤ 9223372036854775807) :
    Calls Tryz.prog 39 #[.agg #[.int .i64 l, .int .i64 d, .int .i64 c], .int .i64 r, .slice A n cp] w (FillYes w (fillL (roD d) (roF l d c r) rs)) := by
  have G := gat_new w l d c 24 (0, 0)
  obtain ⟨hk, hnw, hall⟩ := fillOk_yes hT
  have CF := Lib.hid (fun W => refFine_yes l d c r W (Lib.hid hk) hl hd hc hr)
  have CP := Lib.hid (fun W => refParity_any l d c r W hl hd hc hr)
  have CW := Lib.hid (fun W => refWidth_any l d c W hl hd hc)
  have R := ro_of hk
  have HA := Lib.hid (fun k (hk : k < rs.length) => mem_getD hall hk)
  have CD : Hid (∀ (k : Nat) W, k < roW l d → Calls Tryz.prog 67 #[.agg #[.int .i64 l, .int .i64 d, .int .i64 c], .int .i64 r, .int .i64 (k : Int)] W fun e w' => e = .returned (.int .i64 ((roS (roD d) (roF l d c r) k : Nat) : Int)) ∧ Below W.heap.size W w') :=
    Lib.hid fun k W hk => by
      have hw7 := R.w7
      have := refDisk_any l d c r (k : Int) W hl hd hc hr (by omega)
      rwa [R.pD k hk] at this
  have CSP : Hid (∀ W, Below w.heap.size w W → Calls Tryz.prog 74 #[.slice A n cp] W (Gives W (pB rs))) := Lib.hid fun W hb => (refP_any A rs n cp W hn ((hrd.below hb (Nat.le_refl _)).more hb.size)).mono fun _ _ h => gives_of rfl h
  have CSQ : Hid (∀ W, Below w.heap.size w W → Calls Tryz.prog 75 #[.slice A n cp] W (Gives W (qB rs))) := Lib.hid fun W hb => (refQ_any A rs n cp W hn ((hrd.below hb (Nat.le_refl _)).more hb.size)).mono fun _ _ h => gives_of rfl h
  have hw1 := R.w1; have hw7 := R.w7; have hd8 := R.d8; have hWD := R.hW; have hFD := R.hF; have hlv := R.lv
  rw [R.pP, R.pQ] at CP
  rw [R.wd] at CW
  have e1 : ((n : Int) != ((roW l d : Nat) : Int)) = false := by rw [← hn, hnw]; exact bne_self_eq_false _
  have HS := Lib.hid (fun k (hk : k < roD d) => @fillTo2_succ (roD d) (roF l d c r) rs k hFD hk)
  have HSd := Lib.hid (fun k (hk : k < rs.length) => @allL_data rs k hk)
  have HSp := Lib.hid (allL_p rs)
  have HSq := Lib.hid (allL_q rs)
  have Hlt := Lib.hid (fun k (hk : k < roD d) => @roS_lt (roD d) (roF l d c r) k hFD hk)
  have Hfl := Lib.hid (show fillL (roD d) (roF l d c r) rs = fillTo2 (roD d) (roF l d c r) rs (roD d) from rfl)
  have Hf0 := Lib.hid (fillTo2_zero (roD d) (roF l d c r) rs)
  have Hfn := Lib.hid (fillL_len (roD d) (roF l d c r) rs)
  have hdd := R.dd
  obtain ⟨qv, hqv⟩ : ∃ qv, (if l = 6 then ((roS (roD d) (roF l d c r) (roW l d + 1) : Nat) : Int) else -1) = qv := ⟨_, rfl⟩
  rw [hqv] at CP
  have Hq := Lib.hid (show (qv = -1 ∧ roD d = roW l d + 1) ∨ (qv = ((roS (roD d) (roF l d c r) (roW l d + 1) : Nat) : Int) ∧ roD d = roW l d + 2) from by
    rcases hlv with ⟨rfl, h2⟩ | ⟨rfl, h2⟩
    · exact .inl ⟨by rw [← hqv]; rfl, h2⟩
    · exact .inr ⟨by rw [← hqv]; rfl, h2⟩)
  clear hqv hlv
  generalize fillL (roD d) (roF l d c r) rs = L at Hfl Hfn ⊢
  generalize roF l d c r = F0 at *
  generalize roW l d = W0 at *
  generalize roD d = D at *
  subst hdd
  have km := make_rows D (by omega)
  have Hr := Lib.hid hrd
  have hmx := hrd.1
  clear hT hk R hall hrd hw7
  subst hn
  subst hnw
  have HP0 := Hlt.out rs.length hWD
  go_enter Tryz.func39, Tryz.ntmps39
  go_wp2_with fail
  (with_reducible refine (CF.out _).mono ?_); rintro e w1 ⟨rfl, hb⟩
  have F := (below1 w _).trans (hb.mono (by simp))
  have G1 := G.below hb (by simp)
  have gs1 : w.heap.size < w1.heap.size := by have := hb.size; simp at this; omega
  obtain ⟨g1, g2, g3⟩ := G1
  clear hb
  go_wp2_with fail
  (with_reducible refine (CW.out _).mono ?_); rintro e w3 ⟨rfl, hb⟩
  have F2 := F.trans (hb.mono F.size)
  have G2 := GAt.below ⟨g1, g2, g3⟩ hb gs1
  have gs2 : w.heap.size < w3.heap.size := by have := hb.size; omega
  clear hb g1 g2 g3
  obtain ⟨g1, g2, g3⟩ := G2
  go_wp2_with fail
  have Q0 := (rq_new w3 D (by omega)).le (lo' := w.heap.size) (by omega)
  rw [← Hf0.out] at Q0
  have F3 := F2.trans ((below1 w3 (.cells (madeCells #[.slice none 0 0] D) 35)).mono F2.size)
  have G3 := GAt.below ⟨g1, g2, g3⟩ (below1 w3 (.cells (madeCells #[.slice none 0 0] D) 35)) gs2
  have hgg : w.heap.size < w3.heap.size := gs2
  generalize w3.heap.size = g at Q0 hgg
  generalize w3.alloc (.cells (madeCells #[.slice none 0 0] D) 35) = w4 at Q0 F3 G3
  clear g1 g2 g3 F F2
  go_loopw [29] (fun i wr => ∃ (k : Nat) (xs : List Value), k ≤ rs.length ∧ i = .int .i64 k ∧ Rq w.heap.size wr g D D xs (fillTo2 D F0 rs k) ∧ GAt wr w.heap.size l D c ∧ Below w.heap.size w wr) (fun i _ => rs.length - (intOf i).toNat)
  case atStart => exact ⟨0, _, Nat.zero_le _, rfl, Q0, G3, F3⟩
  case round =>
    obtain ⟨k, xs, hk, rfl, Q, G4, F4⟩ := hrel
    by_cases hlt : k < rs.length
    · obtain ⟨b, off, rfl, hbb, hc⟩ := Hr.out.2 (by omega)
      obtain ⟨A', c', h1, h2⟩ := hc k hlt
      rw [← F4.cell (p := ⟨b, off + k, none⟩) hbb] at h1
      have h2' := (h2.below F4 (Nat.le_refl _)).more F4.size
      have h32 := HA.out k hlt
      have Hs := Lib.hid (HS.out k (by omega))
      rw [HSd.out k hlt] at Hs
      have hj := Hlt.out k (by omega)
      have CD1 := Lib.hid (fun W => CD.out k W hlt)
      generalize rs.getD k [] = row at h1 h2' h32 Hs
      generalize roS D F0 k = j at hj CD1 Hs
      generalize fillTo2 D F0 rs k = ms at Q Hs
      rw [h32] at h1
      have i0 : (0 : Int) ≤ (k : Int) := by omega
      have i1 : (k : Int) < (rs.length : Int) := by omega
      have i2 : (0 : Int) ≤ (j : Int) := by omega
      have i3 : (j : Int) < (D : Int) := by omega
      have hglt := Q.glt.2
      clear hc h2 CP CW CF CSP CSQ CD HA HS HSd HSp HSq Hlt Hfl Hf0 Hfn Hq km e1 HP0 Q0 F3 G3
      obtain ⟨g1, g2, g3⟩ := G4
      have H32 := Lib.hid h32
      clear h32
      go_wp2_with fail
      (with_reducible refine (CD1.out _).mono ?_); rintro e w5 ⟨rfl, hb5⟩
      have hs5 := hb5.size
      have Hb5 := Lib.hid hb5
      have hr5 := ((h2'.below hb5 (Nat.le_refl _)).more hs5)
      clear hb5
      have Qn : ∀ w6, Below w5.heap.size w5 w6 → (∃ Ao m co, w6.cell? ⟨g, j, none⟩ = some (.slice Ao m co)) ∧ w6.frozen? ⟨g, j, none⟩ = false := fun w6 hb6 => by
        obtain ⟨Ao, co, _, h3, _⟩ := (Q.below (Hb5.out.trans (hb6.mono Hb5.out.size))).at j hj
        exact ⟨⟨Ao, _, co, h3⟩, (Q.below (Hb5.out.trans (hb6.mono Hb5.out.size))).fz j⟩
      go_wp2_with (
        at_builtin
        refine wpList_append_B _ rfl _ _ _ rfl w5.heap.size 5 Tryz.underlying35 info_u8 (.slice none 0 0) [] rfl (OwB.nil _ _ _) w5.heap.size A' 32 c' row rfl H32.out.symm hr5 (by rw [H32.out]; simp) (Nat.le_refl _) ?_
        intro v' w6 hown hg hat
        have hb6 : Below w5.heap.size w5 w6 := (Below.refl _ _).grown hg (Nat.le_refl _) (by simp [Value.ownBlock])
        rw [List.nil_append] at hown
        obtain ⟨⟨Ao, mo, co, h3⟩, hf3⟩ := Qn w6 hb6
        obtain ⟨A1, c1, rfl, _, _⟩ := hown.rd
        have Hown := Lib.hid hown
        have Hb6 := Lib.hid hb6
        clear hown hg hat hb6 Qn)
      have hb56 := Hb5.out.trans (Hb6.out.mono Hb5.out.size)
      obtain ⟨hset, hgr⟩ := Q.step hb56 j hj (Hown.out.le hs5)
      rw [Hs.out] at hset
      have G6 := ((GAt.below ⟨g1, g2, g3⟩ hb56 (by omega)).grown hgr (by have := hb56.size; omega) (by intro e; injection e with e; omega))
      have F6 := (F4.trans (hb56.mono F4.size)).setCell (p := ⟨g, j, none⟩) (by show w.heap.size ≤ g; omega) (.slice A1 row.length c1)
      go_roundw
      case rel => exact ⟨k + 1, _, by omega, by go_num, hset, G6, F6⟩
      case measure => simp [intOf]; omega
    · obtain rfl : k = rs.length := by omega
      have Hs := Lib.hid (HS.out rs.length hWD)
      rw [HSp.out] at Hs
      have Hqs := Lib.hid (fun h => HS.out (rs.length + 1) h)
      rw [HSq.out] at Hqs
      have hq1 := Lib.hid (fun h => Hlt.out (rs.length + 1) h)
      generalize roS D F0 rs.length = j at HP0 Hs CP
      generalize fillTo2 D F0 rs rs.length = ms at Q Hs
      have i2 : (0 : Int) ≤ (j : Int) := by omega
      have i3 : (j : Int) < (D : Int) := by omega
      have hglt := Q.glt.2
      clear CW CF CD HA HS HSd HSp HSq Hlt Hf0 km e1 Q0 F3 G3 hWD hFD
      obtain ⟨g1, g2, g3⟩ := G4
      go_wp2_with fail
      (with_reducible refine (CP.out _).mono ?_); rintro e w5' ⟨rfl, hb5'⟩
      have F4' := F4.trans (hb5'.mono F4.size)
      have Q' := Q.below hb5'
      have hglt' := Q'.glt.2
      clear hb5' Q F4 hglt CP g1 g2 g3
      go_wp2_with fail
      (with_reducible refine (CSP.out _ F4').mono ?_); rintro e w5 ⟨A1, c1, rfl, ho, hb5⟩
      have hs5 := hb5.size
      obtain ⟨Ao, co, _, h3, _⟩ := (Q'.below hb5).at j HP0
      have hf3 := (Q'.below hb5).fz j
      obtain ⟨hset, hgr⟩ := Q'.step hb5 j HP0 ho
      rw [Hs.out] at hset
      have F6 := (F4'.trans (hb5.mono F4'.size)).setCell (p := ⟨g, j, none⟩) (by show w.heap.size ≤ g; omega) (.slice A1 (pB rs).length c1)
      clear Q' Hs CSP F4'
      rcases Hq.out with ⟨rfl, hD⟩ | ⟨rfl, hD⟩
      · clear Hq Hqs hq1
        subst hD
        go_wp2
        go_ret2
        rw [Hfl.out] at Hfn ⊢
        exact ⟨g, _, by rw [Hfn.out]; rfl, by rw [Hfn.out]; exact hset, F6⟩
      · have Hs := Lib.hid (Hqs.out (by omega))
        have hj2 := hq1.out (by omega)
        clear Hq Hqs hq1
        generalize roS D F0 (rs.length + 1) = j2 at Hs hj2 ⊢
        generalize fillTo2 D F0 rs (rs.length + 1) = ms at hset Hs
        have i4 : (0 : Int) ≤ (j2 : Int) := by omega
        have i5 : (j2 : Int) < (D : Int) := by omega
        have n2 : decide ((j2 : Int) ≥ 0) = true := decide_eq_true (by omega)
        have HD := Lib.hid hD
        clear hD
        go_wp2_with fail
        generalize w5.setCell ⟨g, j, none⟩ (.slice A1 (pB rs).length c1) = w6 at hset F6 ⊢
        (with_reducible refine (CSQ.out _ F6).mono ?_); rintro e w7 ⟨A2, c2, rfl, ho7, hb7⟩
        obtain ⟨Ao2, co2, _, h4, _⟩ := (hset.below hb7).at j2 hj2
        have hf4 := (hset.below hb7).fz j2
        obtain ⟨hset2, hgr2⟩ := hset.step hb7 j2 hj2 ho7
        rw [Hs.out, show rs.length + 1 + 1 = D from HD.out.symm] at hset2
        have F8 := (F6.trans (hb7.mono F6.size)).setCell (p := ⟨g, j2, none⟩) (by show w.heap.size ≤ g; omega) (.slice A2 (qB rs).length c2)
        clear hset Hs
        go_wp2
        go_ret2
        rw [Hfl.out] at Hfn ⊢
        exact ⟨g, _, by rw [Hfn.out]; rfl, by rw [Hfn.out]; exact hset2, F8⟩
end Go.Proofs.YtenkkdnepmoihaaGreatDoor
end
section
set_option linter.unusedVariables false
set_option linter.unusedSimpArgs false
namespace Go.Proofs.YtenkkdnepmoihaaGreatDoor
open Go.RowKit

noncomputable def codeFld : Code := Tryz.f8.body.getD .skip
theorem Gr.at {n l c r : Int} {D F W : Nat} (h : Gr n l c r D F W) {s : Nat} (hs : s < 16) : Gr n l c (s : Int) D (roF l (D : Int) c (s : Int)) W := by
  have hok := plOk_mk (plOk_yes h.ok).1 (show (0 : Int) ≤ (s : Int) by omega) (show (s : Int) < 16 by omega)
  have R := ro_of hok
  have hF := R.hF
  rw [h.eD] at hF
  exact ⟨hok, R, h.eD, rfl, h.eW, hF, h.hW, h.w1, h.w7, h.d8, h.d3, h.lv, h.wd, h.l64, h.d64, h.c64, by omega, ⟨by omega, by omega⟩⟩
/-- A row of a filled bench. -/
def rowL (l c : Int) (D W : Nat) (zs : List Int) (s : Nat) : List (List UInt8) := fillL D (roF l (D : Int) c (s : Int)) (datL zs s W)
theorem rowL_32 {n l c r : Int} {D F W : Nat} (h : Gr n l c r D F W) {zs : List Int} {s i : Nat} (hs : s < 16) (hi : i < D) : ((rowL l c D W zs s).getD i []).length = 32 := (h.at hs).fills (datL_len _ _ _) datL_mem hi
theorem rowL_len (l c : Int) (D W : Nat) (zs : List Int) (s : Nat) : (rowL l c D W zs s).length = D := fillL_len _ _ _
/-- The document's Fill of what may be filled. -/
theorem refFill_good {A : Option Addr} {rs : List (List UInt8)} {n cp D F : Nat} {l d c r : Int} {w : World} (hrd : RdR w w.heap.size A rs) (hn : rs.length = n) (hT : fillOk l d c r rs = true) (hD : roD d = D) (hF : roF l d c r = F)
    (hl : -9223372036854775808 ≤ l ∧ l ≤ 9223372036854775807) (hd : -9223372036854775808 ≤ d ∧ d ≤ 9223372036854775807) (hc : -9223372036854775808 ≤ c ∧ c ≤ 9223372036854775807) (hr : -9223372036854775808 ≤ r ∧ r ≤ 9223372036854775807) :
    Calls Tryz.prog 39 #[.agg #[.int .i64 l, .int .i64 d, .int .i64 c], .int .i64 r, .slice A n cp] w fun e w' => ∃ g xs, e = .returned (.tuple #[.slice (some ⟨g, 0, none⟩) D D, .bool true]) ∧ Rq w.heap.size w' g D D xs (fillL D F rs) ∧ Below w.heap.size w w' := by
  subst hD hF
  refine (refFill_yes A rs n cp l d c r w hn hrd hT hl hd hc hr).mono ?_
  rintro e w' ⟨g, xs, he, hq, hb⟩
  rw [fillL_len] at he hq
  exact ⟨g, xs, he, hq, hb⟩
set_option maxRecDepth 100000 in
set_option maxHeartbeats 3200000 in
theorem flIb {W0 : World} {m D b g s : Nat} {KK : List (Nat × Obj)} {fl : Nat → List (List UInt8)} {j : Nat} {H : BH} {N : Bch} {w : World} (u0 u2 u3 u4 u5 u6 u8 u13 u14 u15 u16 u17 u18 u19 u20 u21 u22 u23 u24 u25 u26 u27 u28 u29 u30 u31 u32 u33 u34 u35 u36 u37 u38 u39 u40 u41 u42 u43 u44 u45 u46 u47 u48 u49 u50 u51 u52 u53 u54 u55 u56 u57 u58 u59 u60 u61 u62 u63 u64 u65 u66 : Value) (K : Act → World → Prop) (Q0 : Exit → Act → World → Prop) (hs : s < 16) (hD : D ≤ m) (hm : m ≤ 8) (hln : (fl s).length = D) (h32 : ∀ i, i < D → ((fl s).getD i []).length = 32) (hI : (j ≤ D ∧ KS W0 w b H N KK [(some ⟨g, 0, none⟩, fl s)] [] ∧ Fld N m D fl s j))
    (hK : ∀ (v43 v44 v45 v46 v47 v48 v49 v50 v51 v52 v53 v54 v55 v56 v57 v58 v59 v60 v61 v62 v63 v64 v65 : Value) (H2 : BH) (N2 : Bch) (V : World), ((j + 1) ≤ D ∧ KS W0 V b H2 N2 KK [(some ⟨g, 0, none⟩, fl s)] [] ∧ Fld N2 m D fl s (j + 1)) → D - (j + 1) < D - j → K ⟨List.toArray (u0 :: (.int .i64 (m : Int)) :: u2 :: u3 :: u4 :: u5 :: u6 :: (.pointer (some ⟨b, 0, none⟩)) :: u8 :: (.int .i64 (s : Int)) :: (.slice (some ⟨g, 0, none⟩) D D) :: (.bool true) :: (.int .i64 (((j + 1) : Nat) : Int)) :: u13 :: u14 :: u15 :: u16 :: u17 :: u18 :: u19 :: u20 :: u21 :: u22 :: u23 :: u24 :: u25 :: u26 :: u27 :: u28 :: u29 :: u30 :: u31 :: u32 :: u33 :: u34 :: u35 :: u36 :: u37 :: u38 :: u39 :: u40 :: u41 :: u42 :: v43 :: v44 :: v45 :: v46 :: v47 :: v48 :: v49 :: v50 :: v51 :: v52 :: v53 :: v54 :: v55 :: v56 :: v57 :: v58 :: v59 :: v60 :: v61 :: v62 :: v63 :: v64 :: v65 :: u66 :: []), []⟩ V)
    (hX : ∀ (v43 v44 v45 v46 v47 v48 v49 v50 v51 v52 v53 v54 v55 v56 v57 v58 v59 v60 v61 v62 v63 v64 v65 : Value), (j = D) → Q0 (.exit 2) ⟨List.toArray (u0 :: (.int .i64 (m : Int)) :: u2 :: u3 :: u4 :: u5 :: u6 :: (.pointer (some ⟨b, 0, none⟩)) :: u8 :: (.int .i64 (s : Int)) :: (.slice (some ⟨g, 0, none⟩) D D) :: (.bool true) :: (.int .i64 ((j : Nat) : Int)) :: u13 :: u14 :: u15 :: u16 :: u17 :: u18 :: u19 :: u20 :: u21 :: u22 :: u23 :: u24 :: u25 :: u26 :: u27 :: u28 :: u29 :: u30 :: u31 :: u32 :: u33 :: u34 :: u35 :: u36 :: u37 :: u38 :: u39 :: u40 :: u41 :: u42 :: v43 :: v44 :: v45 :: v46 :: v47 :: v48 :: v49 :: v50 :: v51 :: v52 :: v53 :: v54 :: v55 :: v56 :: v57 :: v58 :: v59 :: v60 :: v61 :: v62 :: v63 :: v64 :: v65 :: u66 :: []), []⟩ w) :
    Code.wp Tryz.prog (sub [1, 1, 1, 0, 1, 0, 0, 1, 0, 0, 1, 1, 0, 0] codeFld) (Exit.then K Q0) ⟨List.toArray (u0 :: (.int .i64 (m : Int)) :: u2 :: u3 :: u4 :: u5 :: u6 :: (.pointer (some ⟨b, 0, none⟩)) :: u8 :: (.int .i64 (s : Int)) :: (.slice (some ⟨g, 0, none⟩) D D) :: (.bool true) :: (.int .i64 ((j : Nat) : Int)) :: u13 :: u14 :: u15 :: u16 :: u17 :: u18 :: u19 :: u20 :: u21 :: u22 :: u23 :: u24 :: u25 :: u26 :: u27 :: u28 :: u29 :: u30 :: u31 :: u32 :: u33 :: u34 :: u35 :: u36 :: u37 :: u38 :: u39 :: u40 :: u41 :: u42 :: u43 :: u44 :: u45 :: u46 :: u47 :: u48 :: u49 :: u50 :: u51 :: u52 :: u53 :: u54 :: u55 :: u56 :: u57 :: u58 :: u59 :: u60 :: u61 :: u62 :: u63 :: u64 :: u65 :: u66 :: []), []⟩ w := by
  have HK := Lib.hid hK
  have HX := Lib.hid hX
  clear hK hX
  conv => arg 2; whnf
  obtain ⟨hj, hk, hf⟩ := hI
  have Hk := Lib.hid hk
  have Hf := Lib.hid hf
  by_cases hlt : j < D
  · have i0 : (0 : Int) ≤ (j : Int) := by omega
    have i1 : (j : Int) < (D : Int) := by omega
    have i2 : (j : Int) < (m : Int) := by omega
    have h32j := h32 j hlt
    obtain ⟨b', off, A', c', e, h1, h2⟩ := (hk.rx _ (List.mem_cons_self ..)).at (k := j) (by show j < (fl s).length; omega)
    injection e with e
    injection e with e2 e3 _
    subst e2 e3
    dsimp only at h1 h2
    rw [Nat.zero_add, h32j] at h1
    have Hst := Lib.hid (fld_damage hf (by omega) hs h32j)
    have CD := ks_damage hk (j : Int) (36 + (s : Int)) ((fl s).getD j []) A' 32 c' h32j.symm ⟨by omega, by omega⟩ ⟨by omega, by omega⟩ h2.rdb (fun i hi => by rw [hf.gd.ps i (by rw [hf.gd.n] at hi; exact hi)]; exact Nat.zero_le _)
    rw [show (36 + (s : Int)) = ((36 + s : Nat) : Int) by omega] at CD
    generalize (fl s).getD j [] = x at CD Hst
    obtain ⟨N2, hN2⟩ : ∃ N2, N.damage (j : Int) ((36 + s : Nat) : Int) x = N2 := ⟨_, rfl⟩
    rw [hN2] at CD Hst
    rw [show ((36 + s : Nat) : Int) = 36 + (s : Int) by omega] at CD
    have CD := Lib.hid CD
    clear HX hk hf hN2 h2 h32j h32 hln
    go_wp2_with fail
    (with_reducible refine CD.out.mono ?_); rintro e w1 ⟨rfl, H2, k2⟩
    have K2 := Lib.hid k2
    clear k2
    go_wp2_with fail
    exact HK.out _ _ _ _ _ _ _ _ _ _ _ _ _ _ _ _ _ _ _ _ _ _ _ H2 N2 _ ⟨by omega, K2.out, Hst.out⟩ (by omega)
  · have i1 : ¬ (j : Int) < (D : Int) := by omega
    have Hin := Lib.hid (show j = D by omega)
    clear HK hk hf
    go_wp2_with fail
    exact HX.out _ _ _ _ _ _ _ _ _ _ _ _ _ _ _ _ _ _ _ _ _ _ _ Hin.out
set_option maxRecDepth 100000 in
set_option maxHeartbeats 3200000 in
theorem flI {W0 : World} {m D b g s : Nat} {KK : List (Nat × Obj)} {fl : Nat → List (List UInt8)} {H0 : BH} {N0 : Bch} {w : World} (u0 u2 u3 u4 u5 u6 u8 u13 u14 u15 u16 u17 u18 u19 u20 u21 u22 u23 u24 u25 u26 u27 u28 u29 u30 u31 u32 u33 u34 u35 u36 u37 u38 u39 u40 u41 u42 u43 u44 u45 u46 u47 u48 u49 u50 u51 u52 u53 u54 u55 u56 u57 u58 u59 u60 u61 u62 u63 u64 u65 u66 : Value) (Q : Exit → Act → World → Prop) (hs : s < 16) (hD : D ≤ m) (hm : m ≤ 8) (hln : (fl s).length = D) (h32 : ∀ i, i < D → ((fl s).getD i []).length = 32) (hI : (0 ≤ D ∧ KS W0 w b H0 N0 KK [(some ⟨g, 0, none⟩, fl s)] [] ∧ Fld N0 m D fl s 0))
    (hX : ∀ (v43 v44 v45 v46 v47 v48 v49 v50 v51 v52 v53 v54 v55 v56 v57 v58 v59 v60 v61 v62 v63 v64 v65 : Value) (j : Nat) (H : BH) (N : Bch) (V : World), (j ≤ D ∧ KS W0 V b H N KK [(some ⟨g, 0, none⟩, fl s)] [] ∧ Fld N m D fl s j) → (j = D) → Q (.exit 2) ⟨List.toArray (u0 :: (.int .i64 (m : Int)) :: u2 :: u3 :: u4 :: u5 :: u6 :: (.pointer (some ⟨b, 0, none⟩)) :: u8 :: (.int .i64 (s : Int)) :: (.slice (some ⟨g, 0, none⟩) D D) :: (.bool true) :: (.int .i64 ((j : Nat) : Int)) :: u13 :: u14 :: u15 :: u16 :: u17 :: u18 :: u19 :: u20 :: u21 :: u22 :: u23 :: u24 :: u25 :: u26 :: u27 :: u28 :: u29 :: u30 :: u31 :: u32 :: u33 :: u34 :: u35 :: u36 :: u37 :: u38 :: u39 :: u40 :: u41 :: u42 :: v43 :: v44 :: v45 :: v46 :: v47 :: v48 :: v49 :: v50 :: v51 :: v52 :: v53 :: v54 :: v55 :: v56 :: v57 :: v58 :: v59 :: v60 :: v61 :: v62 :: v63 :: v64 :: v65 :: u66 :: []), []⟩ V) :
    Code.wp Tryz.prog (.loop (sub [1, 1, 1, 0, 1, 0, 0, 1, 0, 0, 1, 1, 0, 0] codeFld)) Q ⟨List.toArray (u0 :: (.int .i64 (m : Int)) :: u2 :: u3 :: u4 :: u5 :: u6 :: (.pointer (some ⟨b, 0, none⟩)) :: u8 :: (.int .i64 (s : Int)) :: (.slice (some ⟨g, 0, none⟩) D D) :: (.bool true) :: (.int .i64 ((0 : Nat) : Int)) :: u13 :: u14 :: u15 :: u16 :: u17 :: u18 :: u19 :: u20 :: u21 :: u22 :: u23 :: u24 :: u25 :: u26 :: u27 :: u28 :: u29 :: u30 :: u31 :: u32 :: u33 :: u34 :: u35 :: u36 :: u37 :: u38 :: u39 :: u40 :: u41 :: u42 :: u43 :: u44 :: u45 :: u46 :: u47 :: u48 :: u49 :: u50 :: u51 :: u52 :: u53 :: u54 :: u55 :: u56 :: u57 :: u58 :: u59 :: u60 :: u61 :: u62 :: u63 :: u64 :: u65 :: u66 :: []), []⟩ w := by
  refine wp_loop_ghost (fun gk a V => ∀ C : Prop, (∀ (u43 u44 u45 u46 u47 u48 u49 u50 u51 u52 u53 u54 u55 u56 u57 u58 u59 u60 u61 u62 u63 u64 u65 : Value) (j : Nat) (H : BH) (N : Bch), gk = D - j → (j ≤ D ∧ KS W0 V b H N KK [(some ⟨g, 0, none⟩, fl s)] [] ∧ Fld N m D fl s j) → a = ⟨List.toArray (u0 :: (.int .i64 (m : Int)) :: u2 :: u3 :: u4 :: u5 :: u6 :: (.pointer (some ⟨b, 0, none⟩)) :: u8 :: (.int .i64 (s : Int)) :: (.slice (some ⟨g, 0, none⟩) D D) :: (.bool true) :: (.int .i64 ((j : Nat) : Int)) :: u13 :: u14 :: u15 :: u16 :: u17 :: u18 :: u19 :: u20 :: u21 :: u22 :: u23 :: u24 :: u25 :: u26 :: u27 :: u28 :: u29 :: u30 :: u31 :: u32 :: u33 :: u34 :: u35 :: u36 :: u37 :: u38 :: u39 :: u40 :: u41 :: u42 :: u43 :: u44 :: u45 :: u46 :: u47 :: u48 :: u49 :: u50 :: u51 :: u52 :: u53 :: u54 :: u55 :: u56 :: u57 :: u58 :: u59 :: u60 :: u61 :: u62 :: u63 :: u64 :: u65 :: u66 :: []), []⟩ → C) → C) (D - 0) ?_ ?_
  · intro C hC
    exact hC _ _ _ _ _ _ _ _ _ _ _ _ _ _ _ _ _ _ _ _ _ _ _ (0) (H0) (N0) rfl hI rfl
  · intro gk a V hI'
    refine hI' _ ?_
    intro u43 u44 u45 u46 u47 u48 u49 u50 u51 u52 u53 u54 u55 u56 u57 u58 u59 u60 u61 u62 u63 u64 u65 j H N hk hinv ha
    subst ha
    subst hk
    refine flIb _ _ _ _ _ _ _ _ _ _ _ _ _ _ _ _ _ _ _ _ _ _ _ _ _ _ _ _ _ _ _ _ _ _ _ _ _ _ _ _ _ _ _ _ _ _ _ _ _ _ _ _ _ _ _ _ _ _ _ _ _ _ _ hs hD hm hln h32 hinv (fun v43 v44 v45 v46 v47 v48 v49 v50 v51 v52 v53 v54 v55 v56 v57 v58 v59 v60 v61 v62 v63 v64 v65 H2 N2 V2 h2 hm => ?_) (fun v43 v44 v45 v46 v47 v48 v49 v50 v51 v52 v53 v54 v55 v56 v57 v58 v59 v60 v61 v62 v63 v64 v65 hx => hX v43 v44 v45 v46 v47 v48 v49 v50 v51 v52 v53 v54 v55 v56 v57 v58 v59 v60 v61 v62 v63 v64 v65 j H N V hinv hx)
    refine ⟨_, hm, fun C hC => ?_⟩
    exact hC v43 v44 v45 v46 v47 v48 v49 v50 v51 v52 v53 v54 v55 v56 v57 v58 v59 v60 v61 v62 v63 v64 v65 ((j + 1)) (H2) (N2) rfl h2 rfl
set_option maxRecDepth 100000 in
set_option maxHeartbeats 3200000 in
theorem flOb {W0 : World} {n l c r : Int} {D F W m b gb cp : Nat} {A : Option Addr} {zs : List Int} {s : Nat} {H : BH} {N : Bch} {w : World} (u4 u5 u6 u8 u10 u11 u12 u13 u14 u15 u16 u17 u18 u19 u20 u21 u22 u23 u24 u25 u26 u27 u28 u29 u30 u31 u32 u33 u34 u35 u36 u37 u38 u39 u40 u41 u42 u43 u44 u45 u46 u47 u48 u49 u50 u51 u52 u53 u54 u55 u56 u57 u58 u59 u60 u61 u62 u63 u64 u65 u66 : Value) (K : Act → World → Prop) (Q0 : Exit → Act → World → Prop) (gr : Gr n l c r D F W) (hD : D ≤ m) (hm : m ≤ 8) (hz : RdZ W0 W0.heap.size A zs) (hcp : zs.length ≤ cp) (hI : (s ≤ 16 ∧ KS W0 w b H N [(gb, Obj.cells #[.int .i64 l, .int .i64 (D : Int), .int .i64 c] 24 (0, 0))] [] [] ∧ Fld N m D (rowL l c D W zs) s 0))
    (hK : ∀ (v10 v11 v12 v24 v25 v26 v27 v28 v29 v30 v31 v32 v33 v34 v35 v36 v37 v38 v39 v40 v41 v42 v43 v44 v45 v46 v47 v48 v49 v50 v51 v52 v53 v54 v55 v56 v57 v58 v59 v60 v61 v62 v63 v64 v65 : Value) (H2 : BH) (N2 : Bch) (V : World), ((s + 1) ≤ 16 ∧ KS W0 V b H2 N2 [(gb, Obj.cells #[.int .i64 l, .int .i64 (D : Int), .int .i64 c] 24 (0, 0))] [] [] ∧ Fld N2 m D (rowL l c D W zs) (s + 1) 0) → 16 - (s + 1) < 16 - s → K ⟨List.toArray ((.agg #[.int .i64 l, .int .i64 (D : Int), .int .i64 c]) :: (.int .i64 (m : Int)) :: (.slice A zs.length cp) :: (.pointer (some ⟨gb, 0, none⟩)) :: u4 :: u5 :: u6 :: (.pointer (some ⟨b, 0, none⟩)) :: u8 :: (.int .i64 (((s + 1) : Nat) : Int)) :: v10 :: v11 :: v12 :: u13 :: u14 :: u15 :: u16 :: u17 :: u18 :: u19 :: u20 :: u21 :: u22 :: u23 :: v24 :: v25 :: v26 :: v27 :: v28 :: v29 :: v30 :: v31 :: v32 :: v33 :: v34 :: v35 :: v36 :: v37 :: v38 :: v39 :: v40 :: v41 :: v42 :: v43 :: v44 :: v45 :: v46 :: v47 :: v48 :: v49 :: v50 :: v51 :: v52 :: v53 :: v54 :: v55 :: v56 :: v57 :: v58 :: v59 :: v60 :: v61 :: v62 :: v63 :: v64 :: v65 :: u66 :: []), []⟩ V)
    (hX : ∀ (v10 v11 v12 v24 v25 v26 v27 v28 v29 v30 v31 v32 v33 v34 v35 v36 v37 v38 v39 v40 v41 v42 v43 v44 v45 v46 v47 v48 v49 v50 v51 v52 v53 v54 v55 v56 v57 v58 v59 v60 v61 v62 v63 v64 v65 : Value), (s = 16) → Q0 (.exit 0) ⟨List.toArray ((.agg #[.int .i64 l, .int .i64 (D : Int), .int .i64 c]) :: (.int .i64 (m : Int)) :: (.slice A zs.length cp) :: (.pointer (some ⟨gb, 0, none⟩)) :: u4 :: u5 :: u6 :: (.pointer (some ⟨b, 0, none⟩)) :: u8 :: (.int .i64 ((s : Nat) : Int)) :: v10 :: v11 :: v12 :: u13 :: u14 :: u15 :: u16 :: u17 :: u18 :: u19 :: u20 :: u21 :: u22 :: u23 :: v24 :: v25 :: v26 :: v27 :: v28 :: v29 :: v30 :: v31 :: v32 :: v33 :: v34 :: v35 :: v36 :: v37 :: v38 :: v39 :: v40 :: v41 :: v42 :: v43 :: v44 :: v45 :: v46 :: v47 :: v48 :: v49 :: v50 :: v51 :: v52 :: v53 :: v54 :: v55 :: v56 :: v57 :: v58 :: v59 :: v60 :: v61 :: v62 :: v63 :: v64 :: v65 :: u66 :: []), []⟩ w) :
    Code.wp Tryz.prog (sub [1, 1, 1, 0, 1, 0, 0] codeFld) (Exit.then K Q0) ⟨List.toArray ((.agg #[.int .i64 l, .int .i64 (D : Int), .int .i64 c]) :: (.int .i64 (m : Int)) :: (.slice A zs.length cp) :: (.pointer (some ⟨gb, 0, none⟩)) :: u4 :: u5 :: u6 :: (.pointer (some ⟨b, 0, none⟩)) :: u8 :: (.int .i64 ((s : Nat) : Int)) :: u10 :: u11 :: u12 :: u13 :: u14 :: u15 :: u16 :: u17 :: u18 :: u19 :: u20 :: u21 :: u22 :: u23 :: u24 :: u25 :: u26 :: u27 :: u28 :: u29 :: u30 :: u31 :: u32 :: u33 :: u34 :: u35 :: u36 :: u37 :: u38 :: u39 :: u40 :: u41 :: u42 :: u43 :: u44 :: u45 :: u46 :: u47 :: u48 :: u49 :: u50 :: u51 :: u52 :: u53 :: u54 :: u55 :: u56 :: u57 :: u58 :: u59 :: u60 :: u61 :: u62 :: u63 :: u64 :: u65 :: u66 :: []), []⟩ w := by
  have HK := Lib.hid hK
  have HX := Lib.hid hX
  clear hK hX
  conv => arg 2; whnf
  obtain ⟨hs, hk, hf⟩ := hI
  have Hk := Lib.hid hk
  have Hf := Lib.hid hf
  by_cases hlt : s < 16
  · have hs16 := hlt
    have i0 : (0 : Int) ≤ (s : Int) := by omega
    have i1 : (s : Int) < 16 := by omega
    have grs := gr.at hlt
    have hw7 := gr.w7
    have hd8 := gr.d8
    have HR := Lib.hid (fun V => refWidth_any l (D : Int) c V gr.l64 gr.d64 gr.c64)
    rw [gr.wd] at HR
    obtain ⟨k, hkk⟩ : ∃ k, min s zs.length = k := ⟨_, rfl⟩
    have hkl : k ≤ zs.length := by omega
    have hzl := hz.1
    have hmin : (if zs.length < s then (zs.length : Int) else (s : Int)) = (k : Int) := by split <;> omega
    have Hdt : Hid (datL zs s W = sectorsB (zs.drop k) W) := Lib.hid (by unfold datL; rw [hkk])
    have hbw : Below W0.heap.size W0 w := hk.bp.bel
    have CS := Lib.hid (fun V (hb : Below w.heap.size w V) => show Calls Tryz.prog 40 #[.slice (if cp = k then A else A.map (·.add k)) (zs.length - k) (cp - k), .int .i64 (W : Int)] V fun e w' => ∃ A' c', e = .returned (.slice A' W c') ∧ RdR w' w'.heap.size A' (datL zs s W) ∧ Below V.heap.size V w' from by
      rw [Hdt.out]
      have hb0 := hbw.trans (hb.mono hbw.size)
      refine (sectors_rd (A := if cp = k then A else A.map (·.add k)) (cp := cp - k) (show zs.length - k = (zs.drop k).length by simp) (((hz.below hb0 (Nat.le_refl _)).keep hb0.size (fun _ _ => rfl)).drop k cp hcp) (by omega)).mono ?_
      rintro e w' ⟨A', c', h1, _, h3, h4⟩
      exact ⟨A', c', h1, h3, h4⟩)
    have CF := Lib.hid (fun (A2 : Option Addr) (c2 : Nat) V (hrd : RdR V V.heap.size A2 (datL zs s W)) => refFill_good (cp := c2) hrd (datL_len zs s W) (grs.fok (datL_len zs s W) datL_mem) grs.eD rfl gr.l64 gr.d64 gr.c64 grs.r64)
    have H32 := Lib.hid (fun i (hi : i < D) => rowL_32 gr (zs := zs) hlt hi)
    obtain ⟨g1, g2, g3⟩ := hk.gat (List.mem_cons_self ..)
    have Hgb := Lib.hid (Array.getElem?_eq_some_iff.1 (hk.kx.kp _ (List.mem_cons_self ..)).1).1
    have k0 : (0 : Int) ≤ (k : Int) := by omega
    have k1 : (k : Int) ≤ (zs.length : Int) := by omega
    have k2 : (k : Int) ≤ (cp : Int) := by omega
    have hcap : (zs.length : Int) ≤ (cp : Int) := by omega
    clear HX hk hf hkk hbw hz gr grs
    by_cases hck : cp = k
    · rw [if_pos hck] at CS
      subst hck
      rw [show zs.length - cp = 0 by omega, Nat.sub_self] at CS
      go_wp2_with fail
      refine wp_region_noPanic (region_ord 17 [] (fun V => Below w.heap.size w V) (by kernel_rfl) (by kernel_rfl) (fun _ _ _ _ _ h => h) fun R => ?_)
      change anyI _ _ _ _ _ _ 17 _ _ w.drew
      have HS0 := Lib.hid (show (fun V => Below w.heap.size w V) w.drew from (Below.refl _ _).drew)
      refine' anyI_take R 0 rfl (v := ?_) (by kernel_rfl) (by rfl) (fun V hV => ?hy) HS0.out ?_
      case hy => ((try dsimp only at hV);  have y0 := (hV.cell (p := ⟨gb, 0, none⟩) Hgb.out).trans g1; have y1 := (hV.cell (p := ⟨gb, 1, none⟩) Hgb.out).trans g2; have y2 := (hV.cell (p := ⟨gb, 2, none⟩) Hgb.out).trans g3; go_simp; try with_reducible rfl)
      try simp only [Act.put, List.getElem_toArray, List.getElem_cons_succ, List.getElem_cons_zero, List.setIfInBounds_toArray, List.set_cons_zero, List.set_cons_succ]
      refine' anyI_take R 1 rfl (v := ?_) (by kernel_rfl) (by rfl) (fun V hV => ?hy) HS0.out ?_
      case hy => ((try dsimp only at hV);  have y0 := (hV.cell (p := ⟨gb, 0, none⟩) Hgb.out).trans g1; have y1 := (hV.cell (p := ⟨gb, 1, none⟩) Hgb.out).trans g2; have y2 := (hV.cell (p := ⟨gb, 2, none⟩) Hgb.out).trans g3; go_simp; try with_reducible rfl)
      try simp only [Act.put, List.getElem_toArray, List.getElem_cons_succ, List.getElem_cons_zero, List.setIfInBounds_toArray, List.set_cons_zero, List.set_cons_succ]
      refine' anyI_take R 2 rfl (v := ?_) (by kernel_rfl) (by rfl) (fun V hV => ?hy) HS0.out ?_
      case hy => ((try dsimp only at hV);  have y0 := (hV.cell (p := ⟨gb, 0, none⟩) Hgb.out).trans g1; have y1 := (hV.cell (p := ⟨gb, 1, none⟩) Hgb.out).trans g2; have y2 := (hV.cell (p := ⟨gb, 2, none⟩) Hgb.out).trans g3; go_simp; try with_reducible rfl)
      try simp only [Act.put, List.getElem_toArray, List.getElem_cons_succ, List.getElem_cons_zero, List.setIfInBounds_toArray, List.set_cons_zero, List.set_cons_succ]
      refine' anyI_take R 3 rfl (v := ?_) (by kernel_rfl) (by rfl) (fun V hV => ?hy) HS0.out ?_
      case hy => ((try dsimp only at hV);  have y0 := (hV.cell (p := ⟨gb, 0, none⟩) Hgb.out).trans g1; have y1 := (hV.cell (p := ⟨gb, 1, none⟩) Hgb.out).trans g2; have y2 := (hV.cell (p := ⟨gb, 2, none⟩) Hgb.out).trans g3; go_simp; try with_reducible rfl)
      try simp only [Act.put, List.getElem_toArray, List.getElem_cons_succ, List.getElem_cons_zero, List.setIfInBounds_toArray, List.set_cons_zero, List.set_cons_succ]
      refine' anyI_take R 4 rfl (v := ?_) (by kernel_rfl) (by rfl) (fun V hV => ?hy) HS0.out ?_
      case hy => ((try dsimp only at hV);  have y0 := (hV.cell (p := ⟨gb, 0, none⟩) Hgb.out).trans g1; have y1 := (hV.cell (p := ⟨gb, 1, none⟩) Hgb.out).trans g2; have y2 := (hV.cell (p := ⟨gb, 2, none⟩) Hgb.out).trans g3; go_simp; try with_reducible rfl)
      try simp only [Act.put, List.getElem_toArray, List.getElem_cons_succ, List.getElem_cons_zero, List.setIfInBounds_toArray, List.set_cons_zero, List.set_cons_succ]
      refine' anyI_take R 5 rfl (v := ?_) (by kernel_rfl) (by rfl) (fun V hV => ?hy) HS0.out ?_
      case hy => ((try dsimp only at hV);  have y0 := (hV.cell (p := ⟨gb, 0, none⟩) Hgb.out).trans g1; have y1 := (hV.cell (p := ⟨gb, 1, none⟩) Hgb.out).trans g2; have y2 := (hV.cell (p := ⟨gb, 2, none⟩) Hgb.out).trans g3; go_simp; try with_reducible rfl)
      try simp only [Act.put, List.getElem_toArray, List.getElem_cons_succ, List.getElem_cons_zero, List.setIfInBounds_toArray, List.set_cons_zero, List.set_cons_succ]
      refine' anyI_take R 6 rfl (v := ?_) (by kernel_rfl) (by rfl) (fun V hV => ?hy) HS0.out ?_
      case hy => ((try dsimp only at hV);  have y0 := (hV.cell (p := ⟨gb, 0, none⟩) Hgb.out).trans g1; have y1 := (hV.cell (p := ⟨gb, 1, none⟩) Hgb.out).trans g2; have y2 := (hV.cell (p := ⟨gb, 2, none⟩) Hgb.out).trans g3; go_simp; try with_reducible rfl)
      try simp only [Act.put, List.getElem_toArray, List.getElem_cons_succ, List.getElem_cons_zero, List.setIfInBounds_toArray, List.set_cons_zero, List.set_cons_succ]
      refine' anyI_take R 7 rfl (v := ?_) (by kernel_rfl) (by rfl) (fun V hV => ?hy) HS0.out ?_
      case hy => ((try dsimp only at hV);  have y0 := (hV.cell (p := ⟨gb, 0, none⟩) Hgb.out).trans g1; have y1 := (hV.cell (p := ⟨gb, 1, none⟩) Hgb.out).trans g2; have y2 := (hV.cell (p := ⟨gb, 2, none⟩) Hgb.out).trans g3; go_simp; try with_reducible rfl)
      try simp only [Act.put, List.getElem_toArray, List.getElem_cons_succ, List.getElem_cons_zero, List.setIfInBounds_toArray, List.set_cons_zero, List.set_cons_succ]
      refine' anyI_take R 8 rfl (v := ?_) (by kernel_rfl) (by rfl) (fun V hV => ?hy) HS0.out ?_
      case hy => ((try dsimp only at hV);  have y0 := (hV.cell (p := ⟨gb, 0, none⟩) Hgb.out).trans g1; have y1 := (hV.cell (p := ⟨gb, 1, none⟩) Hgb.out).trans g2; have y2 := (hV.cell (p := ⟨gb, 2, none⟩) Hgb.out).trans g3; go_simp; try with_reducible rfl)
      try simp only [Act.put, List.getElem_toArray, List.getElem_cons_succ, List.getElem_cons_zero, List.setIfInBounds_toArray, List.set_cons_zero, List.set_cons_succ]
      refine anyI_one 9 (by kernel_rfl) rfl ?_
      try simp only [List.getElem_toArray, List.getElem_cons_succ, List.getElem_cons_zero]
      refine opE_step ?_
      rw [if_pos (by rfl)]
      go_simp
      go_at_call 41
      (with_reducible refine (HR.out _).mono ?_)
      rintro e w9 ⟨rfl, hb9⟩
      replace HS0 := Lib.hid (show Below w.heap.size w w9 from HS0.out.trans (hb9.mono HS0.out.size))
      clear hb9
      try dsimp only
      refine ⟨HS0.out, ?_⟩
      try simp only [Act.put, List.getElem_toArray, List.getElem_cons_succ, List.getElem_cons_zero, List.setIfInBounds_toArray, List.set_cons_zero, List.set_cons_succ]
      refine anyI_one 10 (by kernel_rfl) rfl ?_
      try simp only [List.getElem_toArray, List.getElem_cons_succ, List.getElem_cons_zero]
      refine opE_step ?_
      rw [if_pos (by rfl)]
      go_simp
      go_at_call 40
      (with_reducible refine (CS.out _ HS0.out).mono ?_)
      rintro e w10 ⟨A2, c2, rfl, hrd, hb10⟩
      have CF1 := Lib.hid (CF.out A2 c2 _ hrd)
      replace HS0 := Lib.hid (show Below w.heap.size w w10 from HS0.out.trans (hb10.mono HS0.out.size))
      clear hb10 hrd
      try dsimp only
      refine ⟨HS0.out, ?_⟩
      try simp only [Act.put, List.getElem_toArray, List.getElem_cons_succ, List.getElem_cons_zero, List.setIfInBounds_toArray, List.set_cons_zero, List.set_cons_succ]
      refine anyI_one 11 (by kernel_rfl) rfl ?_
      try simp only [List.getElem_toArray, List.getElem_cons_succ, List.getElem_cons_zero]
      refine opE_step ?_
      rw [if_pos (by rfl)]
      go_simp
      go_at_call 39
      have hsz := HS0.out.size
      (with_reducible refine CF1.out.mono ?_)
      rintro e w11 ⟨g, xs, rfl, hq, hb11⟩
      replace HS0 := Lib.hid (show Below w.heap.size w w11 from HS0.out.trans (hb11.mono HS0.out.size))
      have Hrf := Lib.hid (show RdF w.heap.size w11 (some ⟨g, 0, none⟩) (rowL l c D W zs s) from (hq.le hsz).rdf (by omega))
      clear hb11 hq
      try dsimp only
      refine ⟨HS0.out, ?_⟩
      try simp only [Act.put, List.getElem_toArray, List.getElem_cons_succ, List.getElem_cons_zero, List.setIfInBounds_toArray, List.set_cons_zero, List.set_cons_succ]
      refine' anyI_take R 12 rfl (v := ?_) (by kernel_rfl) (by rfl) (fun V hV => ?hy) HS0.out ?_
      case hy => ((try dsimp only at hV);  have y0 := (hV.cell (p := ⟨gb, 0, none⟩) Hgb.out).trans g1; have y1 := (hV.cell (p := ⟨gb, 1, none⟩) Hgb.out).trans g2; have y2 := (hV.cell (p := ⟨gb, 2, none⟩) Hgb.out).trans g3; go_simp; try with_reducible rfl)
      try simp only [Act.put, List.getElem_toArray, List.getElem_cons_succ, List.getElem_cons_zero, List.setIfInBounds_toArray, List.set_cons_zero, List.set_cons_succ]
      refine' anyI_take R 13 rfl (v := ?_) (by kernel_rfl) (by rfl) (fun V hV => ?hy) HS0.out ?_
      case hy => ((try dsimp only at hV);  have y0 := (hV.cell (p := ⟨gb, 0, none⟩) Hgb.out).trans g1; have y1 := (hV.cell (p := ⟨gb, 1, none⟩) Hgb.out).trans g2; have y2 := (hV.cell (p := ⟨gb, 2, none⟩) Hgb.out).trans g3; go_simp; try with_reducible rfl)
      try simp only [Act.put, List.getElem_toArray, List.getElem_cons_succ, List.getElem_cons_zero, List.setIfInBounds_toArray, List.set_cons_zero, List.set_cons_succ]
      refine' anyI_take R 14 rfl (v := ?_) (by kernel_rfl) (by rfl) (fun V hV => ?hy) HS0.out ?_
      case hy => ((try dsimp only at hV);  have y0 := (hV.cell (p := ⟨gb, 0, none⟩) Hgb.out).trans g1; have y1 := (hV.cell (p := ⟨gb, 1, none⟩) Hgb.out).trans g2; have y2 := (hV.cell (p := ⟨gb, 2, none⟩) Hgb.out).trans g3; go_simp; try with_reducible rfl)
      try simp only [Act.put, List.getElem_toArray, List.getElem_cons_succ, List.getElem_cons_zero, List.setIfInBounds_toArray, List.set_cons_zero, List.set_cons_succ]
      refine' anyI_take R 15 rfl (v := ?_) (by kernel_rfl) (by rfl) (fun V hV => ?hy) HS0.out ?_
      case hy => ((try dsimp only at hV);  have y0 := (hV.cell (p := ⟨gb, 0, none⟩) Hgb.out).trans g1; have y1 := (hV.cell (p := ⟨gb, 1, none⟩) Hgb.out).trans g2; have y2 := (hV.cell (p := ⟨gb, 2, none⟩) Hgb.out).trans g3; go_simp; try with_reducible rfl)
      try simp only [Act.put, List.getElem_toArray, List.getElem_cons_succ, List.getElem_cons_zero, List.setIfInBounds_toArray, List.set_cons_zero, List.set_cons_succ]
      refine' anyI_take R 16 rfl (v := ?_) (by kernel_rfl) (by rfl) (fun V hV => ?hy) HS0.out ?_
      case hy => ((try dsimp only at hV);  have y0 := (hV.cell (p := ⟨gb, 0, none⟩) Hgb.out).trans g1; have y1 := (hV.cell (p := ⟨gb, 1, none⟩) Hgb.out).trans g2; have y2 := (hV.cell (p := ⟨gb, 2, none⟩) Hgb.out).trans g3; go_simp; try with_reducible rfl)
      try simp only [Act.put, List.getElem_toArray, List.getElem_cons_succ, List.getElem_cons_zero, List.setIfInBounds_toArray, List.set_cons_zero, List.set_cons_succ]
      refine anyI_tail (by kernel_rfl) ?_
      try simp only [List.drop_succ_cons, List.drop_zero]
      clear R
      go_wp2_with fail
      refine NoPanic.normal ?_
      have F2 := HS0.out
      have Hks := Lib.hid (Hk.out.rows F2 Hrf.out)
      clear F2
      go_upto_block 2 with fail
      refine wp_block ?_
      refine flI _ _ _ _ _ _ _ _ _ _ _ _ _ _ _ _ _ _ _ _ _ _ _ _ _ _ _ _ _ _ _ _ _ _ _ _ _ _ _ _ _ _ _ _ _ _ _ _ _ _ _ _ _ _ _ _ _ _ _ _ _ _ hs16 hD hm (rowL_len _ _ _ _ _ _) H32.out ⟨Nat.zero_le _, Hks.out, Hf.out⟩ (fun v43 v44 v45 v46 v47 v48 v49 v50 v51 v52 v53 v54 v55 v56 v57 v58 v59 v60 v61 v62 v63 v64 v65 j H3 N3 V3 hI3 hx3 => ?_)
      subst hx3
      have K3 := Lib.hid (hI3.2.1.less (R' := []) (S' := []) (fun _ h => h) (fun _ h => absurd h (by simp)) (fun _ h => h))
      have F3 := Lib.hid (fld_next hI3.2.2)
      clear hI3
      go_wp2_with fail
      exact HK.out _ _ _ _ _ _ _ _ _ _ _ _ _ _ _ _ _ _ _ _ _ _ _ _ _ _ _ _ _ _ _ _ _ _ _ _ _ _ _ _ _ _ _ _ _ H3 N3 _ ⟨by omega, K3.out, F3.out⟩ (by omega)
    · rw [if_neg hck] at CS
      go_wp2_with fail
      refine wp_region_noPanic (region_ord 17 [] (fun V => Below w.heap.size w V) (by kernel_rfl) (by kernel_rfl) (fun _ _ _ _ _ h => h) fun R => ?_)
      change anyI _ _ _ _ _ _ 17 _ _ w.drew
      have HS0 := Lib.hid (show (fun V => Below w.heap.size w V) w.drew from (Below.refl _ _).drew)
      refine' anyI_take R 0 rfl (v := ?_) (by kernel_rfl) (by rfl) (fun V hV => ?hy) HS0.out ?_
      case hy => ((try dsimp only at hV);  have y0 := (hV.cell (p := ⟨gb, 0, none⟩) Hgb.out).trans g1; have y1 := (hV.cell (p := ⟨gb, 1, none⟩) Hgb.out).trans g2; have y2 := (hV.cell (p := ⟨gb, 2, none⟩) Hgb.out).trans g3; go_simp; try with_reducible rfl)
      try simp only [Act.put, List.getElem_toArray, List.getElem_cons_succ, List.getElem_cons_zero, List.setIfInBounds_toArray, List.set_cons_zero, List.set_cons_succ]
      refine' anyI_take R 1 rfl (v := ?_) (by kernel_rfl) (by rfl) (fun V hV => ?hy) HS0.out ?_
      case hy => ((try dsimp only at hV);  have y0 := (hV.cell (p := ⟨gb, 0, none⟩) Hgb.out).trans g1; have y1 := (hV.cell (p := ⟨gb, 1, none⟩) Hgb.out).trans g2; have y2 := (hV.cell (p := ⟨gb, 2, none⟩) Hgb.out).trans g3; go_simp; try with_reducible rfl)
      try simp only [Act.put, List.getElem_toArray, List.getElem_cons_succ, List.getElem_cons_zero, List.setIfInBounds_toArray, List.set_cons_zero, List.set_cons_succ]
      refine' anyI_take R 2 rfl (v := ?_) (by kernel_rfl) (by rfl) (fun V hV => ?hy) HS0.out ?_
      case hy => ((try dsimp only at hV);  have y0 := (hV.cell (p := ⟨gb, 0, none⟩) Hgb.out).trans g1; have y1 := (hV.cell (p := ⟨gb, 1, none⟩) Hgb.out).trans g2; have y2 := (hV.cell (p := ⟨gb, 2, none⟩) Hgb.out).trans g3; go_simp; try with_reducible rfl)
      try simp only [Act.put, List.getElem_toArray, List.getElem_cons_succ, List.getElem_cons_zero, List.setIfInBounds_toArray, List.set_cons_zero, List.set_cons_succ]
      refine' anyI_take R 3 rfl (v := ?_) (by kernel_rfl) (by rfl) (fun V hV => ?hy) HS0.out ?_
      case hy => ((try dsimp only at hV);  have y0 := (hV.cell (p := ⟨gb, 0, none⟩) Hgb.out).trans g1; have y1 := (hV.cell (p := ⟨gb, 1, none⟩) Hgb.out).trans g2; have y2 := (hV.cell (p := ⟨gb, 2, none⟩) Hgb.out).trans g3; go_simp; try with_reducible rfl)
      try simp only [Act.put, List.getElem_toArray, List.getElem_cons_succ, List.getElem_cons_zero, List.setIfInBounds_toArray, List.set_cons_zero, List.set_cons_succ]
      refine' anyI_take R 4 rfl (v := ?_) (by kernel_rfl) (by rfl) (fun V hV => ?hy) HS0.out ?_
      case hy => ((try dsimp only at hV);  have y0 := (hV.cell (p := ⟨gb, 0, none⟩) Hgb.out).trans g1; have y1 := (hV.cell (p := ⟨gb, 1, none⟩) Hgb.out).trans g2; have y2 := (hV.cell (p := ⟨gb, 2, none⟩) Hgb.out).trans g3; go_simp; try with_reducible rfl)
      try simp only [Act.put, List.getElem_toArray, List.getElem_cons_succ, List.getElem_cons_zero, List.setIfInBounds_toArray, List.set_cons_zero, List.set_cons_succ]
      refine' anyI_take R 5 rfl (v := ?_) (by kernel_rfl) (by rfl) (fun V hV => ?hy) HS0.out ?_
      case hy => ((try dsimp only at hV);  have y0 := (hV.cell (p := ⟨gb, 0, none⟩) Hgb.out).trans g1; have y1 := (hV.cell (p := ⟨gb, 1, none⟩) Hgb.out).trans g2; have y2 := (hV.cell (p := ⟨gb, 2, none⟩) Hgb.out).trans g3; go_simp; try with_reducible rfl)
      try simp only [Act.put, List.getElem_toArray, List.getElem_cons_succ, List.getElem_cons_zero, List.setIfInBounds_toArray, List.set_cons_zero, List.set_cons_succ]
      refine' anyI_take R 6 rfl (v := ?_) (by kernel_rfl) (by rfl) (fun V hV => ?hy) HS0.out ?_
      case hy => ((try dsimp only at hV);  have y0 := (hV.cell (p := ⟨gb, 0, none⟩) Hgb.out).trans g1; have y1 := (hV.cell (p := ⟨gb, 1, none⟩) Hgb.out).trans g2; have y2 := (hV.cell (p := ⟨gb, 2, none⟩) Hgb.out).trans g3; go_simp; try with_reducible rfl)
      try simp only [Act.put, List.getElem_toArray, List.getElem_cons_succ, List.getElem_cons_zero, List.setIfInBounds_toArray, List.set_cons_zero, List.set_cons_succ]
      refine' anyI_take R 7 rfl (v := ?_) (by kernel_rfl) (by rfl) (fun V hV => ?hy) HS0.out ?_
      case hy => ((try dsimp only at hV);  have y0 := (hV.cell (p := ⟨gb, 0, none⟩) Hgb.out).trans g1; have y1 := (hV.cell (p := ⟨gb, 1, none⟩) Hgb.out).trans g2; have y2 := (hV.cell (p := ⟨gb, 2, none⟩) Hgb.out).trans g3; go_simp; try with_reducible rfl)
      try simp only [Act.put, List.getElem_toArray, List.getElem_cons_succ, List.getElem_cons_zero, List.setIfInBounds_toArray, List.set_cons_zero, List.set_cons_succ]
      refine' anyI_take R 8 rfl (v := ?_) (by kernel_rfl) (by rfl) (fun V hV => ?hy) HS0.out ?_
      case hy => ((try dsimp only at hV);  have y0 := (hV.cell (p := ⟨gb, 0, none⟩) Hgb.out).trans g1; have y1 := (hV.cell (p := ⟨gb, 1, none⟩) Hgb.out).trans g2; have y2 := (hV.cell (p := ⟨gb, 2, none⟩) Hgb.out).trans g3; go_simp; try with_reducible rfl)
      try simp only [Act.put, List.getElem_toArray, List.getElem_cons_succ, List.getElem_cons_zero, List.setIfInBounds_toArray, List.set_cons_zero, List.set_cons_succ]
      refine anyI_one 9 (by kernel_rfl) rfl ?_
      try simp only [List.getElem_toArray, List.getElem_cons_succ, List.getElem_cons_zero]
      refine opE_step ?_
      rw [if_pos (by rfl)]
      go_simp
      go_at_call 41
      (with_reducible refine (HR.out _).mono ?_)
      rintro e w9 ⟨rfl, hb9⟩
      replace HS0 := Lib.hid (show Below w.heap.size w w9 from HS0.out.trans (hb9.mono HS0.out.size))
      clear hb9
      try dsimp only
      refine ⟨HS0.out, ?_⟩
      try simp only [Act.put, List.getElem_toArray, List.getElem_cons_succ, List.getElem_cons_zero, List.setIfInBounds_toArray, List.set_cons_zero, List.set_cons_succ]
      refine anyI_one 10 (by kernel_rfl) rfl ?_
      try simp only [List.getElem_toArray, List.getElem_cons_succ, List.getElem_cons_zero]
      refine opE_step ?_
      rw [if_pos (by rfl)]
      go_simp
      go_at_call 40
      (with_reducible refine (CS.out _ HS0.out).mono ?_)
      rintro e w10 ⟨A2, c2, rfl, hrd, hb10⟩
      have CF1 := Lib.hid (CF.out A2 c2 _ hrd)
      replace HS0 := Lib.hid (show Below w.heap.size w w10 from HS0.out.trans (hb10.mono HS0.out.size))
      clear hb10 hrd
      try dsimp only
      refine ⟨HS0.out, ?_⟩
      try simp only [Act.put, List.getElem_toArray, List.getElem_cons_succ, List.getElem_cons_zero, List.setIfInBounds_toArray, List.set_cons_zero, List.set_cons_succ]
      refine anyI_one 11 (by kernel_rfl) rfl ?_
      try simp only [List.getElem_toArray, List.getElem_cons_succ, List.getElem_cons_zero]
      refine opE_step ?_
      rw [if_pos (by rfl)]
      go_simp
      go_at_call 39
      have hsz := HS0.out.size
      (with_reducible refine CF1.out.mono ?_)
      rintro e w11 ⟨g, xs, rfl, hq, hb11⟩
      replace HS0 := Lib.hid (show Below w.heap.size w w11 from HS0.out.trans (hb11.mono HS0.out.size))
      have Hrf := Lib.hid (show RdF w.heap.size w11 (some ⟨g, 0, none⟩) (rowL l c D W zs s) from (hq.le hsz).rdf (by omega))
      clear hb11 hq
      try dsimp only
      refine ⟨HS0.out, ?_⟩
      try simp only [Act.put, List.getElem_toArray, List.getElem_cons_succ, List.getElem_cons_zero, List.setIfInBounds_toArray, List.set_cons_zero, List.set_cons_succ]
      refine' anyI_take R 12 rfl (v := ?_) (by kernel_rfl) (by rfl) (fun V hV => ?hy) HS0.out ?_
      case hy => ((try dsimp only at hV);  have y0 := (hV.cell (p := ⟨gb, 0, none⟩) Hgb.out).trans g1; have y1 := (hV.cell (p := ⟨gb, 1, none⟩) Hgb.out).trans g2; have y2 := (hV.cell (p := ⟨gb, 2, none⟩) Hgb.out).trans g3; go_simp; try with_reducible rfl)
      try simp only [Act.put, List.getElem_toArray, List.getElem_cons_succ, List.getElem_cons_zero, List.setIfInBounds_toArray, List.set_cons_zero, List.set_cons_succ]
      refine' anyI_take R 13 rfl (v := ?_) (by kernel_rfl) (by rfl) (fun V hV => ?hy) HS0.out ?_
      case hy => ((try dsimp only at hV);  have y0 := (hV.cell (p := ⟨gb, 0, none⟩) Hgb.out).trans g1; have y1 := (hV.cell (p := ⟨gb, 1, none⟩) Hgb.out).trans g2; have y2 := (hV.cell (p := ⟨gb, 2, none⟩) Hgb.out).trans g3; go_simp; try with_reducible rfl)
      try simp only [Act.put, List.getElem_toArray, List.getElem_cons_succ, List.getElem_cons_zero, List.setIfInBounds_toArray, List.set_cons_zero, List.set_cons_succ]
      refine' anyI_take R 14 rfl (v := ?_) (by kernel_rfl) (by rfl) (fun V hV => ?hy) HS0.out ?_
      case hy => ((try dsimp only at hV);  have y0 := (hV.cell (p := ⟨gb, 0, none⟩) Hgb.out).trans g1; have y1 := (hV.cell (p := ⟨gb, 1, none⟩) Hgb.out).trans g2; have y2 := (hV.cell (p := ⟨gb, 2, none⟩) Hgb.out).trans g3; go_simp; try with_reducible rfl)
      try simp only [Act.put, List.getElem_toArray, List.getElem_cons_succ, List.getElem_cons_zero, List.setIfInBounds_toArray, List.set_cons_zero, List.set_cons_succ]
      refine' anyI_take R 15 rfl (v := ?_) (by kernel_rfl) (by rfl) (fun V hV => ?hy) HS0.out ?_
      case hy => ((try dsimp only at hV);  have y0 := (hV.cell (p := ⟨gb, 0, none⟩) Hgb.out).trans g1; have y1 := (hV.cell (p := ⟨gb, 1, none⟩) Hgb.out).trans g2; have y2 := (hV.cell (p := ⟨gb, 2, none⟩) Hgb.out).trans g3; go_simp; try with_reducible rfl)
      try simp only [Act.put, List.getElem_toArray, List.getElem_cons_succ, List.getElem_cons_zero, List.setIfInBounds_toArray, List.set_cons_zero, List.set_cons_succ]
      refine' anyI_take R 16 rfl (v := ?_) (by kernel_rfl) (by rfl) (fun V hV => ?hy) HS0.out ?_
      case hy => ((try dsimp only at hV);  have y0 := (hV.cell (p := ⟨gb, 0, none⟩) Hgb.out).trans g1; have y1 := (hV.cell (p := ⟨gb, 1, none⟩) Hgb.out).trans g2; have y2 := (hV.cell (p := ⟨gb, 2, none⟩) Hgb.out).trans g3; go_simp; try with_reducible rfl)
      try simp only [Act.put, List.getElem_toArray, List.getElem_cons_succ, List.getElem_cons_zero, List.setIfInBounds_toArray, List.set_cons_zero, List.set_cons_succ]
      refine anyI_tail (by kernel_rfl) ?_
      try simp only [List.drop_succ_cons, List.drop_zero]
      clear R
      go_wp2_with fail
      refine NoPanic.normal ?_
      have F2 := HS0.out
      have Hks := Lib.hid (Hk.out.rows F2 Hrf.out)
      clear F2
      go_upto_block 2 with fail
      refine wp_block ?_
      refine flI _ _ _ _ _ _ _ _ _ _ _ _ _ _ _ _ _ _ _ _ _ _ _ _ _ _ _ _ _ _ _ _ _ _ _ _ _ _ _ _ _ _ _ _ _ _ _ _ _ _ _ _ _ _ _ _ _ _ _ _ _ _ hs16 hD hm (rowL_len _ _ _ _ _ _) H32.out ⟨Nat.zero_le _, Hks.out, Hf.out⟩ (fun v43 v44 v45 v46 v47 v48 v49 v50 v51 v52 v53 v54 v55 v56 v57 v58 v59 v60 v61 v62 v63 v64 v65 j H3 N3 V3 hI3 hx3 => ?_)
      subst hx3
      have K3 := Lib.hid (hI3.2.1.less (R' := []) (S' := []) (fun _ h => h) (fun _ h => absurd h (by simp)) (fun _ h => h))
      have F3 := Lib.hid (fld_next hI3.2.2)
      clear hI3
      go_wp2_with fail
      exact HK.out _ _ _ _ _ _ _ _ _ _ _ _ _ _ _ _ _ _ _ _ _ _ _ _ _ _ _ _ _ _ _ _ _ _ _ _ _ _ _ _ _ _ _ _ _ H3 N3 _ ⟨by omega, K3.out, F3.out⟩ (by omega)
  · have i1 : ¬ (s : Int) < 16 := by omega
    have Hin := Lib.hid (show s = 16 by omega)
    clear HK hk hf
    go_wp2_with fail
    exact HX.out _ _ _ _ _ _ _ _ _ _ _ _ _ _ _ _ _ _ _ _ _ _ _ _ _ _ _ _ _ _ _ _ _ _ _ _ _ _ _ _ _ _ _ _ _ Hin.out
set_option maxRecDepth 100000 in
set_option maxHeartbeats 3200000 in
theorem flO {W0 : World} {n l c r : Int} {D F W m b gb cp : Nat} {A : Option Addr} {zs : List Int} {H0 : BH} {N0 : Bch} {w : World} (u4 u5 u6 u8 u10 u11 u12 u13 u14 u15 u16 u17 u18 u19 u20 u21 u22 u23 u24 u25 u26 u27 u28 u29 u30 u31 u32 u33 u34 u35 u36 u37 u38 u39 u40 u41 u42 u43 u44 u45 u46 u47 u48 u49 u50 u51 u52 u53 u54 u55 u56 u57 u58 u59 u60 u61 u62 u63 u64 u65 u66 : Value) (Q : Exit → Act → World → Prop) (gr : Gr n l c r D F W) (hD : D ≤ m) (hm : m ≤ 8) (hz : RdZ W0 W0.heap.size A zs) (hcp : zs.length ≤ cp) (hI : (0 ≤ 16 ∧ KS W0 w b H0 N0 [(gb, Obj.cells #[.int .i64 l, .int .i64 (D : Int), .int .i64 c] 24 (0, 0))] [] [] ∧ Fld N0 m D (rowL l c D W zs) 0 0))
    (hX : ∀ (v10 v11 v12 v24 v25 v26 v27 v28 v29 v30 v31 v32 v33 v34 v35 v36 v37 v38 v39 v40 v41 v42 v43 v44 v45 v46 v47 v48 v49 v50 v51 v52 v53 v54 v55 v56 v57 v58 v59 v60 v61 v62 v63 v64 v65 : Value) (s : Nat) (H : BH) (N : Bch) (V : World), (s ≤ 16 ∧ KS W0 V b H N [(gb, Obj.cells #[.int .i64 l, .int .i64 (D : Int), .int .i64 c] 24 (0, 0))] [] [] ∧ Fld N m D (rowL l c D W zs) s 0) → (s = 16) → Q (.exit 0) ⟨List.toArray ((.agg #[.int .i64 l, .int .i64 (D : Int), .int .i64 c]) :: (.int .i64 (m : Int)) :: (.slice A zs.length cp) :: (.pointer (some ⟨gb, 0, none⟩)) :: u4 :: u5 :: u6 :: (.pointer (some ⟨b, 0, none⟩)) :: u8 :: (.int .i64 ((s : Nat) : Int)) :: v10 :: v11 :: v12 :: u13 :: u14 :: u15 :: u16 :: u17 :: u18 :: u19 :: u20 :: u21 :: u22 :: u23 :: v24 :: v25 :: v26 :: v27 :: v28 :: v29 :: v30 :: v31 :: v32 :: v33 :: v34 :: v35 :: v36 :: v37 :: v38 :: v39 :: v40 :: v41 :: v42 :: v43 :: v44 :: v45 :: v46 :: v47 :: v48 :: v49 :: v50 :: v51 :: v52 :: v53 :: v54 :: v55 :: v56 :: v57 :: v58 :: v59 :: v60 :: v61 :: v62 :: v63 :: v64 :: v65 :: u66 :: []), []⟩ V) :
    Code.wp Tryz.prog (.loop (sub [1, 1, 1, 0, 1, 0, 0] codeFld)) Q ⟨List.toArray ((.agg #[.int .i64 l, .int .i64 (D : Int), .int .i64 c]) :: (.int .i64 (m : Int)) :: (.slice A zs.length cp) :: (.pointer (some ⟨gb, 0, none⟩)) :: u4 :: u5 :: u6 :: (.pointer (some ⟨b, 0, none⟩)) :: u8 :: (.int .i64 ((0 : Nat) : Int)) :: u10 :: u11 :: u12 :: u13 :: u14 :: u15 :: u16 :: u17 :: u18 :: u19 :: u20 :: u21 :: u22 :: u23 :: u24 :: u25 :: u26 :: u27 :: u28 :: u29 :: u30 :: u31 :: u32 :: u33 :: u34 :: u35 :: u36 :: u37 :: u38 :: u39 :: u40 :: u41 :: u42 :: u43 :: u44 :: u45 :: u46 :: u47 :: u48 :: u49 :: u50 :: u51 :: u52 :: u53 :: u54 :: u55 :: u56 :: u57 :: u58 :: u59 :: u60 :: u61 :: u62 :: u63 :: u64 :: u65 :: u66 :: []), []⟩ w := by
  refine wp_loop_ghost (fun gk a V => ∀ C : Prop, (∀ (u10 u11 u12 u24 u25 u26 u27 u28 u29 u30 u31 u32 u33 u34 u35 u36 u37 u38 u39 u40 u41 u42 u43 u44 u45 u46 u47 u48 u49 u50 u51 u52 u53 u54 u55 u56 u57 u58 u59 u60 u61 u62 u63 u64 u65 : Value) (s : Nat) (H : BH) (N : Bch), gk = 16 - s → (s ≤ 16 ∧ KS W0 V b H N [(gb, Obj.cells #[.int .i64 l, .int .i64 (D : Int), .int .i64 c] 24 (0, 0))] [] [] ∧ Fld N m D (rowL l c D W zs) s 0) → a = ⟨List.toArray ((.agg #[.int .i64 l, .int .i64 (D : Int), .int .i64 c]) :: (.int .i64 (m : Int)) :: (.slice A zs.length cp) :: (.pointer (some ⟨gb, 0, none⟩)) :: u4 :: u5 :: u6 :: (.pointer (some ⟨b, 0, none⟩)) :: u8 :: (.int .i64 ((s : Nat) : Int)) :: u10 :: u11 :: u12 :: u13 :: u14 :: u15 :: u16 :: u17 :: u18 :: u19 :: u20 :: u21 :: u22 :: u23 :: u24 :: u25 :: u26 :: u27 :: u28 :: u29 :: u30 :: u31 :: u32 :: u33 :: u34 :: u35 :: u36 :: u37 :: u38 :: u39 :: u40 :: u41 :: u42 :: u43 :: u44 :: u45 :: u46 :: u47 :: u48 :: u49 :: u50 :: u51 :: u52 :: u53 :: u54 :: u55 :: u56 :: u57 :: u58 :: u59 :: u60 :: u61 :: u62 :: u63 :: u64 :: u65 :: u66 :: []), []⟩ → C) → C) (16 - 0) ?_ ?_
  · intro C hC
    exact hC _ _ _ _ _ _ _ _ _ _ _ _ _ _ _ _ _ _ _ _ _ _ _ _ _ _ _ _ _ _ _ _ _ _ _ _ _ _ _ _ _ _ _ _ _ (0) (H0) (N0) rfl hI rfl
  · intro gk a V hI'
    refine hI' _ ?_
    intro u10 u11 u12 u24 u25 u26 u27 u28 u29 u30 u31 u32 u33 u34 u35 u36 u37 u38 u39 u40 u41 u42 u43 u44 u45 u46 u47 u48 u49 u50 u51 u52 u53 u54 u55 u56 u57 u58 u59 u60 u61 u62 u63 u64 u65 s H N hk hinv ha
    subst ha
    subst hk
    refine flOb _ _ _ _ _ _ _ _ _ _ _ _ _ _ _ _ _ _ _ _ _ _ _ _ _ _ _ _ _ _ _ _ _ _ _ _ _ _ _ _ _ _ _ _ _ _ _ _ _ _ _ _ _ _ _ _ _ _ _ _ _ _ _ gr hD hm hz hcp hinv (fun v10 v11 v12 v24 v25 v26 v27 v28 v29 v30 v31 v32 v33 v34 v35 v36 v37 v38 v39 v40 v41 v42 v43 v44 v45 v46 v47 v48 v49 v50 v51 v52 v53 v54 v55 v56 v57 v58 v59 v60 v61 v62 v63 v64 v65 H2 N2 V2 h2 hm => ?_) (fun v10 v11 v12 v24 v25 v26 v27 v28 v29 v30 v31 v32 v33 v34 v35 v36 v37 v38 v39 v40 v41 v42 v43 v44 v45 v46 v47 v48 v49 v50 v51 v52 v53 v54 v55 v56 v57 v58 v59 v60 v61 v62 v63 v64 v65 hx => hX v10 v11 v12 v24 v25 v26 v27 v28 v29 v30 v31 v32 v33 v34 v35 v36 v37 v38 v39 v40 v41 v42 v43 v44 v45 v46 v47 v48 v49 v50 v51 v52 v53 v54 v55 v56 v57 v58 v59 v60 v61 v62 v63 v64 v65 s H N V hinv hx)
    refine ⟨_, hm, fun C hC => ?_⟩
    exact hC v10 v11 v12 v24 v25 v26 v27 v28 v29 v30 v31 v32 v33 v34 v35 v36 v37 v38 v39 v40 v41 v42 v43 v44 v45 v46 v47 v48 v49 v50 v51 v52 v53 v54 v55 v56 v57 v58 v59 v60 v61 v62 v63 v64 v65 ((s + 1)) (H2) (N2) rfl h2 rfl
theorem KS.open {W w w' : World} {b : Nat} {H : BH} {N : Bch} (h : KS w w' b H N [] [] []) (hb : Below W.heap.size W w) {g : Nat} {o : Obj} (hg : w.heap[g]? = some o) (hW : W.heap.size ≤ g) : KS W w' b H N [(g, o)] [] [] := by
  have hlt := (Array.getElem?_eq_some_iff.1 hg).1
  refine ⟨⟨⟨h.bp.at'.mono hb.size, hb.trans (h.bp.bel.mono hb.size)⟩, fun p hp => ?_⟩, fun _ hp => absurd hp (by simp), fun _ hp => absurd hp (by simp)⟩
  rw [List.mem_singleton.1 hp]
  exact ⟨(h.bp.bel.block g hlt).trans hg, fun e => by have := (h.bp.at'.flt e).1; omega, hW⟩
set_option maxRecDepth 100000 in
set_option maxHeartbeats 3200000 in
theorem stpFilled_any {n l c r : Int} {D F W : Nat} (gr : Gr n l c r D F W) (m : Nat) (hD : D ≤ m) (hm : m ≤ 8) (A : Option Addr) (zs : List Int) (k cp : Nat) (w : World) (hk : k = zs.length) (hcp : zs.length ≤ cp) (hz : RdZ w w.heap.size A zs) :
    Calls Tryz.prog 8 #[.agg #[.int .i64 l, .int .i64 (D : Int), .int .i64 c], .int .i64 (m : Int), .slice A k cp] w fun e w' => ∃ b H N, e = .returned (.pointer (some ⟨b, 0, none⟩)) ∧ KS w w' b H N [] [] [] ∧ Fld N m D (rowL l c D W zs) 16 0 := by
  subst hk
  have hpn := ptr_eq
  have hd3 := gr.d3
  have B1 := below1 w (.cells #[.int .i64 l, .int .i64 (D : Int), .int .i64 c] 24)
  have CN := Lib.hid (bp_new m w _ B1 (by omega))
  have hz1 : (w.alloc (.cells #[.int .i64 l, .int .i64 (D : Int), .int .i64 c] 24)).heap.size = w.heap.size + 1 := by simp
  have hh := hp_new w (.cells #[.int .i64 l, .int .i64 (D : Int), .int .i64 c] 24) _ rfl
  have Gr' := Lib.hid gr
  have Hz := Lib.hid hz
  clear gr hz B1
  go_enter Tryz.func8, Tryz.ntmps8
  go_wp2_with fail
  refine CN.out.mono ?_
  rintro e w1 ⟨b, H, rfl, hp, hb1, hlo⟩
  unfold ptr
  have HK0 := Lib.hid (show KS w w1 b H (Bch.new m) [(w.heap.size, Obj.cells #[.int .i64 l, .int .i64 (D : Int), .int .i64 c] 24 (0, 0))] [] [] from by
    refine ⟨⟨hp, fun p hp' => ?_⟩, fun _ hp => absurd hp (by simp), fun _ hp => absurd hp (by simp)⟩
    rw [List.mem_singleton.1 hp']
    exact ⟨(hb1.block w.heap.size (by rw [hz1]; omega)).trans hh, fun e => by have := hlo _ e; rw [hz1] at this; omega, Nat.le_refl _⟩)
  have HF0 := Lib.hid (fld_new m D (rowL l c D W zs))
  clear hp hb1 hlo hh CN
  go_upto_block 0 with fail
  refine wp_block ?_
  refine flO _ _ _ _ _ _ _ _ _ _ _ _ _ _ _ _ _ _ _ _ _ _ _ _ _ _ _ _ _ _ _ _ _ _ _ _ _ _ _ _ _ _ _ _ _ _ _ _ _ _ _ _ _ _ _ _ _ _ _ _ _ _ Gr'.out hD hm Hz.out hcp ⟨Nat.zero_le _, HK0.out, HF0.out⟩ (fun v10 v11 v12 v24 v25 v26 v27 v28 v29 v30 v31 v32 v33 v34 v35 v36 v37 v38 v39 v40 v41 v42 v43 v44 v45 v46 v47 v48 v49 v50 v51 v52 v53 v54 v55 v56 v57 v58 v59 v60 v61 v62 v63 v64 v65 s H2 N2 V2 hI hx => ?_)
  subst hx
  have HK2 := Lib.hid (hI.2.1.less (K' := []) (R' := []) (S' := []) (fun _ h => absurd h (by simp)) (fun _ h => h) (fun _ h => h))
  have HF2 := Lib.hid hI.2.2
  clear hI
  go_wp2_with fail
  go_ret
  exact ⟨b, H2, N2, rfl, HK2.out, HF2.out⟩
end Go.Proofs.YtenkkdnepmoihaaGreatDoor
end
