/- SlotsBest, in plain numbers: a bench where nothing is pending; the best of all slots, one after another. -/
import Derived.Test.YtiipdhmfdgbmiaaDoorTbbc
import Derived.Test.YtiipdhmfdgbmiaaDoorTbax
set_option maxRecDepth 8000
set_option linter.unusedVariables false
set_option linter.unusedSimpArgs false
namespace Go.Proofs.YtiipdhmfdgbmiaaDoor
open Go.RowKit

structure RG (N : Bch) (c : Nat) : Prop where
  n : N.n = 4
  dn : N.down = false
  lf : N.left = -1
  done : N.done ≤ c
  ps : ∀ i, i < N.n → (N.D i).ps = []
  ok : ∀ j, j < 4 → (N.D j).Ok
theorem rg_new : RG (Bch.new 4) 0 := ⟨rfl, rfl, rfl, Nat.le_refl 0, fun _ _ => rfl, fun _ _ => Dsk.new_ok⟩
theorem RG.more {N : Bch} {c c' : Nat} (h : RG N c) (hc : c ≤ c') : RG N c' := ⟨h.n, h.dn, h.lf, Nat.le_trans h.done hc, h.ps, h.ok⟩
theorem rg_pend {N : Bch} {c : Nat} (h : RG N c) : N.pend = 0 := offs_zero h.ps
theorem rg_store {N M : Bch} {c : Nat} {lv : List Bool} {s : Su} (h : RG N c) (st : StG N M lv s) (hl : lv.length = 4) : RG M (c + 4) := by
  have hc := cntTo_le N lv (min N.n lv.length)
  refine ⟨st.n.trans h.n, st.dn, st.lf, ?_, fun i hi => ?_, fun j hj => ?_⟩
  · have := st.done; have := h.done; omega
  · rw [st.n] at hi; rw [st.D i hi]; exact stD_ps _ _ _ (h.ps i hi)
  · rw [st.D j (by rw [h.n]; exact hj)]; exact stD_ok _ _ _ (h.ok j hj)
theorem rg_set {N : Bch} {c i : Nat} {X : Dsk} (h : RG N c) (hp : X.ps = []) (ho : X.Ok) : RG (N.set i X) (c + 4) := by
  refine ⟨h.n, h.dn, h.lf, Nat.le_trans h.done (Nat.le_add_right _ _), fun j hj => ?_, fun j hj => ?_⟩
  · show (upd N.D i X j).ps = []
    by_cases e : j = i
    · subst e; rw [upd_same]; exact hp
    · rw [upd_other _ _ e]; exact h.ps j hj
  · show (upd N.D i X j).Ok
    by_cases e : j = i
    · subst e; rw [upd_same]; exact ho
    · rw [upd_other _ _ e]; exact h.ok j hj
theorem rg_damage {N : Bch} {c d k : Nat} {x : List UInt8} (h : RG N c) (hd : d < 4) (hk : k < 52) (hx : x.length = 32) : RG (N.damage (d : Int) (k : Int) x) (c + 4) := by
  unfold Bch.damage
  split
  · exact h.more (Nat.le_add_right _ _)
  · refine rg_set h ?_ ?_
    · show ((N.D d).damageE (k : Int) x).ps = []
      unfold Dsk.damageE
      split
      · show (N.D d).ps.filter _ = []
        rw [h.ps d (by rw [h.n]; exact hd)]; rfl
      · exact h.ps d (by rw [h.n]; exact hd)
    · show ((N.D d).damageE (k : Int) x).Ok
      unfold Dsk.damageE
      split
      · exact (h.ok d hd).damage hk hx
      · exact h.ok d hd
theorem rg_fail {N : Bch} {c : Nat} {d : Int} (h : RG N c) : RG (N.fail d) (c + 4) := by
  unfold Bch.fail
  split
  · exact h.more (Nat.le_add_right _ _)
  · exact rg_set h rfl Dsk.failed_ok
theorem replace_n (N : Bch) (d : Int) : (N.replace d).n = N.n := by unfold Bch.replace; split <;> rfl
theorem rg_replace {N : Bch} {c : Nat} {d : Int} (h : RG N c) : RG (N.replace d) (c + 4) := by
  unfold Bch.replace
  split
  · exact h.more (Nat.le_add_right _ _)
  · exact rg_set h rfl Dsk.new_ok
/-- What stands in the slots that have been looked at. -/
def cnts (N : Bch) (i j k : Nat) : List Su := if k < i then dskSu (N.D k) else if k = i then dTo (N.D i) j else []
theorem cnts_zero (N : Bch) (k : Nat) : cnts N 0 0 k = [] := by
  unfold cnts
  rw [if_neg (by omega)]
  split <;> rfl
theorem cnts_at (N : Bch) (i j : Nat) : cnts N i j i = dTo (N.D i) j := by unfold cnts; rw [if_neg (by omega), if_pos rfl]
theorem cnts_step (N : Bch) (i j k : Nat) (h : k ≠ i) : cnts N i (j + 1) k = cnts N i j k := by unfold cnts; rw [if_neg h, if_neg h]
theorem cnts_next (N : Bch) (i k : Nat) : cnts N (i + 1) 0 k = cnts N i 2 k := by
  unfold cnts
  by_cases c : k < i
  · rw [if_pos c, if_pos (by omega)]
  · by_cases e : k = i
    · subst e; rw [if_pos (by omega), if_neg (by omega), if_pos rfl, dTo_two]
    · rw [if_neg (by omega), if_neg c, if_neg e]
      split <;> rfl
theorem cnts_all (N : Bch) {k : Nat} (h : k < 4) : cnts N 4 0 k = dskSu (N.D k) := if_pos h
def bestAt (N : Bch) (i j : Nat) : Su := (dTo (N.D i) j).foldl pickS (bestTo N i)
theorem bestAt_zero (N : Bch) (i : Nat) : bestAt N i 0 = bestTo N i := rfl
theorem bestAt_two (N : Bch) (i : Nat) : bestAt N i 2 = bestTo N (i + 1) := by unfold bestAt; rw [dTo_two]; rfl
theorem bestAt_none {N : Bch} {i j : Nat} (h : slotL (N.D i) j = []) : bestAt N i (j + 1) = bestAt N i j := by unfold bestAt; rw [dTo_succ, h, List.append_nil]
theorem bestAt_some {N : Bch} {i j : Nat} {x : Su} (h : slotL (N.D i) j = [x]) : bestAt N i (j + 1) = pickS (bestAt N i j) x := by unfold bestAt; rw [dTo_succ, h, List.foldl_append]; rfl
theorem dTo_mem {D : Dsk} {x : Su} : ∀ {j : Nat}, x ∈ dTo D j → SuIn x
  | 0, h => by cases h
  | j + 1, h => by
    rw [dTo_succ] at h
    rcases List.mem_append.1 h with h | h
    · exact dTo_mem h
    · unfold slotL at h
      repeat' split at h
      · cases h
      · rw [List.mem_singleton.1 h]; exact decS_in _ (by assumption)
      · cases h
theorem bestAt_in (N : Bch) (i j : Nat) : bestAt N i j = suZ ∨ SuIn (bestAt N i j) := fold_in _ _ (bestTo_in N i) fun _ h => dTo_mem h
theorem pick_ge {b x : Su} : b.g ≤ (pickS b x).g ∧ x.g ≤ (pickS b x).g := by unfold pickS; split <;> omega
theorem fold_ge : ∀ (l : List Su) (b : Su), b.g ≤ (l.foldl pickS b).g ∧ ∀ x ∈ l, x.g ≤ (l.foldl pickS b).g
  | [], b => ⟨Int.le_refl _, fun _ h => by cases h⟩
  | y :: l, b => by
    obtain ⟨h1, h2⟩ := fold_ge l (pickS b y)
    have hp := pick_ge (b := b) (x := y)
    refine ⟨by show b.g ≤ (l.foldl pickS (pickS b y)).g; omega, fun x hx => ?_⟩
    rcases List.mem_cons.1 hx with rfl | hx
    · show x.g ≤ (l.foldl pickS (pickS b x)).g; omega
    · exact h2 x hx
theorem bestTo_ge (N : Bch) : ∀ m j, j < m → ∀ x ∈ dskSu (N.D j), x.g ≤ (bestTo N m).g
  | 0, j, hj, _, _ => by omega
  | m + 1, j, hj, x, hx => by
    obtain ⟨h1, h2⟩ := fold_ge (dskSu (N.D m)) (bestTo N m)
    by_cases e : j = m
    · subst e; exact h2 x hx
    · have := bestTo_ge N m j (by omega) x hx
      exact Int.le_trans this h1
/-- Has one of that generation, or of the one below: told both ways. -/
def wantB (b : Int) (l : List Su) : Bool := l.any fun x => decide (x.g = b) || decide (x.g = b - 1)
theorem want_has {N : Bch} {m j : Nat} (hj : j < m) : wantB (bestTo N m).g (dskSu (N.D j)) = hasB N (bestTo N m) j := by
  have hm := bestTo_ge N m j hj
  unfold wantB hasB
  rw [Bool.eq_iff_iff, List.any_eq_true, List.any_eq_true]
  constructor
  · rintro ⟨x, hx, h⟩
    refine ⟨x, hx, ?_⟩
    simp only [Bool.or_eq_true, decide_eq_true_eq] at h ⊢
    omega
  · rintro ⟨x, hx, h⟩
    have := hm x hx
    refine ⟨x, hx, ?_⟩
    simp only [Bool.or_eq_true, decide_eq_true_eq] at h ⊢
    omega
theorem want_succ (b : Int) {l : List Su} {i : Nat} (hi : i < l.length) : wantB b (l.take (i + 1)) = (wantB b (l.take i) || (decide ((l.getD i suZ).g = b) || decide ((l.getD i suZ).g = b - 1))) := by
  unfold wantB
  rw [getD_take hi, List.any_append]
  simp
end Go.Proofs.YtiipdhmfdgbmiaaDoor
