/- Texts put together: SlotsTurnsMath. -/
import Derived.Test.YtiipdhmfdgbmiaaDoorTbbb
section
set_option maxRecDepth 8000
set_option linter.unusedVariables false
set_option linter.unusedSimpArgs false
namespace Go.Proofs.YtiipdhmfdgbmiaaDoor
open Go.RowKit

theorem fold_top {t : Su} : ∀ (l : List Su) (b : Su), (b = t ∨ b.g < t.g) → (∀ x ∈ l, x = t ∨ x.g < t.g) → (l.foldl pickS b = t ∨ (l.foldl pickS b).g < t.g) ∧ ((b = t ∨ t ∈ l) → l.foldl pickS b = t)
  | [], b, hb, _ => ⟨hb, fun h => by rcases h with h | h; exact h; cases h⟩
  | x :: l, b, hb, hl => by
    have hx := hl x (List.mem_cons_self ..)
    have hp : pickS b x = t ∨ (pickS b x).g < t.g := by
      unfold pickS; split
      · exact hx
      · exact hb
    obtain ⟨h1, h2⟩ := fold_top l (pickS b x) hp fun y hy => hl y (List.mem_cons_of_mem _ hy)
    refine ⟨h1, fun h => h2 ?_⟩
    rcases h with rfl | h
    · left
      unfold pickS
      rw [if_neg]
      rcases hx with rfl | hx <;> omega
    · rcases List.mem_cons.1 h with rfl | h
      · left
        unfold pickS
        rcases hb with rfl | hb
        · rw [if_neg (by omega)]
        · rw [if_pos hb]
      · exact .inr h
theorem best_top {N : Bch} {t : Su} (hg : 1 ≤ t.g) : ∀ m, (∀ j, j < m → ∀ x ∈ dskSu (N.D j), x = t ∨ x.g < t.g) → (bestTo N m = t ∨ (bestTo N m).g < t.g) ∧ ((∃ j, j < m ∧ t ∈ dskSu (N.D j)) → bestTo N m = t)
  | 0, _ => ⟨.inr (by show (0 : Int) < t.g; omega), fun ⟨j, hj, _⟩ => by omega⟩
  | m + 1, h => by
    obtain ⟨h1, h2⟩ := best_top hg m fun j hj => h j (by omega)
    obtain ⟨g1, g2⟩ := fold_top (dskSu (N.D m)) (bestTo N m) h1 (h m (by omega))
    refine ⟨g1, fun ⟨j, hj, ht⟩ => g2 ?_⟩
    by_cases e : j = m
    · subst e; exact .inr ht
    · exact .inl (h2 ⟨j, by omega, ht⟩)
theorem best_is {N : Bch} {t : Su} (hd : N.down = false) (hg : 1 ≤ t.g) (hall : ∀ j, j < N.n → ∀ x ∈ dskSu (N.D j), x = t ∨ x.g < t.g) (hex : ∃ j, j < N.n ∧ t ∈ dskSu (N.D j)) : bestE N = 0 ∧ bestS N = t ∧ hasL N = (List.range N.n).map (hasB N t) := by
  have hb : bestTo N N.n = t := (best_top hg N.n hall).2 hex
  have he : bestE N = 0 := by unfold bestE; rw [if_neg (by simp [hd]), hb, if_neg (by omega)]
  exact ⟨he, by rw [bestS_some he, hb], by rw [hasL_some he, hb]⟩
theorem dsk_mem {D : Dsk} {x : Su} : x ∈ dskSu D ↔ x ∈ slotL D 0 ∨ x ∈ slotL D 1 := by unfold dskSu; exact List.mem_append
theorem hasB_yes {N : Bch} {t x : Su} {j : Nat} (h : x ∈ dskSu (N.D j)) (hx : t.g - 1 ≤ x.g) : hasB N t j = true := List.any_eq_true.2 ⟨x, h, decide_eq_true hx⟩
/-- The g-th Super that is stored. -/
def sG (g : Nat) : Su := oneS (g : Int) (5 * (g : Int))
theorem sG_g (g : Nat) : (sG g).g = (g : Int) := rfl
theorem sG_ok {g : Nat} (h : 1 ≤ g ∧ g ≤ 9) : suOk (sG g) = true := oneS_ok _ (by omega)
theorem sG_64 {g : Nat} (h : 1 ≤ g ∧ g ≤ 9) : Su64 (sG g) := oneS_64 _ (by omega)
def cont (g k : Nat) : List Su := if k = slotI (g : Int) then (if 1 ≤ g then [sG g] else []) else if 2 ≤ g then [sG (g - 1)] else []
theorem slotI_next (g : Nat) : slotI ((g + 1 : Nat) : Int) = 1 - slotI (g : Int) := by unfold slotI; split <;> split <;> omega
structure TG (N : Bch) (g : Nat) : Prop where
  n : N.n = 3
  dn : N.down = false
  lf : N.left = -1
  done : N.done ≤ 3 * g
  ps : ∀ i, i < N.n → (N.D i).ps = []
  ok : ∀ j, j < 3 → (N.D j).Ok
  f : ∀ j, j < 3 → (N.D j).f = false
  sl : ∀ j, j < 3 → ∀ k, k < 2 → slotL (N.D j) k = cont g k
theorem slot_new {k : Nat} (hk : k < 2) : slotL Dsk.new k = [] := by
  unfold slotL
  rw [if_neg (by decide), if_neg]
  rw [new_now, sec_zero (by omega), decO_zeros]; decide
theorem tg_new : TG (Bch.new 3) 0 :=
  ⟨rfl, rfl, rfl, Nat.le_refl 0, fun _ _ => rfl, fun _ _ => Dsk.new_ok, fun _ _ => rfl, fun j hj k hk => by
    show slotL Dsk.new k = _
    rw [slot_new hk]; unfold cont; split <;> rfl⟩
theorem tg_step {N M : Bch} {g : Nat} (h : TG N g) (hg : g + 1 ≤ 9) (st : StG N M [true, true, true] (sG (g + 1))) : TG M (g + 1) := by
  have hD : ∀ j, j < 3 → M.D j = stD [true, true, true] (sG (g + 1)) (N.D j) j := fun j hj => st.D j (by rw [h.n]; exact hj)
  have hl : ∀ j, j < 3 → ([true, true, true] : List Bool).getD j false = true := fun j hj => by
    obtain rfl | rfl | rfl : j = 0 ∨ j = 1 ∨ j = 2 := by omega
    all_goals rfl
  have hc := cntTo_le N [true, true, true] (min N.n 3)
  refine ⟨st.n.trans h.n, st.dn, st.lf, ?_, fun i hi => ?_, fun j hj => ?_, fun j hj => ?_, fun j hj k hk => ?_⟩
  · have h1 := st.done
    have h2 := h.done
    have h3 : ([true, true, true] : List Bool).length = 3 := rfl
    rw [h3] at h1
    omega
  · have hi' : i < 3 := by rw [st.n, h.n] at hi; exact hi
    rw [hD i hi']; exact stD_ps _ _ _ (h.ps i (by rw [h.n]; exact hi'))
  · rw [hD j hj]; exact stD_ok _ _ _ (h.ok j hj)
  · rw [hD j hj, stD_f]; exact h.f j hj
  · rw [hD j hj, stD_slot (sG_ok (by omega)) (h.ok j hj) (hl j hj) (h.f j hj) k]
    have e : slotI (sG (g + 1)).g = slotI ((g + 1 : Nat) : Int) := rfl
    have hs := slotI_lt (g : Int)
    rw [e]
    unfold cont
    by_cases c : k = slotI ((g + 1 : Nat) : Int)
    · rw [if_pos c, if_pos c, if_pos (by omega)]
    · rw [if_neg c, if_neg c, h.sl j hj k hk]
      have c2 : k = slotI (g : Int) := by rw [slotI_next] at c; omega
      unfold cont
      rw [if_pos c2]
      by_cases g1 : 1 ≤ g
      · rw [if_pos g1, if_pos (by omega), Nat.add_sub_cancel]
      · rw [if_neg g1, if_neg (by omega)]
theorem cont_mem {g k : Nat} {x : Su} (hx : x ∈ cont g k) : x = sG g ∨ (x = sG (g - 1) ∧ 2 ≤ g) := by
  unfold cont at hx
  repeat' split at hx
  · exact .inl (List.mem_singleton.1 hx)
  · cases hx
  · rename_i h; exact .inr ⟨List.mem_singleton.1 hx, h⟩
  · cases hx
theorem cont_own {g : Nat} (h : 1 ≤ g) : cont g (slotI (g : Int)) = [sG g] := by unfold cont; rw [if_pos rfl, if_pos h]
theorem cont_other {g : Nat} (h : 2 ≤ g) : cont g (1 - slotI (g : Int)) = [sG (g - 1)] := by
  have hs := slotI_lt (g : Int)
  unfold cont; rw [if_neg (by omega), if_pos h]
theorem slot_in {D : Dsk} {x : Su} {k : Nat} (hk : k < 2) (h : x ∈ slotL D k) : x ∈ dskSu D := by
  obtain rfl | rfl : k = 0 ∨ k = 1 := by omega
  · exact dsk_mem.2 (.inl h)
  · exact dsk_mem.2 (.inr h)
theorem tg_best {N : Bch} {g : Nat} (h : TG N g) (hg : 1 ≤ g) : bestE N = 0 ∧ bestS N = sG g := by
  have hb := best_is (N := N) (t := sG g) h.dn (by rw [sG_g]; omega) (fun j hj x hx => by
    have hj3 : j < 3 := by rw [h.n] at hj; exact hj
    have hx' : x = sG g ∨ (x = sG (g - 1) ∧ 2 ≤ g) := by
      rcases dsk_mem.1 hx with e | e
      · rw [h.sl j hj3 0 (by omega)] at e; exact cont_mem e
      · rw [h.sl j hj3 1 (by omega)] at e; exact cont_mem e
    rcases hx' with rfl | ⟨rfl, h2⟩
    · exact .inl rfl
    · right; rw [sG_g, sG_g]; omega) ⟨0, by rw [h.n]; decide, slot_in (slotI_lt _) (by rw [h.sl 0 (by omega) _ (slotI_lt _), cont_own hg]; exact List.mem_singleton.2 rfl)⟩
  exact ⟨hb.1, hb.2.1⟩
/-- Some disks' slot is spoilt, among the first. -/
structure DG (N M : Bch) (all : Bool) (k s : Nat) (x : List UInt8) (i : Nat) : Prop where
  n : M.n = N.n
  dn : M.down = N.down
  ps : ∀ j, j < N.n → (M.D j).ps.length ≤ (N.D j).ps.length
  D : ∀ j, M.D j = if j < i ∧ (all = true ∨ j = k) then (N.D j).damage s x else N.D j
theorem dg_new (N : Bch) (all : Bool) (k s : Nat) (x : List UInt8) : DG N N all k s x 0 := ⟨rfl, rfl, fun _ _ => Nat.le_refl _, fun j => (if_neg (by omega)).symm⟩
theorem dg_skip {N M : Bch} {all : Bool} {k s i : Nat} {x : List UInt8} (h : DG N M all k s x i) (hn : ¬ (all = true ∨ i = k)) : DG N M all k s x (i + 1) :=
  ⟨h.n, h.dn, h.ps, fun j => by
    rw [h.D j]
    by_cases e : j = i
    · subst e; rw [if_neg (by omega), if_neg (fun c => hn c.2)]
    · by_cases c : j < i ∧ (all = true ∨ j = k)
      · rw [if_pos c, if_pos ⟨by omega, c.2⟩]
      · rw [if_neg c, if_neg (fun c' => c ⟨by omega, c'.2⟩)]⟩
theorem damage_len (D : Dsk) (s : Nat) (x : List UInt8) : (D.damage s x).ps.length ≤ D.ps.length := List.length_filter_le _ _
theorem dg_do {N M : Bch} {all : Bool} {k s i : Nat} {x : List UInt8} (h : DG N M all k s x i) (hy : all = true ∨ i = k) (hi : i < N.n) (hs : s < 52) (hx : x.length = 32) (hf : (N.D i).f = false) : DG N (M.damage (i : Int) (s : Int) x) all k s x (i + 1) := by
  have hp : M.pickE (i : Int) = 0 := Bch.pickE_ok (by omega) (by rw [h.n]; omega)
  have hDi : M.D i = N.D i := by rw [h.D i, if_neg (by omega)]
  have e : M.damage (i : Int) (s : Int) x = M.set i ((N.D i).damage s x) := by
    unfold Bch.damage
    rw [if_neg (by simp [hp])]
    show M.set i ((M.D i).damageE (s : Int) x) = _
    rw [hDi]
    unfold Dsk.damageE
    rw [if_pos (by rw [hf, hx]; exact takeE_ok (by omega) (by omega))]
    rfl
  rw [e]
  refine ⟨h.n, h.dn, fun j hj => ?_, fun j => ?_⟩
  · show (upd M.D i _ j).ps.length ≤ _
    by_cases c : j = i
    · subst c; rw [upd_same]; exact damage_len _ _ _
    · rw [upd_other _ _ c]; exact h.ps j hj
  · show upd M.D i _ j = _
    by_cases c : j = i
    · subst c; rw [upd_same, if_pos ⟨by omega, hy⟩]
    · rw [upd_other _ _ c, h.D j]
      by_cases c2 : j < i ∧ (all = true ∨ j = k)
      · rw [if_pos c2, if_pos ⟨by omega, c2.2⟩]
      · rw [if_neg c2, if_neg (fun c' => c2 ⟨by omega, c'.2⟩)]
theorem damage_slot {D : Dsk} {s : Nat} {x : List UInt8} (ho : D.Ok) (hs : s < 2) (hx : x.length = 32) (hz : decO x = false) (k : Nat) (hk : k < 2) : slotL (D.damage s x) k = if k = s then [] else slotL D k := by
  unfold slotL
  rw [show (D.damage s x).f = D.f from rfl, Dsk.damage_now ho (by omega) hx]
  by_cases e : k = s
  · subst e
    rw [if_pos rfl, sec_put_same ho.now (by omega) hx]
    split
    · rfl
    · rw [if_neg (by rw [hz]; decide)]
  · rw [if_neg e, sec_put_other ho.now (by omega) hx e]
theorem dg_best {N M : Bch} {g k : Nat} {all : Bool} {x : List UInt8} (h : TG N g) (hg : 2 ≤ g) (hk : k < 3) (hx : x.length = 32) (hz : decO x = false) (d : DG N M all k (slotI (g : Int)) x 3) :
    bestE M = 0 ∧ bestS M = sG (if all = true then g - 1 else g) ∧ hasL M = [true, true, true] := by
  have hs := slotI_lt (g : Int)
  have hMn : M.n = 3 := d.n.trans h.n
  have sl : ∀ j, j < 3 → ∀ q, q < 2 → slotL (M.D j) q = if (all = true ∨ j = k) ∧ q = slotI (g : Int) then [] else cont g q := fun j hj q hq => by
    rw [d.D j]
    by_cases c : all = true ∨ j = k
    · rw [if_pos ⟨hj, c⟩, damage_slot (h.ok j hj) hs hx hz q hq, h.sl j hj q hq]
      by_cases e : q = slotI (g : Int)
      · rw [if_pos e, if_pos ⟨c, e⟩]
      · rw [if_neg e, if_neg (fun h => e h.2)]
    · rw [if_neg (fun h => c h.2), h.sl j hj q hq, if_neg (fun h => c h.1)]
  have old : ∀ j, j < 3 → sG (g - 1) ∈ dskSu (M.D j) := fun j hj => slot_in (k := 1 - slotI (g : Int)) (by omega) (by
    rw [sl j hj _ (by omega), if_neg (by omega), cont_other hg]; exact List.mem_singleton.2 rfl)
  have mem : ∀ j, j < 3 → ∀ y ∈ dskSu (M.D j), y = sG (g - 1) ∨ (y = sG g ∧ all = false) := fun j hj y hy => by
    have one : ∀ q, q < 2 → y ∈ slotL (M.D j) q → y = sG (g - 1) ∨ (y = sG g ∧ all = false) := fun q hq hy => by
      rw [sl j hj q hq] at hy
      by_cases c : (all = true ∨ j = k) ∧ q = slotI (g : Int)
      · rw [if_pos c] at hy; cases hy
      · rw [if_neg c] at hy
        rcases cont_mem hy with rfl | ⟨rfl, _⟩
        · by_cases e : q = slotI (g : Int)
          · right
            refine ⟨rfl, ?_⟩
            cases all with
            | false => rfl
            | true => exact absurd ⟨.inl rfl, e⟩ c
          · left
            have e2 : q = 1 - slotI (g : Int) := by omega
            rw [e2, cont_other hg] at hy
            exact List.mem_singleton.1 hy
        · exact .inl rfl
    rcases dsk_mem.1 hy with e | e
    · exact one 0 (by omega) e
    · exact one 1 (by omega) e
  have fin : ∀ t : Su, g - 1 ≤ t.g ∧ t.g ≤ g → 1 ≤ t.g → (∀ j, j < 3 → ∀ y ∈ dskSu (M.D j), y = t ∨ y.g < t.g) → (∃ j, j < 3 ∧ t ∈ dskSu (M.D j)) → N.down = false → bestE M = 0 ∧ bestS M = t ∧ hasL M = [true, true, true] := fun t ht h1 ha he hdn => by
    obtain ⟨b1, b2, b3⟩ := best_is (N := M) (t := t) (d.dn.trans hdn) h1 (by rw [hMn]; exact ha) (by rw [hMn]; exact he)
    refine ⟨b1, b2, ?_⟩
    rw [b3, hMn]
    show [hasB M t 0, hasB M t 1, hasB M t 2] = _
    rw [hasB_yes (old 0 (by omega)) (by rw [sG_g]; omega), hasB_yes (old 1 (by omega)) (by rw [sG_g]; omega), hasB_yes (old 2 (by omega)) (by rw [sG_g]; omega)]
  cases all with
  | true =>
    rw [if_pos rfl]
    refine fin _ (by rw [sG_g]; omega) (by rw [sG_g]; omega) (fun j hj y hy => ?_) ⟨0, by omega, old 0 (by omega)⟩ h.dn
    rcases mem j hj y hy with e | ⟨_, e⟩
    · exact .inl e
    · cases e
  | false =>
    rw [if_neg (by decide)]
    obtain ⟨j, hj, hjk⟩ : ∃ j, j < 3 ∧ j ≠ k := by
      by_cases c : k = 0
      · exact ⟨1, by omega, by omega⟩
      · exact ⟨0, by omega, by omega⟩
    refine fin _ (by rw [sG_g]; omega) (by rw [sG_g]; omega) (fun j hj y hy => ?_) ⟨j, hj, slot_in hs (by rw [sl j hj _ hs, if_neg (fun h => by rcases h.1 with h | h; cases h; exact hjk h), cont_own (by omega)]; exact List.mem_singleton.2 rfl)⟩ h.dn
    rcases mem j hj y hy with e | ⟨e, _⟩
    · right; rw [e, sG_g, sG_g]; omega
    · exact .inl e
end Go.Proofs.YtiipdhmfdgbmiaaDoor
end
