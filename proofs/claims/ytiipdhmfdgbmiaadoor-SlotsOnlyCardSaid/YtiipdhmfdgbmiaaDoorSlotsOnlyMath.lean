/- SlotsOnly, in plain numbers; a bench that is kept beside another one. -/
import Derived.Test.YtiipdhmfdgbmiaaDoorTbbc
import Derived.Test.YtiipdhmfdgbmiaaDoorTbax
set_option maxRecDepth 8000
set_option linter.unusedVariables false
set_option linter.unusedSimpArgs false
namespace Go.Proofs.YtiipdhmfdgbmiaaDoor
open Go.RowKit

/-- A bench lies in just these blocks. -/
theorem bat_list {w : World} {B b : Nat} {H : BH} {N : Bch} (h : BAt w B b H N) : ∃ L : List (Nat × Obj), (∀ p ∈ L, w.heap[p.1]? = some p.2 ∧ BF b H N.n p.1) ∧ ∀ V : World, (∀ p ∈ L, V.heap[p.1]? = some p.2) → BAt V B b H N := by
  let keys := b :: H.g :: (List.range N.n).flatMap fun i => H.bk i :: (H.pv i).ownBlock.toList
  have hk : ∀ k, k ∈ keys ↔ BF b H N.n k := fun k => by
    show k ∈ b :: H.g :: _ ↔ _
    unfold BF DF
    simp only [List.mem_cons, List.mem_flatMap, List.mem_range, Option.mem_toList, Option.mem_def]
  refine ⟨keys.filterMap fun k => (w.heap[k]?).map fun o => (k, o), fun p hp => ?_, fun V hV => h.heap fun k hk' => ?_⟩
  · obtain ⟨k, h1, h2⟩ := List.mem_filterMap.1 hp
    obtain ⟨o, h3, rfl⟩ := Option.map_eq_some_iff.1 h2
    exact ⟨h3, (hk k).1 h1⟩
  · have hl := (h.flt hk').2
    obtain ⟨o, ho⟩ : ∃ o, w.heap[k]? = some o := ⟨w.heap[k], by simp [hl]⟩
    rw [ho]
    exact hV (k, o) (List.mem_filterMap.2 ⟨k, (hk k).2 hk', by rw [ho]; rfl⟩)
theorem KX.join {W w : World} {b : Nat} {H : BH} {N : Bch} {K L : List (Nat × Obj)} (h : KX W w b H N K) (hL : ∀ p ∈ L, w.heap[p.1]? = some p.2 ∧ ¬ BF b H N.n p.1 ∧ W.heap.size ≤ p.1) : KX W w b H N (L ++ K) :=
  ⟨h.bp, fun p hp => by
    rcases List.mem_append.1 hp with h1 | h1
    · exact hL p h1
    · exact h.kp p h1⟩
structure QG (N : Bch) : Prop where
  n : N.n = 4
  dn : N.down = false
  lf : N.left = -1
  done : N.done = 0
  f : ∀ j, j < 4 → (N.D j).f = false
  ps : ∀ i, i < N.n → (N.D i).ps = []
  ok : ∀ j, j < 4 → (N.D j).Ok
  no : ∀ j, j < 4 → ∀ k, k < 2 → decO (secAt (N.D j).now k) = false
theorem qg_new : QG (Bch.new 4) := ⟨rfl, rfl, rfl, rfl, fun _ _ => rfl, fun _ _ => rfl, fun _ _ => Dsk.new_ok, fun j hj k hk => by
  show decO (secAt Dsk.new.now k) = false
  rw [new_now, sec_zero (by omega), decO_zeros]⟩
theorem qg_damage {N : Bch} (h : QG N) {d k : Nat} (hd : d < 4) (hk : k < 52) {x : List UInt8} (hx : x.length = 32) (hz : decO x = false) : QG (N.damage (d : Int) (k : Int) x) := by
  have hp : N.pickE (d : Int) = 0 := Bch.pickE_ok (by omega) (by rw [h.n]; omega)
  have e : N.damage (d : Int) (k : Int) x = N.set d ((N.D d).damage k x) := by
    unfold Bch.damage
    rw [if_neg (by simp [hp])]
    show N.set d ((N.D d).damageE (k : Int) x) = _
    unfold Dsk.damageE
    rw [if_pos (by rw [h.f d hd, hx]; exact takeE_ok (by omega) (by omega))]
    rfl
  rw [e]
  refine ⟨h.n, h.dn, h.lf, h.done, fun j hj => ?_, fun i hi => ?_, fun j hj => ?_, fun j hj q hq => ?_⟩
  · show (upd N.D d _ j).f = false
    by_cases c : j = d
    · subst c; rw [upd_same]; exact h.f j hj
    · rw [upd_other _ _ c]; exact h.f j hj
  · show (upd N.D d _ i).ps = []
    by_cases c : i = d
    · subst c; rw [upd_same]
      show (N.D i).ps.filter _ = []
      rw [h.ps i hi]; rfl
    · rw [upd_other _ _ c]; exact h.ps i hi
  · show (upd N.D d _ j).Ok
    by_cases c : j = d
    · subst c; rw [upd_same]; exact (h.ok j hj).damage hk hx
    · rw [upd_other _ _ c]; exact h.ok j hj
  · show decO (secAt (upd N.D d _ j).now q) = false
    by_cases c : j = d
    · subst c
      rw [upd_same, Dsk.damage_now (h.ok j hj) hk hx]
      by_cases e : q = k
      · subst e; rw [sec_put_same (h.ok j hj).now hk hx]; exact hz
      · rw [sec_put_other (h.ok j hj).now hk hx e]; exact h.no j hj q hq
    · rw [upd_other _ _ c]; exact h.no j hj q hq
theorem qg_slot {N : Bch} (h : QG N) {j k : Nat} (hj : j < 4) (hk : k < 2) : slotL (N.D j) k = [] := by
  unfold slotL
  rw [h.f j hj, if_neg (by decide), if_neg (by rw [h.no j hj k hk]; decide)]
section
variable {N M : Bch} {lv : List Bool} {s : Su} (h : QG N) (st : StG N M lv s) (hs : suOk s = true)
include h st hs
omit hs in
theorem only_same {d k : Nat} (hd : d < 4) (hn : ¬ (lv.getD d false = true ∧ k = slotI s.g)) : secAt (M.D d).now k = secAt (N.D d).now k := by
  rw [st.D d (by rw [h.n]; exact hd)]
  cases hl : lv.getD d false with
  | false => rw [stD_not hl]
  | true => rw [stD_sec (h.ok d hd) hl (h.f d hd), if_neg (fun e => hn ⟨hl, e⟩)]
omit hs in
theorem only_f {d : Nat} (hd : d < 4) : (M.D d).f = false := by rw [st.D d (by rw [h.n]; exact hd), stD_f]; exact h.f d hd
theorem only_dsk {d : Nat} (hd : d < 4) : dskSu (M.D d) = if lv.getD d false = true then [s] else [] := by
  rw [st.D d (by rw [h.n]; exact hd)]
  cases hl : lv.getD d false with
  | false =>
    rw [stD_not hl, if_neg (by decide)]
    unfold dskSu; rw [qg_slot h hd (by omega), qg_slot h hd (by omega)]; rfl
  | true =>
    rw [if_pos rfl]
    unfold dskSu
    rw [stD_slot hs (h.ok d hd) hl (h.f d hd) 0, stD_slot hs (h.ok d hd) hl (h.f d hd) 1, qg_slot h hd (by omega), qg_slot h hd (by omega)]
    have := slotI_lt s.g
    by_cases e : 0 = slotI s.g
    · rw [if_pos e, if_neg (by omega)]; rfl
    · rw [if_neg e, if_pos (by omega)]; rfl
theorem only_best (hex : ∃ j, j < 4 ∧ lv.getD j false = true) : bestE M = 0 ∧ bestS M = s ∧ (hasL M).length = 4 ∧ ∀ j, j < 4 → (hasL M).getD j false = lv.getD j false := by
  have hMn : M.n = 4 := st.n.trans h.n
  have hg := (suIn hs).g
  obtain ⟨b1, b2, b3⟩ := best_is (N := M) (t := s) st.dn hg.1 (fun j hj x hx => by
    rw [only_dsk h st hs (by rw [hMn] at hj; exact hj)] at hx
    split at hx
    · exact .inl (List.mem_singleton.1 hx)
    · cases hx) (by
    obtain ⟨j, hj, hl⟩ := hex
    exact ⟨j, by rw [hMn]; exact hj, by rw [only_dsk h st hs hj, if_pos hl]; exact List.mem_singleton.2 rfl⟩)
  refine ⟨b1, b2, by rw [b3, hMn]; rfl, fun j hj => ?_⟩
  rw [b3, hMn, List.getD_eq_getElem?_getD, List.getElem?_map, List.getElem?_range hj]
  show hasB M s j = _
  unfold hasB
  rw [only_dsk h st hs hj]
  cases hl : lv.getD j false with
  | false => rw [if_neg (by decide)]; rfl
  | true =>
    rw [if_pos rfl]
    show (decide (s.g - 1 ≤ s.g) || false) = true
    rw [decide_eq_true (by omega)]; rfl
end
end Go.Proofs.YtiipdhmfdgbmiaaDoor
