/- Texts put together: SlotGood. -/
import Derived.Test.YtiipdhmfdgbmiaaDoorTbas
import Derived.Test.YtiipdhmfdgbmiaaDoorTbav
section
set_option linter.unusedVariables false
set_option linter.unusedSimpArgs false
namespace Go.Proofs.YtiipdhmfdgbmiaaDoor

/-- What a Store makes of a disk. -/
def stD (lv : List Bool) (s : Su) (D : Dsk) (j : Nat) : Dsk := if lv.getD j false = true ∧ D.f = false then (D.write (slotI s.g) (suB s)).flush else D
structure StG (N M : Bch) (lv : List Bool) (s : Su) : Prop where
  n : M.n = N.n
  dn : M.down = false
  lf : M.left = -1
  D : ∀ j, j < N.n → M.D j = stD lv s (N.D j) j
  done : M.done = N.done + cntTo N lv (min N.n lv.length)
theorem store_good {N : Bch} {lv : List Bool} {s : Su} (hs : suOk s = true) (hd : N.down = false) (hl : N.left = -1) : (storeS N lv s).1 = 0 ∧ StG N (storeS N lv s).2 lv s := by
  obtain ⟨h0, g⟩ := wrote_good (lv := lv) (k := slotI s.g) (x := suB s) (by have := slotI_lt s.g; omega) (suB_len s) hd hl (min N.n lv.length) (by omega)
  have e : storeS N lv s = onTo flF lv (wroteS N lv s).2 (min N.n lv.length) := by
    unfold storeS; rw [if_neg (by simp [hs]), if_neg (fun h => h h0)]
  have g' : WrG N (wroteS N lv s).2 lv (slotI s.g) (suB s) (min N.n lv.length) := g
  obtain ⟨f0, f⟩ := flushed_good (N := (wroteS N lv s).2) (lv := lv) g'.dn (min N.n lv.length) (by rw [g'.n]; omega)
  rw [e]
  refine ⟨f0, f.n.trans g'.n, f.dn, f.lf.trans g'.lf, fun j hj => ?_, f.done.trans g'.done⟩
  rw [f.D j, g'.D j]
  unfold flD wrD stD
  by_cases hb : lv.getD j false = true
  · have hjl : j < lv.length := by
      rcases Nat.lt_or_ge j lv.length with h | h
      · exact h
      · rw [List.getD_eq_getElem?_getD, List.getElem?_eq_none h] at hb; cases hb
    cases hf : (N.D j).f with
    | true =>
      rw [if_neg (no3 rfl), if_neg (no2 rfl), if_pos ⟨by omega, hb⟩]
      unfold Dsk.flushE
      rw [if_pos hf]
    | false =>
      rw [if_pos (show j < min N.n lv.length ∧ lv.getD j false = true ∧ false = false from ⟨by omega, hb, rfl⟩), if_pos ⟨by omega, hb⟩, if_pos ⟨hb, rfl⟩]
      unfold Dsk.flushE
      rw [if_neg (by show ¬ (N.D j).f = true; simp [hf])]
  · rw [if_neg (fun h => hb h.2), if_neg (fun h => hb h.2.1), if_neg (fun h => hb h.1)]
theorem stD_f (lv : List Bool) (s : Su) (D : Dsk) (j : Nat) : (stD lv s D j).f = D.f := by unfold stD; split <;> rfl
theorem stD_ps (lv : List Bool) (s : Su) {D : Dsk} (j : Nat) (h : D.ps = []) : (stD lv s D j).ps = [] := by unfold stD; split; rfl; exact h
theorem stD_ok (lv : List Bool) (s : Su) {D : Dsk} (j : Nat) (h : D.Ok) : (stD lv s D j).Ok := by
  unfold stD; split
  · exact (h.write (by have := slotI_lt s.g; omega) (suB_len s)).flush
  · exact h
theorem stD_not {lv : List Bool} {s : Su} {D : Dsk} {j : Nat} (h : lv.getD j false = false) : stD lv s D j = D := if_neg (no1 h)
theorem stD_sec {lv : List Bool} {s : Su} {D : Dsk} {j : Nat} (ho : D.Ok) (h : lv.getD j false = true) (hf : D.f = false) (k : Nat) : secAt (stD lv s D j).now k = if k = slotI s.g then suB s else secAt D.now k := by
  have hk := slotI_lt s.g
  unfold stD
  rw [if_pos ⟨h, hf⟩, Dsk.flush_now, Dsk.write_now]
  split
  · rename_i e; subst e; exact sec_put_same ho.now (by omega) (suB_len s)
  · rename_i e; exact sec_put_other ho.now (by omega) (suB_len s) e
theorem stD_slot {lv : List Bool} {s : Su} {D : Dsk} {j : Nat} (hs : suOk s = true) (ho : D.Ok) (h : lv.getD j false = true) (hf : D.f = false) (k : Nat) : slotL (stD lv s D j) k = if k = slotI s.g then [s] else slotL D k := by
  unfold slotL
  rw [stD_f, hf, if_neg (show ¬ false = true by decide), if_neg (show ¬ false = true by decide), stD_sec ho h hf k]
  by_cases e : k = slotI s.g
  · rw [if_pos e, if_pos e, if_pos (decO_suB hs), decS_suB hs]
  · rw [if_neg e, if_neg e]
end Go.Proofs.YtiipdhmfdgbmiaaDoor
end
