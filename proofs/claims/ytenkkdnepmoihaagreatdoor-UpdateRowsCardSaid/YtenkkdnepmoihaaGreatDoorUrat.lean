/- Texts put together: LogGood, LogPutG, UpdMath, OwnIt, OwnItP, LogSmall, LogSettle. -/
import Derived.Test.YtenkkdnepmoihaaGreatDoorUras
import Derived.Test.YtenkkdnepmoihaaGreatDoorUram
import Derived.Test.YtenkkdnepmoihaaGreatDoorUrar
import Derived.Laws.AppendOwnNone
import Derived.Maps.AppendAt
import Derived.Test.YtenkkdnepmoihaaGreatDoorUrai
import Derived.Test.YtenkkdnepmoihaaGreatDoorUran
section
set_option linter.unusedVariables false
set_option linter.unusedSimpArgs false
namespace Go.Proofs.YtenkkdnepmoihaaGreatDoor

/-- What stands at sector k of disk j when these are done. -/
def lastI (l : List It) (j k : Nat) (s : List UInt8) : List UInt8 := l.foldl (fun s x => if x.d = (j : Int) ∧ x.a = (k : Int) then x.b else s) s
theorem lastI_snoc (l : List It) (x : It) (j k : Nat) (s : List UInt8) : lastI (l ++ [x]) j k s = if x.d = (j : Int) ∧ x.a = (k : Int) then x.b else lastI l j k s := by
  unfold lastI; rw [List.foldl_append]; rfl
theorem lastI_none : ∀ {l : List It} {j k : Nat} {s : List UInt8}, (∀ x ∈ l, ¬ (x.d = (j : Int) ∧ x.a = (k : Int))) → lastI l j k s = s
  | [], _, _, _, _ => rfl
  | x :: l, j, k, s, h => by
    show lastI l j k (if x.d = (j : Int) ∧ x.a = (k : Int) then x.b else s) = s
    rw [if_neg (h x (List.mem_cons_self ..))]
    exact lastI_none fun y hy => h y (List.mem_cons_of_mem _ hy)
/-- One of them goes there, and those that go there are alike. -/
theorem lastI_one : ∀ {l : List It} {j k : Nat} {s v : List UInt8}, (∀ x ∈ l, x.d = (j : Int) ∧ x.a = (k : Int) → x.b = v) → (s = v ∨ ∃ x ∈ l, x.d = (j : Int) ∧ x.a = (k : Int)) → lastI l j k s = v
  | [], _, _, _, _, _, h => by
    rcases h with h | ⟨x, hx, _⟩
    · exact h
    · cases hx
  | x :: l, j, k, s, v, ha, h => by
    show lastI l j k (if x.d = (j : Int) ∧ x.a = (k : Int) then x.b else s) = v
    refine lastI_one (fun y hy => ha y (List.mem_cons_of_mem _ hy)) ?_
    by_cases hx : x.d = (j : Int) ∧ x.a = (k : Int)
    · rw [if_pos hx]; exact .inl (ha x (List.mem_cons_self ..) hx)
    · rw [if_neg hx]
      rcases h with h | ⟨y, hy, e⟩
      · exact .inl h
      · rcases List.mem_cons.1 hy with rfl | hy
        · exact absurd e hx
        · exact .inr ⟨y, hy, e⟩
structure GoodB (N : Bch) : Prop where
  dn : N.down = false
  lf : N.left = -1
  ok : ∀ j, j < N.n → (N.D j).Ok
  ps : ∀ j, j < N.n → (N.D j).ps = []
def FitI (n : Nat) (l : List It) : Prop := ∀ x ∈ l, 0 ≤ x.d ∧ x.d < (n : Int) ∧ 0 ≤ x.a ∧ x.a < 52 ∧ x.b.length = 32
structure WtG (N M : Bch) (l : List It) : Prop where
  n : M.n = N.n
  dn : M.down = false
  lf : M.left = -1
  f : ∀ j, j < N.n → (M.D j).f = (N.D j).f
  ok : ∀ j, j < N.n → (M.D j).Ok
  sec : ∀ j, j < N.n → (N.D j).f = false → ∀ k, k < 52 → secAt (M.D j).now k = lastI l j k (secAt (N.D j).now k)
  ps : ∀ j, j < N.n → (M.D j).ps ≠ [] → ∃ x ∈ l, x.d = (j : Int)
  done : M.done ≤ N.done + l.length
  bad : ∀ j, j < N.n → (N.D j).f = true → M.D j = N.D j
theorem wrote_goodI {N : Bch} {l : List It} (hg : GoodB N) (hl : FitI N.n l) : ∀ i, i ≤ l.length → (runTo itWr l N i).1 = 0 ∧ WtG N (runTo itWr l N i).2 (l.take i)
  | 0, _ => ⟨rfl, rfl, hg.dn, hg.lf, fun _ _ => rfl, hg.ok, fun _ _ _ _ _ => by rw [List.take_zero]; rfl, fun j hj h => absurd (hg.ps j hj) h, Nat.le_add_right _ _, fun _ _ _ => rfl⟩
  | i + 1, hi => by
    obtain ⟨h0, g⟩ := wrote_goodI hg hl i (by omega)
    have hx := hl _ (itN_mem (l := l) (k := i) (by omega))
    have htk := its_take (l := l) (i := i) (by omega)
    generalize hxx : itN l i = x at hx htk
    obtain ⟨d, hd⟩ : ∃ d : Nat, x.d = (d : Int) := ⟨x.d.toNat, by omega⟩
    obtain ⟨k, hk⟩ : ∃ k : Nat, x.a = (k : Int) := ⟨x.a.toNat, by omega⟩
    have hdn : d < N.n := by omega
    have hk52 : k < 52 := by omega
    have hpw : (runTo itWr l N i).2.powE (d : Int) = 0 := Bch.powE_ok (Bch.pickE_ok (by omega) (by rw [g.n]; omega)) g.dn
    have hlen : (l.take i).length = i := by simp; omega
    rw [htk]
    cases hf : (N.D d).f with
    | true =>
      have hfm : ((runTo itWr l N i).2.at_ (d : Int)).f = true := (g.f d hdn).trans hf
      have ht : takeE ((runTo itWr l N i).2.at_ (d : Int)).f (k : Int) x.b.length = 5 := by rw [hfm]; exact takeE_fail _ _
      have e1 : (itWr (runTo itWr l N i).2 x).1 = 5 := by
        show (runTo itWr l N i).2.writeE x.d x.a _ = 5
        rw [hd, hk]
        unfold Bch.writeE; rw [if_neg (by simp [hpw]), if_pos (by rw [ht]; decide), ht]
      have e2 : (itWr (runTo itWr l N i).2 x).2 = (runTo itWr l N i).2 := by
        show (runTo itWr l N i).2.write x.d x.a _ = _
        rw [hd, hk]
        unfold Bch.write; rw [if_neg (by simp [hpw]), if_pos (by rw [ht]; decide)]
      rw [runTo_pass h0 (by rw [hxx]; exact e1), hxx, e2]
      refine ⟨rfl, g.n, g.dn, g.lf, g.f, g.ok, fun j hj hfj kk hkk => ?_, fun j hj h => ?_, ?_, g.bad⟩
      · rw [lastI_snoc, if_neg (fun e => by have : d = j := by omega
                                            subst this; rw [hf] at hfj; cases hfj)]
        exact g.sec j hj hfj kk hkk
      · obtain ⟨y, hy, e⟩ := g.ps j hj h
        exact ⟨y, List.mem_append.2 (.inl hy), e⟩
      · have := g.done; rw [List.length_append]; show (runTo itWr l N i).2.done ≤ _; omega
    | false =>
      have hw := Bch.write_ok (N := (runTo itWr l N i).2) (d := d) (k := k) (x := x.b) (by rw [g.n]; omega) hk52 hx.2.2.2.2 ((g.f d hdn).trans hf) g.dn (by rw [g.lf]; decide)
      rw [Bch.count_free (by exact g.lf)] at hw
      have e1 : (itWr (runTo itWr l N i).2 x).1 = 0 := by
        show (runTo itWr l N i).2.writeE x.d x.a _ = 0
        rw [hd, hk]; exact hw.1
      have e2 : (itWr (runTo itWr l N i).2 x).2 = { (runTo itWr l N i).2.set d (((runTo itWr l N i).2.D d).write k x.b) with done := ((runTo itWr l N i).2.set d (((runTo itWr l N i).2.D d).write k x.b)).done + 1 } := by
        show (runTo itWr l N i).2.write x.d x.a _ = _
        rw [hd, hk]; exact hw.2
      rw [runTo_goes h0 (by rw [hxx, e1]; decide), hxx]
      refine ⟨e1, ?_⟩
      rw [e2]
      have hDj : ∀ j, j ≠ d → upd (runTo itWr l N i).2.D d (((runTo itWr l N i).2.D d).write k x.b) j = (runTo itWr l N i).2.D j := fun j hj => upd_other _ _ hj
      have hDd : upd (runTo itWr l N i).2.D d (((runTo itWr l N i).2.D d).write k x.b) d = ((runTo itWr l N i).2.D d).write k x.b := upd_same _ _ _
      refine ⟨g.n, g.dn, g.lf, fun j hj => ?_, fun j hj => ?_, fun j hj hfj kk hkk => ?_, fun j hj h => ?_, ?_, fun j hj hfj => ?_⟩
      · show Dsk.f (upd _ d _ j) = _
        by_cases e : j = d
        · subst e; rw [hDd]; exact g.f j hj
        · rw [hDj j e]; exact g.f j hj
      · show Dsk.Ok (upd _ d _ j)
        by_cases e : j = d
        · subst e; rw [hDd]; exact (g.ok j hj).write hk52 hx.2.2.2.2
        · rw [hDj j e]; exact g.ok j hj
      · show secAt (Dsk.now (upd _ d _ j)) kk = _
        rw [lastI_snoc]
        by_cases e : j = d
        · subst e
          rw [hDd, Dsk.write_now]
          by_cases e2 : kk = k
          · subst e2; rw [if_pos ⟨hd, hk⟩]; exact sec_put_same (g.ok j hj).now hk52 hx.2.2.2.2
          · rw [if_neg (fun q => e2 (by omega)), sec_put_other (g.ok j hj).now hk52 hx.2.2.2.2 e2]
            exact g.sec j hj hfj kk hkk
        · rw [hDj j e, if_neg (fun q => e (by omega))]
          exact g.sec j hj hfj kk hkk
      · by_cases e : j = d
        · exact ⟨x, List.mem_append.2 (.inr (List.mem_singleton.2 rfl)), by rw [hd, e]⟩
        · obtain ⟨y, hy, e'⟩ := g.ps j hj (by rw [← hDj j e]; exact h)
          exact ⟨y, List.mem_append.2 (.inl hy), e'⟩
      · have := g.done; rw [List.length_append]; show (runTo itWr l N i).2.done + 1 ≤ _; simp only [List.length_singleton]; omega
      · show upd (α := Dsk) _ d _ j = _
        rw [hDj j (fun e => by subst e; rw [hf] at hfj; cases hfj)]; exact g.bad j hj hfj
structure FtG (M M2 : Bch) (l : List It) : Prop where
  n : M2.n = M.n
  dn : M2.down = false
  lf : M2.left = M.left
  f : ∀ j, j < M.n → (M2.D j).f = (M.D j).f
  ok : ∀ j, j < M.n → (M2.D j).Ok
  now : ∀ j, j < M.n → (M2.D j).now = (M.D j).now
  ps : ∀ j, j < M.n → (M.D j).f = false → (∃ x ∈ l, x.d = (j : Int)) → (M2.D j).ps = []
  ps2 : ∀ j, j < M.n → (M.D j).ps = [] → (M2.D j).ps = []
  done : M2.done = M.done
  bad : ∀ j, j < M.n → (M.D j).f = true → M2.D j = M.D j
theorem flush_goodI {M : Bch} {l : List It} (hdn : M.down = false) (hok : ∀ j, j < M.n → (M.D j).Ok) (hl : FitI M.n l) : ∀ i, i ≤ l.length → (runTo itFl l M i).1 = 0 ∧ FtG M (runTo itFl l M i).2 (l.take i)
  | 0, _ => ⟨rfl, rfl, hdn, rfl, fun _ _ => rfl, hok, fun _ _ => rfl, fun j hj _ h => (by obtain ⟨x, hx, _⟩ := h; rw [List.take_zero] at hx; cases hx), fun _ _ h => h, rfl, fun _ _ _ => rfl⟩
  | i + 1, hi => by
    obtain ⟨h0, g⟩ := flush_goodI hdn hok hl i (by omega)
    have hx := hl _ (itN_mem (l := l) (k := i) (by omega))
    have htk := its_take (l := l) (i := i) (by omega)
    generalize hxx : itN l i = x at hx htk
    obtain ⟨d, hd⟩ : ∃ d : Nat, x.d = (d : Int) := ⟨x.d.toNat, by omega⟩
    have hdn' : d < M.n := by omega
    have hpw : (runTo itFl l M i).2.powE (d : Int) = 0 := Bch.powE_ok (Bch.pickE_ok (by omega) (by rw [g.n]; omega)) g.dn
    have e2 : (itFl (runTo itFl l M i).2 x).2 = (runTo itFl l M i).2.set d ((runTo itFl l M i).2.D d).flushE := by
      show (runTo itFl l M i).2.flush x.d = _
      rw [hd]
      unfold Bch.flush; rw [if_neg (by simp [hpw])]; rfl
    rw [htk]
    have hDj : ∀ j, j ≠ d → upd (runTo itFl l M i).2.D d ((runTo itFl l M i).2.D d).flushE j = (runTo itFl l M i).2.D j := fun j hj => upd_other _ _ hj
    have hDd : upd (runTo itFl l M i).2.D d ((runTo itFl l M i).2.D d).flushE d = ((runTo itFl l M i).2.D d).flushE := upd_same _ _ _
    have hE : ∀ D : Dsk, D.flushE.f = D.f ∧ D.flushE.now = D.now ∧ (D.Ok → D.flushE.Ok) ∧ (D.f = false → D.flushE.ps = []) ∧ (D.ps = [] → D.flushE.ps = []) ∧ (D.f = true → D.flushE = D) := fun D => by
      unfold Dsk.flushE
      cases hfd : D.f with
      | true => rw [if_pos rfl]; exact ⟨hfd, rfl, id, (fun h => by cases h), id, fun _ => rfl⟩
      | false => rw [if_neg (by decide)]; exact ⟨hfd, rfl, fun h => h.flush, fun _ => rfl, fun _ => rfl, (fun h => by cases h)⟩
    have hg : FtG M ((runTo itFl l M i).2.set d ((runTo itFl l M i).2.D d).flushE) (l.take i ++ [x]) := by
      refine ⟨g.n, g.dn, g.lf, fun j hj => ?_, fun j hj => ?_, fun j hj => ?_, fun j hj hf h => ?_, fun j hj h => ?_, g.done, fun j hj hf => ?_⟩
      · show Dsk.f (upd _ d _ j) = _
        by_cases e : j = d
        · subst e; rw [hDd, (hE _).1]; exact g.f j hj
        · rw [hDj j e]; exact g.f j hj
      · show Dsk.Ok (upd _ d _ j)
        by_cases e : j = d
        · subst e; rw [hDd]; exact (hE _).2.2.1 (g.ok j hj)
        · rw [hDj j e]; exact g.ok j hj
      · show Dsk.now (upd _ d _ j) = _
        by_cases e : j = d
        · subst e; rw [hDd, (hE _).2.1]; exact g.now j hj
        · rw [hDj j e]; exact g.now j hj
      · show Dsk.ps (upd _ d _ j) = _
        by_cases e : j = d
        · subst e; rw [hDd]; exact (hE _).2.2.2.1 ((g.f j hj).trans hf)
        · rw [hDj j e]
          obtain ⟨y, hy, e'⟩ := h
          rcases List.mem_append.1 hy with hy | hy
          · exact g.ps j hj hf ⟨y, hy, e'⟩
          · rw [List.mem_singleton.1 hy, hd] at e'; omega
      · show Dsk.ps (upd _ d _ j) = _
        by_cases e : j = d
        · subst e; rw [hDd]; exact (hE _).2.2.2.2.1 (g.ps2 j hj h)
        · rw [hDj j e]; exact g.ps2 j hj h
      · show upd (α := Dsk) _ d _ j = _
        by_cases e : j = d
        · subst e; rw [hDd, (hE _).2.2.2.2.2 ((g.f j hj).trans hf)]; exact g.bad j hj hf
        · rw [hDj j e]; exact g.bad j hj hf
    cases hf : (M.D d).f with
    | true =>
      have e1 : (itFl (runTo itFl l M i).2 x).1 = 5 := by
        show (runTo itFl l M i).2.flushE x.d = 5
        rw [hd]
        unfold Bch.flushE; rw [if_neg (by simp [hpw]), if_pos]
        exact (g.f d hdn').trans hf
      rw [runTo_pass h0 (by rw [hxx]; exact e1), hxx, e2]
      exact ⟨rfl, hg⟩
    | false =>
      have e1 : (itFl (runTo itFl l M i).2 x).1 = 0 := by
        show (runTo itFl l M i).2.flushE x.d = 0
        rw [hd]
        unfold Bch.flushE; rw [if_neg (by simp [hpw]), if_neg]
        show ¬ ((runTo itFl l M i).2.D d).f = true
        rw [g.f d hdn', hf]; decide
      rw [runTo_goes h0 (by rw [hxx, e1]; decide), hxx]
      exact ⟨e1, by rw [e2]; exact hg⟩
/-- What is settled stands there, and nothing is pending. -/
structure StI (N M : Bch) (l : List It) : Prop where
  n : M.n = N.n
  good : GoodB M
  f : ∀ j, j < N.n → (M.D j).f = (N.D j).f
  sec : ∀ j, j < N.n → (N.D j).f = false → ∀ k, k < 52 → secAt (M.D j).now k = lastI l j k (secAt (N.D j).now k)
  done : M.done ≤ N.done + l.length
  bad : ∀ j, j < N.n → (N.D j).f = true → M.D j = N.D j
theorem settle_good {N : Bch} {l : List It} (hg : GoodB N) (hl : FitI N.n l) : (settleS N l).1 = 0 ∧ StI N (settleS N l).2 l := by
  obtain ⟨h0, g⟩ := wrote_goodI hg hl l.length (Nat.le_refl _)
  rw [List.take_length] at g
  have h0' : (wroteI N l).1 = 0 := h0
  have g' : WtG N (wroteI N l).2 l := g
  have e : settleS N l = runTo itFl l (wroteI N l).2 l.length := if_neg (fun h => h h0')
  obtain ⟨f0, f⟩ := flush_goodI (M := (wroteI N l).2) (l := l) g'.dn (fun j hj => g'.ok j (by rw [g'.n] at hj; exact hj)) (by rw [g'.n]; exact hl) l.length (Nat.le_refl _)
  rw [List.take_length] at f
  have hn := g'.n
  rw [e]
  refine ⟨f0, f.n.trans hn, ⟨f.dn, f.lf.trans g'.lf, fun j hj => f.ok j (by rw [f.n] at hj; exact hj), fun j hj => ?_⟩, fun j hj => (f.f j (by rw [hn]; exact hj)).trans (g'.f j hj), fun j hj hf k hk => ?_, by rw [f.done]; exact g'.done, fun j hj hf => ?_⟩
  · have hj1 : j < (wroteI N l).2.n := by rw [f.n] at hj; exact hj
    have hj2 : j < N.n := by rw [← hn]; exact hj1
    by_cases hp : ((wroteI N l).2.D j).ps = []
    · exact f.ps2 j hj1 hp
    · cases hf : ((wroteI N l).2.D j).f with
      | false => exact f.ps j hj1 hf (g'.ps j hj2 hp)
      | true => exact absurd (by rw [g'.bad j hj2 (by rw [← g'.f j hj2]; exact hf)]; exact hg.ps j hj2) hp
  · rw [f.now j (by rw [hn]; exact hj)]; exact g'.sec j hj hf k hk
  · rw [f.bad j (by rw [hn]; exact hj) (by rw [g'.f j hj]; exact hf)]; exact g'.bad j hj hf
end Go.Proofs.YtenkkdnepmoihaaGreatDoor
end
section
set_option linter.unusedVariables false
set_option linter.unusedSimpArgs false
namespace Go.Proofs.YtenkkdnepmoihaaGreatDoor

theorem logR_ext {D : Dsk} {rs : List (List UInt8)} (hl : rs.length = 4) (h : ∀ k, k < 4 → secAt D.now (2 + k) = rs.getD k []) : logR D = rs := by
  apply List.ext_getElem (by simp [logR, hl])
  intro k h1 h2
  have hk : k < 4 := by omega
  have := h k hk
  rw [List.getD_eq_getElem?_getD, List.getElem?_eq_getElem h2] at this
  simpa [logR] using this
theorem logR_same {D D' : Dsk} (h : ∀ k, k < 52 → secAt D'.now k = secAt D.now k) : logR D' = logR D :=
  List.map_congr_left fun k hk => h _ (by have := List.mem_range.1 hk; omega)
theorem gone_good {N : Bch} (h : N.down = false) (j : Nat) : goneD N j = (N.D j).f := by unfold goneD; rw [h]; rfl
theorem onS_f {N : Bch} {j : Nat} (hd : N.down = false) (h : (N.D j).f = true) : onS N j = 0 ∧ onL N j = [] ∧ onB N j = false := by
  have e : goneD N j = true := (gone_good hd j).trans h
  exact ⟨if_pos e, if_pos e, if_pos e⟩
theorem onS_ok {N : Bch} {j : Nat} (hd : N.down = false) (h : (N.D j).f = false) : onS N j = rcS (logR (N.D j)) ∧ onL N j = rcL (logR (N.D j)) ∧ onB N j = rcO (logR (N.D j)) := by
  have e : ¬ goneD N j = true := by rw [gone_good hd j, h]; decide
  exact ⟨if_neg e, if_neg e, if_neg e⟩
theorem onS_alike {N M : Bch} {j : Nat} (hd : N.down = false) (hd' : M.down = false) (hf : (M.D j).f = (N.D j).f) (h : logR (M.D j) = logR (N.D j)) : onS M j = onS N j ∧ onL M j = onL N j := by
  cases hff : (N.D j).f with
  | true => rw [(onS_f hd hff).1, (onS_f hd hff).2.1, (onS_f hd' (hf.trans hff)).1, (onS_f hd' (hf.trans hff)).2.1]; exact ⟨rfl, rfl⟩
  | false => rw [(onS_ok hd hff).1, (onS_ok hd hff).2.1, (onS_ok hd' (hf.trans hff)).1, (onS_ok hd' (hf.trans hff)).2.1, h]; exact ⟨rfl, rfl⟩
theorem onS_rec {M : Bch} {j : Nat} {s : Int} {l : List It} (hd : M.down = false) (hf : (M.D j).f = false) (hk : recOk s l = true) (h : logR (M.D j) = recB s l) : onS M j = s ∧ onL M j = l := by
  rw [(onS_ok hd hf).1, (onS_ok hd hf).2.1, h]; exact ⟨rcS_recB hk, rcL_recB hk⟩
structure PtG (N M : Bch) (lv : List Bool) (s : Int) (l : List It) : Prop where
  n : M.n = N.n
  good : GoodB M
  f : ∀ j, j < N.n → (M.D j).f = (N.D j).f
  done : M.done ≤ N.done + 32
  put : ∀ j, j < N.n → liveD N.n lv (j : Int) = true → (N.D j).f = false → onS M j = s ∧ onL M j = l
  not : ∀ j, j < N.n → ¬ (liveD N.n lv (j : Int) = true ∧ (N.D j).f = false) → onS M j = onS N j ∧ onL M j = onL N j
theorem fit_put {N : Bch} {lv : List Bool} {s : Int} {l : List It} (hk : recOk s l = true) : FitI N.n (putTo N.n lv (recB s l) N.n) := fun x hx => by
  obtain ⟨j, k, hj, hk4, _, rfl⟩ := mem_put.1 hx
  have h4 := ((sect_iff _).1 (sect_recB hk)).1
  exact ⟨by show (0 : Int) ≤ (j : Int); omega, by show (j : Int) < _; omega, by show (0 : Int) ≤ ((2 + k : Nat) : Int); omega, by show ((2 + k : Nat) : Int) < 52; omega, sect_get (sect_recB hk) k (by omega)⟩
theorem put_good {N : Bch} {lv : List Bool} {s : Int} {l : List It} (hg : GoodB N) (hn : N.n ≤ 8) (hk : recOk s l = true) : (putS N lv s l).1 = 0 ∧ PtG N (putS N lv s l).2 lv s l := by
  obtain ⟨h0, g⟩ := settle_good hg (fit_put (lv := lv) hk)
  have e : putS N lv s l = settleS N (putTo N.n lv (recB s l) N.n) := if_pos hk
  have h4 := ((sect_iff _).1 (sect_recB hk)).1
  rw [e]
  refine ⟨h0, g.n, g.good, g.f, ?_, fun j hj hl hf => ?_, fun j hj h => ?_⟩
  · have h1 := putTo_len N.n lv (recB s l) N.n
    have h2 : N.n * (recB s l).length ≤ 32 := by rw [h4]; omega
    have := g.done; omega
  · refine onS_rec g.good.dn ((g.f j hj).trans hf) hk (logR_ext h4 fun k hk4 => ?_)
    rw [g.sec j hj hf (2 + k) (by omega)]
    refine lastI_one (fun x hx he => ?_) (.inr ⟨secIt j (recB s l) k, mem_put.2 ⟨j, k, hj, by omega, hl, rfl⟩, rfl, rfl⟩)
    obtain ⟨j', k', _, _, _, rfl⟩ := mem_put.1 hx
    have h2 : ((2 + k' : Nat) : Int) = ((2 + k : Nat) : Int) := he.2
    obtain rfl : k' = k := by omega
    rfl
  · cases hf : (N.D j).f with
    | true => rw [(onS_f hg.dn hf).1, (onS_f hg.dn hf).2.1, (onS_f g.good.dn ((g.f j hj).trans hf)).1, (onS_f g.good.dn ((g.f j hj).trans hf)).2.1]; exact ⟨rfl, rfl⟩
    | false =>
      have hl : liveD N.n lv (j : Int) = false := by rw [← Bool.not_eq_true]; exact fun q => h ⟨q, hf⟩
      refine onS_alike hg.dn g.good.dn (g.f j hj) (logR_same fun k hk52 => ?_)
      rw [g.sec j hj hf k hk52]
      refine lastI_none fun x hx he => ?_
      obtain ⟨j', k', _, _, hl', rfl⟩ := mem_put.1 hx
      have h2 : ((j' : Nat) : Int) = (j : Int) := he.1
      obtain rfl : j' = j := by omega
      rw [hl] at hl'; cases hl'
structure ApG (N M : Bch) (lv : List Bool) (l : List It) : Prop where
  n : M.n = N.n
  good : GoodB M
  f : ∀ j, j < N.n → (M.D j).f = (N.D j).f
  done : M.done ≤ N.done + 3
  has : ∀ j, j < N.n → onS M j = onS N j ∧ onL M j = onL N j
  sec : ∀ j, j < N.n → (N.D j).f = false → ∀ k, k < 52 → secAt (M.D j).now k = lastI (l.filter (liveI N.n lv)) j k (secAt (N.D j).now k)
  at' : ∀ x ∈ l, liveD N.n lv x.d = true → (N.D x.d.toNat).f = false → secAt (M.D x.d.toNat).now x.a.toNat = x.b
  not : ∀ j, j < N.n → (N.D j).f = false → ∀ k : Nat, k < 52 → (∀ x ∈ l, liveD N.n lv x.d = true → ¬ (x.d = (j : Int) ∧ x.a = (k : Int))) → secAt (M.D j).now k = secAt (N.D j).now k
theorem recOk_once {s : Int} {l : List It} (h : recOk s l = true) (x y : It) (hx : x ∈ l) (hy : y ∈ l) (hd : x.d = y.d) (ha : x.a = y.a) : x = y := by
  obtain ⟨i, hi, ei⟩ := List.getElem_of_mem hx
  obtain ⟨j, hj, ej⟩ := List.getElem_of_mem hy
  have hi2 : itN l i = x := by rw [← ei]; simp [itN, List.getD_eq_getElem?_getD, hi]
  have hj2 : itN l j = y := by rw [← ej]; simp [itN, List.getD_eq_getElem?_getD, hj]
  have hf := (fineN_iff _ _).1 ((recOk_iff s l).1 h).2
  have hm : meetsB x y = true := (meetsB_iff _ _).2 ⟨hd, ha⟩
  have hm2 : meetsB y x = true := (meetsB_iff _ _).2 ⟨hd.symm, ha.symm⟩
  rcases Nat.lt_trichotomy i j with q | q | q
  · have := (hf j hj).2 i q; rw [hi2, hj2, hm2] at this; cases this
  · subst q; exact hi2.symm.trans hj2
  · have := (hf i hi).2 j q; rw [hi2, hj2, hm] at this; cases this
theorem app_good {N : Bch} {lv : List Bool} {s : Int} {l : List It} (hg : GoodB N) (hk : recOk s l = true) : (appS N lv s l).1 = 0 ∧ ApG N (appS N lv s l).2 lv l := by
  have hfit : FitI N.n (l.filter (liveI N.n lv)) := fun x hx => by
    obtain ⟨h1, h2⟩ := List.mem_filter.1 hx
    have h3 := recOk_may hk x h1
    unfold liveI liveD at h2
    have h4 : x.d < (N.n : Int) := by
      have := (Bool.and_eq_true_iff.1 h2).1
      exact of_decide_eq_true this
    exact ⟨h3.1, h4, by omega, h3.2.2.2.1, h3.2.2.2.2⟩
  obtain ⟨h0, g⟩ := settle_good hg hfit
  have e : appS N lv s l = settleS N (l.filter (liveI N.n lv)) := if_pos hk
  have hl3 := ((recOk_iff s l).1 hk).1.2.2
  have hlen := List.length_filter_le (liveI N.n lv) l
  rw [e]
  have hnot : ∀ j, j < N.n → (N.D j).f = false → ∀ k : Nat, k < 52 → (∀ x ∈ l, liveD N.n lv x.d = true → ¬ (x.d = (j : Int) ∧ x.a = (k : Int))) → secAt ((settleS N (l.filter (liveI N.n lv))).2.D j).now k = secAt (N.D j).now k := fun j hj hf k hk52 h => by
    rw [g.sec j hj hf k hk52]
    exact lastI_none fun x hx he => h x (List.mem_filter.1 hx).1 (List.mem_filter.1 hx).2 he
  refine ⟨h0, g.n, g.good, g.f, by have := g.done; omega, fun j hj => ?_, g.sec, fun x hx hl hf => ?_, hnot⟩
  · cases hf : (N.D j).f with
    | true => rw [(onS_f hg.dn hf).1, (onS_f hg.dn hf).2.1, (onS_f g.good.dn ((g.f j hj).trans hf)).1, (onS_f g.good.dn ((g.f j hj).trans hf)).2.1]; exact ⟨rfl, rfl⟩
    | false =>
      refine onS_alike hg.dn g.good.dn (g.f j hj) (List.map_congr_left fun k hk4 => hnot j hj hf (2 + k) (by have := List.mem_range.1 hk4; omega) fun x hx _ he => ?_)
      have h3 := recOk_may hk x hx
      have := List.mem_range.1 hk4
      omega
  · have h3 := recOk_may hk x hx
    have hmem : x ∈ l.filter (liveI N.n lv) := List.mem_filter.2 ⟨hx, hl⟩
    have hn := (hfit x hmem).2.1
    rw [g.sec x.d.toNat (by omega) hf x.a.toNat (by omega)]
    refine lastI_one (fun y hy he => ?_) (.inr ⟨x, hmem, by omega, by omega⟩)
    rw [recOk_once hk y x (List.mem_filter.1 hy).1 hx (by omega) (by omega)]
theorem goodB_new (n : Nat) : GoodB (Bch.new n) := ⟨rfl, rfl, fun _ _ => Dsk.new_ok, fun _ _ => rfl⟩
end Go.Proofs.YtenkkdnepmoihaaGreatDoor
end
section
set_option linter.unusedVariables false
set_option linter.unusedSimpArgs false
namespace Go.Proofs.YtenkkdnepmoihaaGreatDoor

/-- The Items of those disks that serve. -/
def upIts (N : Bch) (lv : List Bool) (a : Nat) (xs : List (List UInt8)) (ks : List Nat) : List It := (ks.filter (srvD N lv)).map fun k : Nat => ⟨(k : Int), (a : Int), xs.getD k []⟩
def upE (N : Bch) (lv : List Bool) (l d c n : Int) (x : List UInt8) : Int := if x.length ≠ 32 then 1 else if plOfOk l d c n = false then 4 else srdE N lv l d c (plOfR l d c n)
def upX (N : Bch) (lv : List Bool) (l d c n : Int) (x : List UInt8) : List (List UInt8) := (srdL N lv l d c (plOfR l d c n)).set (kOf l d c n) x
def upK (l d c n : Int) : List Nat := (plOfD l d c n).toNat :: (plP l d c (plOfR l d c n)).toNat :: if l = 6 then [(plQ l d c (plOfR l d c n)).toNat] else []
def upL (N : Bch) (lv : List Bool) (l d c n : Int) (x : List UInt8) : List It :=
  if upE N lv l d c n x ≠ 0 then [] else upIts N lv (36 + (plOfR l d c n).toNat) (fillL (roD d) (roF l d c (plOfR l d c n)) (upX N lv l d c n x)) (upK l d c n)
def upS (N : Bch) (lv : List Bool) (l d c n : Int) (x : List UInt8) (s : Int) : Int := if upE N lv l d c n x ≠ 0 then 0 else s
def doS (N : Bch) (lv : List Bool) (l d c n : Int) (x : List UInt8) (s : Int) : Int × Bch :=
  if upE N lv l d c n x ≠ 0 then (upE N lv l d c n x, N) else
  if (putS N lv s (upL N lv l d c n x)).1 ≠ 0 then putS N lv s (upL N lv l d c n x) else appS (putS N lv s (upL N lv l d c n x)).2 lv s (upL N lv l d c n x)
theorem upL_no {N : Bch} {lv : List Bool} {l d c n : Int} {x : List UInt8} (h : upE N lv l d c n x ≠ 0) : upL N lv l d c n x = [] := if_pos h
theorem upS_no {N : Bch} {lv : List Bool} {l d c n : Int} {x : List UInt8} {s : Int} (h : upE N lv l d c n x ≠ 0) : upS N lv l d c n x s = 0 := if_pos h
theorem doS_n (N : Bch) (lv : List Bool) (l d c n : Int) (x : List UInt8) (s : Int) : (doS N lv l d c n x s).2.n = N.n := by
  unfold doS
  repeat' split
  · rfl
  · exact put_n _ _ _ _
  · exact (app_n _ _ _ _).trans (put_n _ _ _ _)
/-- Items of one row may be written. -/
theorem its_ok {s : Int} {ks : List Nat} {a : Nat} {xs : List (List UInt8)} (hs : 1 ≤ s ∧ s ≤ 2147483647) (hn : ks.Nodup) (h3 : ks.length ≤ 3) (h8 : ∀ k ∈ ks, k < 8) (ha : 36 ≤ a ∧ a < 52) (hx : ∀ k ∈ ks, (xs.getD k []).length = 32) :
    recOk s (ks.map fun k : Nat => ⟨(k : Int), (a : Int), xs.getD k []⟩) = true := by
  have hat : ∀ k (hk : k < ks.length), itN (ks.map fun k : Nat => (⟨(k : Int), (a : Int), xs.getD k []⟩ : It)) k = ⟨((ks[k] : Nat) : Int), (a : Int), xs.getD ks[k] []⟩ := fun k hk => by
    unfold itN
    rw [List.getD_eq_getElem?_getD, List.getElem?_map, List.getElem?_eq_getElem hk]
    rfl
  refine (recOk_iff _ _).2 ⟨⟨hs.1, hs.2, by rw [List.length_map]; exact h3⟩, (fineN_iff _ _).2 fun k hk => ?_⟩
  rw [List.length_map] at hk
  rw [hat k hk]
  have hm := List.getElem_mem hk
  have h1 := h8 _ hm
  refine ⟨(mayB_iff _).2 ⟨by show (0 : Int) ≤ ((ks[k] : Nat) : Int); omega, by show ((ks[k] : Nat) : Int) < 8; omega, by show (36 : Int) ≤ (a : Int); omega, by show (a : Int) < 52; omega, hx _ hm⟩, fun j hj => ?_⟩
  rw [hat j (by omega)]
  rw [← Bool.not_eq_true]
  intro e
  have e1 : ((ks[k] : Nat) : Int) = ((ks[j]'(by omega) : Nat) : Int) := ((meetsB_iff _ _).1 e).1
  have := (List.pairwise_iff_getElem.1 hn) j k (by omega) hk hj
  exact this (by omega)
theorem fil_nodup {ks : List Nat} (p : Nat → Bool) (h : ks.Nodup) : (ks.filter p).Nodup := List.Pairwise.filter p h
theorem upIts_ok {N : Bch} {lv : List Bool} {s : Int} {ks : List Nat} {a : Nat} {xs : List (List UInt8)} (hs : 1 ≤ s ∧ s ≤ 2147483647) (hn : ks.Nodup) (h3 : ks.length ≤ 3) (h8 : ∀ k ∈ ks, k < 8) (ha : 36 ≤ a ∧ a < 52) (hx : ∀ k ∈ ks, (xs.getD k []).length = 32) : recOk s (upIts N lv a xs ks) = true :=
  its_ok hs (fil_nodup _ hn) (Nat.le_trans (List.length_filter_le _ _) h3) (fun k hk => h8 k (List.mem_filter.1 hk).1) ha (fun k hk => hx k (List.mem_filter.1 hk).1)
theorem mem_upIts {N : Bch} {lv : List Bool} {a : Nat} {xs : List (List UInt8)} {ks : List Nat} {x : It} : x ∈ upIts N lv a xs ks ↔ ∃ k ∈ ks, srvD N lv k = true ∧ x = ⟨(k : Int), (a : Int), xs.getD k []⟩ := by
  unfold upIts
  simp only [List.mem_map, List.mem_filter]
  constructor
  · rintro ⟨k, ⟨h1, h2⟩, e⟩; exact ⟨k, h1, h2, e.symm⟩
  · rintro ⟨k, h1, h2, e⟩; exact ⟨k, ⟨h1, h2⟩, e.symm⟩
section
variable {N : Bch} {lv : List Bool} {nn l c : Int} {ρ D F W k : Nat} {x : List UInt8}
/-- The disks of a change. -/
def ksL (l : Int) (D F W k : Nat) : List Nat := roS D F k :: roS D F W :: if l = 6 then [roS D F (W + 1)] else []
theorem ksL_facts (gr : Gr nn l c (ρ : Int) D F W) (hk : k < W) : (ksL l D F W k).Nodup ∧ (ksL l D F W k).length ≤ 3 ∧ (∀ i ∈ ksL l D F W k, i < D) ∧ (∀ i, i < D → i ∉ ksL l D F W k → roI D F i < W ∧ roI D F i ≠ k) := by
  have hF := gr.hF; have hW := gr.hW; have hlv := gr.lv
  have a1 := roS_lt (D := D) (F := F) (k := k) hF (by omega)
  have a2 := roS_lt (D := D) (F := F) (k := W) hF (by omega)
  have n1 : roS D F k ≠ roS D F W := fun e => by have := roS_inj hF (by omega) (by omega) e; omega
  have back : ∀ i, i < D → ∀ j, j < D → i ≠ roS D F j → roI D F i ≠ j := fun i hi j hj h e => h (by rw [← e, roS_roI hF hi])
  rcases hlv with ⟨rfl, hD⟩ | ⟨rfl, hD⟩
  · refine ⟨?_, ?_, ?_, ?_⟩ <;> unfold ksL <;> rw [if_neg (by decide)]
    · simp [n1]
    · simp
    · intro i hi; simp at hi; rcases hi with rfl | rfl <;> assumption
    · intro i hi h
      simp only [List.mem_cons, List.not_mem_nil, or_false, not_or] at h
      have b1 := back i hi k (by omega) h.1
      have b2 := back i hi W (by omega) h.2
      have b3 := roI_lt hF hi
      omega
  · have a3 := roS_lt (D := D) (F := F) (k := W + 1) hF (by omega)
    have n2 : roS D F k ≠ roS D F (W + 1) := fun e => by have := roS_inj hF (by omega) (by omega) e; omega
    have n3 : roS D F W ≠ roS D F (W + 1) := fun e => by have := roS_inj hF (by omega) (by omega) e; omega
    refine ⟨?_, ?_, ?_, ?_⟩ <;> unfold ksL <;> rw [if_pos rfl]
    · simp [n1, n2, n3]
    · simp
    · intro i hi; simp at hi; rcases hi with rfl | rfl | rfl <;> assumption
    · intro i hi h
      simp only [List.mem_cons, List.not_mem_nil, or_false, not_or] at h
      have b1 := back i hi k (by omega) h.1
      have b2 := back i hi W (by omega) h.2.1
      have b4 := back i hi (W + 1) (by omega) h.2.2
      have b3 := roI_lt hF hi
      omega
/-- A disk that is none of these has the same part. -/
theorem fill_else (gr : Gr nn l c (ρ : Int) D F W) (hk : k < W) {rs : List (List UInt8)} (hrs : rs.length = W) {i : Nat} (hi : i < D) (h : i ∉ ksL l D F W k) : (fillL D F (rs.set k x)).getD i [] = (fillL D F rs).getD i [] := by
  obtain ⟨h1, h2⟩ := (ksL_facts gr hk).2.2.2 i hi h
  rw [fillL_get gr.hF hi, fillL_get gr.hF hi, allL_data (by rw [List.length_set]; omega), allL_data (by omega), getD_set_other (Ne.symm h2)]
theorem set_32 {rs : List (List UInt8)} (ha : ∀ y ∈ rs, y.length = 32) (hx : x.length = 32) : ∀ y ∈ rs.set k x, y.length = 32 := fun y hy => by
  rcases List.mem_or_eq_of_mem_set hy with h | h
  · exact ha y h
  · rw [h]; exact hx
/-- The record of a sector of a row that is told. -/
theorem up_at (gr : Gr nn l c (ρ : Int) D F W) (hk : k < W) (hx : x.length = 32) {rs : List (List UInt8)} (hE : srdE N lv l (D : Int) c (ρ : Int) = 0 ∧ srdL N lv l (D : Int) c (ρ : Int) = rs) :
    upE N lv l (D : Int) c (plN l (D : Int) c (ρ : Int) (k : Int)) x = 0 ∧ upL N lv l (D : Int) c (plN l (D : Int) c (ρ : Int) (k : Int)) x = upIts N lv (36 + ρ) (fillL D F (rs.set k x)) (ksL l D F W k) ∧ upX N lv l (D : Int) c (plN l (D : Int) c (ρ : Int) (k : Int)) x = rs.set k x := by
  obtain ⟨h1, h2, h3, h4⟩ := num_place gr hk
  have e0 : upE N lv l (D : Int) c (plN l (D : Int) c (ρ : Int) (k : Int)) x = 0 := by
    unfold upE; rw [if_neg (by omega), if_neg (by rw [h1]; decide), h3]; exact hE.1
  have eX : upX N lv l (D : Int) c (plN l (D : Int) c (ρ : Int) (k : Int)) x = rs.set k x := by unfold upX; rw [h3, h4, hE.2]
  refine ⟨e0, ?_, eX⟩
  unfold upL
  rw [if_neg (by rw [e0]; decide), eX, h3, gr.eD, gr.eF]
  have hp := gr.R.pP
  have hq := gr.R.pQ
  rw [gr.eD, gr.eF, gr.eW] at hp hq
  have eK : upK l (D : Int) c (plN l (D : Int) c (ρ : Int) (k : Int)) = ksL l D F W k := by
    unfold upK ksL
    rw [h2, h3, hp, hq]
    by_cases h6 : l = 6
    · rw [if_pos h6, if_pos h6, if_pos h6]; rfl
    · rw [if_neg h6, if_neg h6]; rfl
  rw [eK]; rfl
theorem up_lost (gr : Gr nn l c (ρ : Int) D F W) (hk : k < W) (hx : x.length = 32) : upE N lv l (D : Int) c (plN l (D : Int) c (ρ : Int) (k : Int)) x = srdE N lv l (D : Int) c (ρ : Int) := by
  obtain ⟨h1, h2, h3, h4⟩ := num_place gr hk
  unfold upE; rw [if_neg (by omega), if_neg (by rw [h1]; decide), h3]
end
/-! A bench on which, where it serves, a geometry's rows stand. -/
def only (N : Bch) (lv : List Bool) : Bch := { N with D := fun i => if srvD N lv i = true then N.D i else Dsk.failed }
theorem only_srv (N : Bch) (lv : List Bool) (i : Nat) : srvD (only N lv) lv i = srvD N lv i := by
  cases h : srvD N lv i with
  | true =>
    obtain ⟨h1, h2, h3⟩ := srvD_yes h
    exact srvD_mk h1 h2 (by show Dsk.f (if srvD N lv i = true then N.D i else Dsk.failed) = false; rw [if_pos h]; exact h3)
  | false =>
    refine srvD_no fun ⟨_, _, h3⟩ => ?_
    have : Dsk.f (if srvD N lv i = true then N.D i else Dsk.failed) = false := h3
    rw [if_neg (by rw [h]; decide)] at this
    cases this
theorem only_D {N : Bch} {lv : List Bool} {i : Nat} (h : srvD N lv i = true) : (only N lv).D i = N.D i := if_pos h
theorem only_ss (N : Bch) (lv : List Bool) (a D : Nat) : ssL (only N lv) lv a D = ssL N lv a D := ext_getD (by rw [ssL_len, ssL_len]) fun i hi => by
  rw [ssL_len] at hi
  rw [ssL_get hi, ssL_get hi, only_srv]
  split
  · next h => rw [only_D h]
  · rfl
theorem only_any (N : Bch) (lv : List Bool) (k : Nat) : anyS (only N lv) lv k = anyS N lv k := by
  unfold anyS; congr 1; funext i; exact only_srv N lv i
theorem only_srd (N : Bch) (lv : List Bool) (l d c r : Int) : srdE (only N lv) lv l d c r = srdE N lv l d c r ∧ srdL (only N lv) lv l d c r = srdL N lv l d c r := by
  have e : srdE (only N lv) lv l d c r = srdE N lv l d c r := by
    unfold srdE; rw [only_ss, only_any]; rfl
  refine ⟨e, ?_⟩
  unfold srdL; rw [e, only_ss]
structure Stl (N : Bch) (D : Nat) (lv : List Bool) (fl : Nat → List (List UInt8)) : Prop where
  n : N.n = D
  good : GoodB N
  at' : ∀ i, i < D → ∀ t, t < 16 → srvD N lv i = true → secAt (N.D i).now (36 + t) = (fl t).getD i []
theorem Stl.std {N : Bch} {D : Nat} {lv : List Bool} {fl : Nat → List (List UInt8)} (h : Stl N D lv fl) : Std (only N lv) D D fl := by
  refine ⟨h.n, h.good.dn, fun i hi t ht hf => ?_⟩
  have hs : srvD N lv i = true := by
    rw [← Bool.not_eq_false]
    intro e
    have : Dsk.f (if srvD N lv i = true then N.D i else Dsk.failed) = false := hf
    rw [if_neg (by rw [e]; decide)] at this
    cases this
  rw [only_D hs]
  exact h.at' i hi t ht hs
theorem Fld.stl {N : Bch} {D : Nat} {fl : Nat → List (List UInt8)} (h : Fld N D D fl 16 0) (lv : List Bool) : Stl N D lv fl :=
  ⟨h.gd.n, ⟨h.gd.dn, h.gd.lf, fun j hj => h.gd.ok j (by rw [h.gd.n] at hj; exact hj), fun j hj => h.gd.ps j (by rw [h.gd.n] at hj; exact hj)⟩, fun i hi t ht _ => h.all hi ht⟩
section
variable {N : Bch} {lv : List Bool} {nn l c : Int} {ρ D F W k : Nat} {fl : Nat → List (List UInt8)} {rs : List (List UInt8)}
theorem Stl.told (h : Stl N D lv fl) (gr : Gr nn l c (ρ : Int) D F W) (hrs : rs.length = W) (ha : ∀ x ∈ rs, x.length = 32) (hfl : fl ρ = fillL D F rs) :
    if (roTake l (D : Int) c (ρ : Int) (ssL N lv (36 + ρ) D)).isSome = true then srdE N lv l (D : Int) c (ρ : Int) = 0 ∧ srdL N lv l (D : Int) c (ρ : Int) = rs else srdE N lv l (D : Int) c (ρ : Int) = 7 ∧ srdL N lv l (D : Int) c (ρ : Int) = [] := by
  have := h.std.told gr hrs ha hfl lv
  rwa [only_ss, (only_srd N lv _ _ _ _).1, (only_srd N lv _ _ _ _).2] at this
theorem Stl.ok (h : Stl N D lv fl) (gr : Gr nn l c (ρ : Int) D F W) (hrs : rs.length = W) (ha : ∀ x ∈ rs, x.length = 32) (hfl : fl ρ = fillL D F rs) (hc : ((cntB D (fun i => !srvD N lv i) : Nat) : Int) ≤ l - 4) :
    srdE N lv l (D : Int) c (ρ : Int) = 0 ∧ srdL N lv l (D : Int) c (ρ : Int) = rs := by
  have := h.std.ok (lv := lv) gr hrs ha hfl (by rw [cntB_congr (b' := fun i => !srvD N lv i) fun i _ => by rw [only_srv]]; exact hc)
  rwa [(only_srd N lv _ _ _ _).1, (only_srd N lv _ _ _ _).2] at this
end
theorem liveD_nat (n : Nat) (lv : List Bool) (i : Nat) : liveD n lv (i : Int) = (decide (i < n) && lv.getD i false) := by
  unfold liveD
  rw [Int.toNat_natCast]
  congr 1
  exact decide_eq_decide.2 (by omega)
theorem srv_live {N : Bch} {lv : List Bool} {i : Nat} (h : srvD N lv i = true) : liveD N.n lv (i : Int) = true ∧ (N.D i).f = false := by
  obtain ⟨h1, h2, h3⟩ := srvD_yes h
  exact ⟨by rw [liveD_nat, decide_eq_true h1, h2]; rfl, h3⟩
/-- A Put leaves all but the log as it was. -/
theorem put_data {N : Bch} {lv : List Bool} {s : Int} {l : List It} (hg : GoodB N) (hk : recOk s l = true) : ∀ j, j < N.n → (N.D j).f = false → ∀ k, 6 ≤ k → k < 52 → secAt ((putS N lv s l).2.D j).now k = secAt (N.D j).now k := fun j hj hf k h6 hk52 => by
  obtain ⟨h0, g⟩ := settle_good hg (fit_put (lv := lv) hk)
  have e : putS N lv s l = settleS N (putTo N.n lv (recB s l) N.n) := if_pos hk
  have h4 := ((sect_iff _).1 (sect_recB hk)).1
  rw [e, g.sec j hj hf k hk52]
  refine lastI_none fun x hx he => ?_
  obtain ⟨j', k', _, hk', _, rfl⟩ := mem_put.1 hx
  have h2 : ((2 + k' : Nat) : Int) = (k : Int) := he.2
  omega
/-- What one sector's update leaves. -/
structure DoG (N M : Bch) (D : Nat) (lv : List Bool) (fl : Nat → List (List UInt8)) (s : Int) (its : List It) : Prop where
  st : Stl M D lv fl
  f : ∀ j, j < D → (M.D j).f = (N.D j).f
  done : M.done ≤ N.done + 35
  has : ∀ j, j < D → srvD N lv j = true → onS M j = s ∧ onL M j = its
theorem DoG.srv {N M : Bch} {D : Nat} {lv : List Bool} {fl : Nat → List (List UInt8)} {s : Int} {its : List It} (g : DoG N M D lv fl s its) (hn : N.n = D) {i : Nat} (hi : i < D) : srvD M lv i = srvD N lv i := srvD_congr (g.st.n.trans hn.symm) (g.f i hi)
theorem do_good {N : Bch} {lv : List Bool} {nn l c s : Int} {ρ D F W k : Nat} {fl : Nat → List (List UInt8)} {rs : List (List UInt8)} {x : List UInt8} (h : Stl N D lv fl) (gr : Gr nn l c (ρ : Int) D F W) (hρ : ρ < 16) (hk : k < W) (hrs : rs.length = W) (ha : ∀ y ∈ rs, y.length = 32) (hfl : fl ρ = fillL D F rs) (hx : x.length = 32)
    (hE : srdE N lv l (D : Int) c (ρ : Int) = 0 ∧ srdL N lv l (D : Int) c (ρ : Int) = rs) (hs : 1 ≤ s ∧ s ≤ 2147483647) :
    (doS N lv l (D : Int) c (plN l (D : Int) c (ρ : Int) (k : Int)) x s).1 = 0 ∧ DoG N (doS N lv l (D : Int) c (plN l (D : Int) c (ρ : Int) (k : Int)) x s).2 D lv (flSet fl ρ (fillL D F (rs.set k x))) s (upIts N lv (36 + ρ) (fillL D F (rs.set k x)) (ksL l D F W k)) ∧ recOk s (upIts N lv (36 + ρ) (fillL D F (rs.set k x)) (ksL l D F W k)) = true := by
  obtain ⟨e0, e1, _⟩ := up_at gr hk hx hE
  obtain ⟨k1, k2, k3, k4⟩ := ksL_facts gr hk
  have hn8 : N.n ≤ 8 := by rw [h.n]; exact gr.d8
  have hok : recOk s (upIts N lv (36 + ρ) (fillL D F (rs.set k x)) (ksL l D F W k)) = true := upIts_ok hs k1 k2 (fun i hi => by have := k3 i hi; have := gr.d8; omega) (by omega) (fun i hi => gr.fills (by rw [List.length_set]; exact hrs) (set_32 ha hx) (k3 i hi))
  obtain ⟨p0, pg⟩ := put_good (lv := lv) h.good hn8 hok
  have pd := put_data (lv := lv) h.good hok
  obtain ⟨a0, ag⟩ := app_good (lv := lv) pg.good hok
  have e : doS N lv l (D : Int) c (plN l (D : Int) c (ρ : Int) (k : Int)) x s = appS (putS N lv s (upIts N lv (36 + ρ) (fillL D F (rs.set k x)) (ksL l D F W k))).2 lv s (upIts N lv (36 + ρ) (fillL D F (rs.set k x)) (ksL l D F W k)) := by
    unfold doS; rw [if_neg (by rw [e0]; decide), e1, if_neg (by rw [p0]; decide)]
  rw [e]
  refine ⟨a0, ?_, hok⟩
  generalize hits : upIts N lv (36 + ρ) (fillL D F (rs.set k x)) (ksL l D F W k) = its at *
  generalize putS N lv s its = q at *
  have hqn : q.2.n = D := pg.n.trans h.n
  have hMn : (appS q.2 lv s its).2.n = D := ag.n.trans hqn
  have hf : ∀ j, j < D → ((appS q.2 lv s its).2.D j).f = (N.D j).f := fun j hj => (ag.f j (by rw [hqn]; exact hj)).trans (pg.f j (by rw [h.n]; exact hj))
  have hsv : ∀ j, j < D → srvD (appS q.2 lv s its).2 lv j = srvD N lv j := fun j hj => srvD_congr (hMn.trans h.n.symm) (hf j hj)
  have hqf : ∀ j, j < D → srvD N lv j = true → (q.2.D j).f = false := fun j hj hs => (pg.f j (by rw [h.n]; exact hj)).trans (srvD_yes hs).2.2
  have hql : ∀ j, j < D → srvD N lv j = true → liveD q.2.n lv (j : Int) = true := fun j hj hs => by rw [pg.n]; exact (srv_live hs).1
  refine ⟨⟨hMn, ag.good, fun i hi t ht hs => ?_⟩, hf, by have := ag.done; have := pg.done; omega, fun j hj hs => ?_⟩
  · rw [hsv i hi] at hs
    by_cases hm : t = ρ ∧ i ∈ ksL l D F W k
    · obtain ⟨rfl, hm⟩ := hm
      have hmem : (⟨(i : Int), ((36 + t : Nat) : Int), (fillL D F (rs.set k x)).getD i []⟩ : It) ∈ its := by rw [← hits]; exact mem_upIts.2 ⟨i, hm, hs, rfl⟩
      have := ag.at' _ hmem (hql i hi hs) (by show (q.2.D ((i : Int)).toNat).f = false; rw [Int.toNat_natCast]; exact hqf i hi hs)
      dsimp only at this
      rw [Int.toNat_natCast, Int.toNat_natCast] at this
      rw [this]; unfold flSet; rw [if_pos rfl]
    · rw [ag.not i (by rw [hqn]; exact hi) (hqf i hi hs) (36 + t) (by omega) (fun y hy _ he => by
        rw [← hits] at hy
        obtain ⟨k', hk', _, rfl⟩ := mem_upIts.1 hy
        have h1 : ((k' : Nat) : Int) = (i : Int) := he.1
        have h2 : ((36 + ρ : Nat) : Int) = ((36 + t : Nat) : Int) := he.2
        obtain rfl : k' = i := by omega
        exact hm ⟨by omega, hk'⟩), pd i (by rw [h.n]; exact hi) (srvD_yes hs).2.2 (36 + t) (by omega) (by omega), h.at' i hi t ht hs]
      unfold flSet
      by_cases ht2 : t = ρ
      · subst ht2
        rw [if_pos rfl, hfl, fill_else gr hk hrs hi (fun q => hm ⟨rfl, q⟩)]
      · rw [if_neg ht2]
  · have h1 := ag.has j (by rw [hqn]; exact hj)
    have h2 := pg.put j (by rw [h.n]; exact hj) (srv_live hs).1 (srvD_yes hs).2.2
    exact ⟨h1.1.trans h2.1, h1.2.trans h2.2⟩
end Go.Proofs.YtenkkdnepmoihaaGreatDoor
end
section
set_option linter.unusedVariables false
set_option linter.unusedSimpArgs false
namespace Go.Proofs.YtenkkdnepmoihaaGreatDoor
open Go.RowKit

/-- Values that read as rows, none of them in block ob, all from lo on. -/
def RowsL (w : World) (lo : Nat) (ob : Option Nat) (xs : List Value) (rs : List (List UInt8)) : Prop :=
  xs.length = rs.length ∧ ∀ k, k < rs.length → ∃ A c, xs[k]? = some (.slice A (rs.getD k []).length c) ∧ (rs.getD k []).length ≤ c ∧ RdB w w.heap.size A (rs.getD k []) ∧ (0 < (rs.getD k []).length → ∀ a, A = some a → some a.block ≠ ob ∧ lo ≤ a.block)
section
variable {w w' : World} {lo : Nat} {ob ob' : Option Nat} {xs ys : List Value} {rs qs : List (List UInt8)}
theorem RowsL.nil (w : World) (lo : Nat) (ob : Option Nat) : RowsL w lo ob [] [] := ⟨rfl, fun k hk => by simp at hk⟩
theorem RowsL.le {lo' : Nat} (h : RowsL w lo ob xs rs) (hl : lo' ≤ lo) : RowsL w lo' ob xs rs :=
  ⟨h.1, fun k hk => by
    obtain ⟨A, c, h1, hc, h2, h3⟩ := h.2 k hk
    exact ⟨A, c, h1, hc, h2, fun h0 a ha => ⟨(h3 h0 a ha).1, Nat.le_trans hl (h3 h0 a ha).2⟩⟩⟩
/-- A row grows, that holds none of them. -/
theorem RowsL.grown {row : Option Nat} (h : RowsL w lo ob xs rs) (hg : w.grownBy w' row) (hr : row = ob ∨ ∃ q, row = some q ∧ q < lo) (ho : ob' = ob ∨ ob' = some w.heap.size) : RowsL w' lo ob' xs rs :=
  ⟨h.1, fun k hk => by
    obtain ⟨A, c, h1, hcap, h2, h3⟩ := h.2 k hk
    refine ⟨A, c, h1, hcap, ⟨h2.1, fun h0 => ?_⟩, fun h0 a ha => ⟨?_, (h3 h0 a ha).2⟩⟩
    · obtain ⟨b, off, e, hb, hc⟩ := h2.2 h0
      have hne := h3 h0 _ e
      have hne2 : some b ≠ row := by
        rcases hr with rfl | ⟨q, rfl, hq⟩
        · exact hne.1
        · intro e; injection e with e; have : lo ≤ b := hne.2; omega
      refine ⟨b, off, e, by have := hg.size; omega, fun j hj => ?_⟩
      rw [← hc j hj]
      exact World.cell?_of_block (w := w) (hg.block b hb hne2)
    · rcases ho with rfl | rfl
      · exact (h3 h0 a ha).1
      · obtain ⟨b, off, e, hb, hc⟩ := h2.2 h0
        rw [ha] at e
        injection e with e
        subst e
        intro e
        injection e with e
        simp at e
        omega⟩
end
theorem itcs_app : ∀ (l l2 : List It) (xs xs2 : List Value), xs.length = l.length → itcs (l ++ l2) (xs ++ xs2) = itcs l xs ++ itcs l2 xs2
  | [], _, [], _, _ => rfl
  | [], _, _ :: _, _, h => by simp at h
  | _ :: _, _, [], _, h => by simp at h
  | y :: l, l2, u :: xs, xs2, h => by
    have := itcs_app l l2 xs xs2 (by simpa using h)
    simp only [List.cons_append, itcs, this]
theorem itcs_one : ∀ (l : List It) (xs : List Value), (∀ u ∈ xs, u.oneCell' = true) → ∀ u ∈ itcs l xs, u.oneCell' = true
  | [], _, _, u, hu => by simp [itcs] at hu
  | _ :: _, [], _, u, hu => by simp [itcs] at hu
  | x :: l, v :: xs, h, u, hu => by
    simp only [itcs, List.mem_cons] at hu
    rcases hu with rfl | rfl | rfl | hu
    · rfl
    · rfl
    · exact h _ (List.mem_cons_self ..)
    · exact itcs_one l xs (fun u hu => h u (List.mem_cons_of_mem _ hu)) u hu
/-- Items of one's own: their row lies from B on; their Data from lo on, and not in that row. -/
def OwIt (e : TypeId) (w : World) (B lo : Nat) (v : Value) (l : List It) : Prop :=
  ∃ xs, w.ownsRow B e 3 v l.length (itcs l xs) ∧ RowsL w lo v.ownBlock xs (l.map (·.b)) ∧ l.length ≤ 1000000
section
variable {e : TypeId} {w w' : World} {B lo : Nat} {v : Value} {l : List It}
theorem OwIt.nil (e : TypeId) (w : World) (B lo : Nat) : OwIt e w B lo (.slice none 0 0) [] := ⟨[], World.ownsRow_nil _ _ _ _, RowsL.nil _ _ _, by simp⟩
/-- A block is written that is none of these. -/
theorem OwIt.far {q : Nat} (h : OwIt e w B lo v l) (hg : w.grownBy w' (some q)) (hB : q < B) (hl : q < lo) : OwIt e w' B lo v l := by
  obtain ⟨xs, h1, h2, h3⟩ := h
  refine ⟨xs, h1.kept hg (.inr fun e => ?_), h2.grown hg (.inr ⟨q, rfl, hl⟩) (.inl rfl), h3⟩
  have := (h1.lt q e).1; omega
theorem OwIt.le {B' lo' : Nat} (h : OwIt e w B lo v l) (hB : B' ≤ B) (hl : lo' ≤ lo) : OwIt e w B' lo' v l := by
  obtain ⟨xs, h1, h2, h3⟩ := h
  refine ⟨xs, ⟨h1.1, ?_⟩, h2.le hl, h3⟩
  rcases h1.2 with h1 | ⟨g, cap, cur, h1, h2, r⟩
  · exact .inl h1
  · exact .inr ⟨g, cap, cur, h1, by omega, r⟩
end
section
variable {P : Program} (w : World)
end
end Go.Proofs.YtenkkdnepmoihaaGreatDoor
end
section
set_option linter.unusedVariables false
set_option linter.unusedSimpArgs false
namespace Go.Proofs.YtenkkdnepmoihaaGreatDoor
open Go.RowKit

/-- Values that read as rows, none of them in block ob, all where P says. -/
def RowsP (w : World) (P : Nat → Prop) (ob : Option Nat) (xs : List Value) (rs : List (List UInt8)) : Prop :=
  xs.length = rs.length ∧ ∀ k, k < rs.length → ∃ A c, xs[k]? = some (.slice A (rs.getD k []).length c) ∧ (rs.getD k []).length ≤ c ∧ RdB w w.heap.size A (rs.getD k []) ∧ (0 < (rs.getD k []).length → ∀ a, A = some a → some a.block ≠ ob ∧ P a.block)
section
variable {w w' : World} {P : Nat → Prop} {ob ob' : Option Nat} {xs ys : List Value} {rs qs : List (List UInt8)}
theorem RowsP.nil (w : World) (P : Nat → Prop) (ob : Option Nat) : RowsP w P ob [] [] := ⟨rfl, fun k hk => by simp at hk⟩
theorem RowsP.grown {row : Option Nat} (h : RowsP w P ob xs rs) (hg : w.grownBy w' row) (hr : row = ob) (ho : ob' = ob ∨ ob' = some w.heap.size) : RowsP w' P ob' xs rs :=
  ⟨h.1, fun k hk => by
    obtain ⟨A, c, h1, hcap, h2, h3⟩ := h.2 k hk
    refine ⟨A, c, h1, hcap, ⟨h2.1, fun h0 => ?_⟩, fun h0 a ha => ⟨?_, (h3 h0 a ha).2⟩⟩
    · obtain ⟨b, off, e, hb, hc⟩ := h2.2 h0
      have hne := h3 h0 _ e
      have hne2 : some b ≠ row := by rw [hr]; exact hne.1
      refine ⟨b, off, e, by have := hg.size; omega, fun j hj => ?_⟩
      rw [← hc j hj]
      exact World.cell?_of_block (w := w) (hg.block b hb hne2)
    · rcases ho with rfl | rfl
      · exact (h3 h0 a ha).1
      · obtain ⟨b, off, e, hb, hc⟩ := h2.2 h0
        rw [ha] at e
        injection e with e
        subst e
        intro e
        injection e with e
        simp at e
        omega⟩
theorem RowsP.below (h : RowsP w P ob xs rs) (hb : Below w.heap.size w w') : RowsP w' P ob xs rs :=
  ⟨h.1, fun k hk => by
    obtain ⟨A, c, h1, hcap, h2, h3⟩ := h.2 k hk
    exact ⟨A, c, h1, hcap, (h2.below hb (Nat.le_refl _)).more hb.size, h3⟩⟩
theorem RowsP.app (h : RowsP w P ob xs rs) (h' : RowsP w P ob ys qs) : RowsP w P ob (xs ++ ys) (rs ++ qs) :=
  ⟨by simp [h.1, h'.1], fun k hk => by
    by_cases hk2 : k < rs.length
    · have e : (rs ++ qs).getD k [] = rs.getD k [] := by simp [List.getD_eq_getElem?_getD, List.getElem?_append_left hk2]
      rw [e, List.getElem?_append_left (by rw [h.1]; exact hk2)]
      exact h.2 k hk2
    · have e : (rs ++ qs).getD k [] = qs.getD (k - rs.length) [] := by simp [List.getD_eq_getElem?_getD, List.getElem?_append_right (show rs.length ≤ k by omega)]
      rw [e, List.getElem?_append_right (by rw [h.1]; omega), h.1]
      exact h'.2 _ (by simp at hk; omega)⟩
theorem RowsP.one {A : Option Addr} {c : Nat} {b : List UInt8} (hr : RdB w w.heap.size A b) (hc : b.length ≤ c) (hne : 0 < b.length → ∀ a, A = some a → some a.block ≠ ob ∧ P a.block) : RowsP w P ob [.slice A b.length c] [b] :=
  ⟨rfl, fun k hk => by
    obtain rfl : k = 0 := by simp at hk; omega
    exact ⟨A, c, rfl, hc, hr, hne⟩⟩
theorem RowsP.ones (h : RowsP w P ob xs rs) : ∀ u ∈ xs, u.oneCell' = true := fun u hu => by
  obtain ⟨k, hk, rfl⟩ := List.getElem_of_mem hu
  obtain ⟨A, c, h1, _⟩ := h.2 k (by rw [← h.1]; exact hk)
  rw [List.getElem?_eq_getElem hk] at h1
  injection h1 with h1
  rw [h1]; rfl
end
/-- Items of one's own: their row lies from B on; their Data where P says, and not in that row. -/
def OwIP (e : TypeId) (w : World) (B : Nat) (P : Nat → Prop) (v : Value) (l : List It) : Prop :=
  ∃ xs, w.ownsRow B e 3 v l.length (itcs l xs) ∧ RowsP w P v.ownBlock xs (l.map (·.b)) ∧ l.length ≤ 1000000
/-- Items that are read, none of them where F says. -/
def RdIF (w : World) (F : Nat → Prop) (A : Option Addr) (l : List It) : Prop :=
  l.length ≤ 1000000 ∧ (0 < l.length → ∃ b, A = some ⟨b, 0, none⟩ ∧ b < w.heap.size ∧ ¬ F b ∧ ∀ k, k < l.length → ∃ D c, w.rangeAt b (k * 3) [.int .i64 (itN l k).d, .int .i64 (itN l k).a, .slice D (itN l k).b.length c] ∧ (itN l k).b.length ≤ c ∧ RdB w w.heap.size D (itN l k).b ∧ (0 < (itN l k).b.length → ∀ a, D = some a → ¬ F a.block))
section
variable {e : TypeId} {w w' : World} {B : Nat} {P F : Nat → Prop} {v : Value} {l : List It} {A : Option Addr}
theorem OwIP.nil (e : TypeId) (w : World) (B : Nat) (P : Nat → Prop) : OwIP e w B P (.slice none 0 0) [] := ⟨[], World.ownsRow_nil _ _ _ _, RowsP.nil _ _ _, by simp⟩
theorem OwIP.rd (h : OwIP e w B P v l) (hB : ∀ k, B ≤ k → ¬ F k) (hP : ∀ k, P k → ¬ F k) : ∃ A c, v = .slice A l.length c ∧ l.length ≤ c ∧ RdIF w F A l := by
  obtain ⟨xs, h1, h2, h3⟩ := h
  obtain ⟨A, c, rfl, hc, hg⟩ := rx_form h1
  refine ⟨A, c, rfl, hc, by omega, fun hn => ?_⟩
  obtain ⟨g, rfl, hB'⟩ := hg hn
  refine ⟨g, rfl, (h1.lt g rfl).2, hB g hB', fun k hk => ?_⟩
  obtain ⟨D, c', hx, hcc, hr, hp⟩ := h2.2 k (by simpa using hk)
  rw [itB_get hk] at hx hr hcc hp
  have hxl : xs.length = l.length := by have := h2.1; simpa using this
  refine ⟨D, c', fun j u hj => ?_, hcc, hr, fun h0 a ha => hP _ (hp h0 a ha).2⟩
  have hj3 : j < 3 := (List.getElem?_eq_some_iff.1 hj).1
  rw [rx_cell_at h1 _ (by rw [itcs_len _ _ hxl]; omega), itcs_get l xs k _ hxl hx j hj3]
  exact hj
theorem OwIP.lt (h : OwIP e w B P v l) : ∀ k, v.ownBlock = some k → B ≤ k ∧ k < w.heap.size := by
  obtain ⟨xs, h1, _⟩ := h; exact h1.lt
theorem OwIP.below (h : OwIP e w B P v l) (hb : Below w.heap.size w w') : OwIP e w' B P v l := by
  obtain ⟨xs, h1, h2, h3⟩ := h
  exact ⟨xs, h1.kept (grown_none hb) (Classical.em _), h2.below hb, h3⟩
theorem RdIF.chg {G : Nat → Prop} (h : RdIF w F A l) (hc : Chg G w w') (hG : ∀ k, k < w.heap.size → G k → F k) : RdIF w' F A l :=
  ⟨h.1, fun hn => by
    obtain ⟨b, e, hb, hf, hk⟩ := h.2 hn
    refine ⟨b, e, Nat.lt_of_lt_of_le hb hc.size, hf, fun k hkl => ?_⟩
    obtain ⟨D, c, h1, hcc, h2, h3⟩ := hk k hkl
    refine ⟨D, c, rangeAt_keep h1 fun j => World.cell?_of_block (a := ⟨b, j, none⟩) (hc.block b hb fun g => hf (hG b hb g)), hcc, ⟨h2.1, fun h0 => ?_⟩, h3⟩
    obtain ⟨g, off, e', hg, hcl⟩ := h2.2 h0
    exact ⟨g, off, e', Nat.lt_of_lt_of_le hg hc.size, fun j hj => (World.cell?_of_block (a := ⟨g, off + j, none⟩) (hc.block g hg fun x => h3 h0 _ e' (hG g hg x))).trans (hcl j hj)⟩⟩
theorem RdIF.below (h : RdIF w F A l) (hb : Below w.heap.size w w') : RdIF w' F A l := h.chg (chg_below (fun _ => False) hb) fun _ _ e => e.elim
/-- What is of new memory is none of what was there. -/
theorem RdIF.off {G : Nat → Prop} (h : RdIF w F A l) (hG : ∀ k, k < w.heap.size → G k → F k) : RdIF w G A l :=
  ⟨h.1, fun hn => by
    obtain ⟨b, e, hb, hf, hk⟩ := h.2 hn
    refine ⟨b, e, hb, fun g => hf (hG b hb g), fun k hkl => ?_⟩
    obtain ⟨D, c, h1, hcc, h2, h3⟩ := hk k hkl
    refine ⟨D, c, h1, hcc, h2, fun h0 a ha g => h3 h0 a ha (hG _ ?_ g)⟩
    obtain ⟨b', off, e', hg, _⟩ := h2.2 h0
    rw [e'] at ha; injection ha with ha; rw [← ha]; exact hg⟩
theorem RdIF.rdI (h : RdIF w F A l) : RdI w w.heap.size A l :=
  ⟨by have := h.1; omega, fun hn => by
    obtain ⟨b, e, hb, _, hk⟩ := h.2 hn
    refine ⟨b, e, hb, fun k hkl => ?_⟩
    obtain ⟨D, c, h1, _, h2, _⟩ := hk k hkl
    exact ⟨D, c, h1, h2⟩⟩
/-- Items of one's own, made since lo: none of what was there before. -/
theorem OwIt.rdF {lo : Nat} (h : OwIt e w B lo v l) (hB : ∀ k, B ≤ k → ¬ F k) (hl : ∀ k, lo ≤ k → ¬ F k) : ∃ A c, v = .slice A l.length c ∧ l.length ≤ c ∧ RdIF w F A l := by
  obtain ⟨xs, h1, h2, h3⟩ := h
  exact OwIP.rd (P := fun k => lo ≤ k) ⟨xs, h1, h2, h3⟩ hB hl
end
/-- What is appended: Items that lie there. -/
def SrcP (w : World) (P : Nat → Prop) (ob : Option Nat) (A : Option Addr) (l : List It) : Prop :=
  (A = none ∧ l = []) ∨ ∃ ad xs, A = some ad ∧ RowsP w P ob xs (l.map (·.b)) ∧ ∀ j u, (itcs l xs)[j]? = some u → w.cell? (ad.add j) = some u
section
variable {P : Program} (w : World) (Pp : Nat → Prop)
theorem run_append_P (base : Nat) (t ty e : TypeId) (ht : P.underlying t = some (.slice e)) (hinfo : (P.info? e).map (fun i => (i.zero, i.size, i.bytes)) = some (some (.agg #[.int .i64 0, .int .i64 0, .slice none 0 0]), 3, 40))
    (v : Value) (l : List It) (hown : OwIP e w base Pp v l) (A : Option Addr) (m c : Nat) (l2 : List It) (hm : m = l2.length) (hs : SrcP w Pp v.ownBlock A l2) (hn : l.length + l2.length ≤ 1000000) (hbase : base ≤ w.heap.size) :
    ∃ v' w', (Builtin.append_ #[t, t] ty #[v, .slice A m c]).run P w = .ok v' w' ∧ OwIP e w' base Pp v' (l ++ l2) ∧ w.grownBy w' v.ownBlock ∧ (v'.ownBlock = v.ownBlock ∨ v'.ownBlock = some w.heap.size) := by
  subst hm
  obtain ⟨i, hi, hzz⟩ := Option.map_eq_some_iff.1 hinfo
  simp only [Prod.mk.injEq] at hzz
  obtain ⟨hz, hs', hb⟩ := hzz
  obtain ⟨xs, h1, h2, h3⟩ := hown
  rcases hs with ⟨rfl, rfl⟩ | ⟨ad, xs2, rfl, g2, g3⟩
  · refine ⟨v, w, ?_, by rw [List.append_nil]; exact ⟨xs, h1, h2, h3⟩, World.grownBy.refl w _, .inl rfl⟩
    rcases h1.2 with ⟨rfl, _⟩ | ⟨g, cap, cur, rfl, _, _, hnc, _⟩
    · simp [Builtin.append_, run_underlying ht, sizeOf, typeInfo, hi, Builtin.lenOf, Builtin.firstCells]
    · simp [Builtin.append_, run_underlying ht, sizeOf, typeInfo, hi, Builtin.lenOf, Builtin.firstCells, hnc, storeCells]
  · have hx2 : xs2.length = l2.length := by have := g2.1; simpa using this
    have hx1 : xs.length = l.length := by have := h2.1; simpa using this
    obtain ⟨v', w', hrun, k2, k3, _, k5⟩ := run_append_own_at (P := P) w base t ty e i _ 3 40 ht hi hz hs' hb rfl (by omega) v l.length (itcs l xs) h1 ad l2.length c (itcs l2 xs2) (itcs_len _ _ hx2) g3 (itcs_one _ _ g2.ones) (by unfold maxLen; omega) (by omega) hbase
    refine ⟨v', w', hrun, ⟨xs ++ xs2, ?_, ?_, by simp; omega⟩, k3, k5⟩
    · rw [itcs_app _ _ _ _ hx1, List.length_append]; exact k2
    · rw [List.map_append]
      exact (h2.grown k3 rfl k5).app (g2.grown k3 rfl k5)
theorem wpList_append_P {ops : Array Oper} {rest : List Oper} {o : Oper} {a : Act} {Q : Exit → Act → World → Prop} (hw : Region.wanted o (yielded ops a.tmps) = true) (s x : Operand) (t : TypeId)
    (ho : o.op = .call { callee := .builtin .append, args := #[s, x], argTypes := #[t, t] })
    (base : Nat) (e : TypeId) (ht : P.underlying t = some (.slice e)) (hinfo : (P.info? e).map (fun i => (i.zero, i.size, i.bytes)) = some (some (.agg #[.int .i64 0, .int .i64 0, .slice none 0 0]), 3, 40))
    (v : Value) (l : List It) (hsv : a.eval s = v) (hown : OwIP e w base Pp v l) (A : Option Addr) (m c : Nat) (l2 : List It) (hx : a.eval x = .slice A m c) (hm : m = l2.length) (hs : SrcP w Pp v.ownBlock A l2) (hn : l.length + l2.length ≤ 1000000) (hbase : base ≤ w.heap.size)
    (h : ∀ v' w', OwIP e w' base Pp v' (l ++ l2) → w.grownBy w' v.ownBlock → (v'.ownBlock = v.ownBlock ∨ v'.ownBlock = some w.heap.size) → wpList P ops Q rest (a.put o.dst v') w') : wpList P ops Q (o :: rest) a w := by
  refine BigFrame.wpList_want hw fun K hK => ?_
  obtain ⟨v', w', hrun, h2, h3, h4⟩ := run_append_P (P := P) w Pp base t o.type e ht hinfo v l hown A m c l2 hm hs hn hbase
  unfold Oper.wp execOp
  simp only [ho, resolve, invoke, builtin, Sem.run_bind, Sem.run_pure, Result.andThen_ok, List.map_toArray, List.map_cons, List.map_nil, hsv, hx, hrun]
  exact hK _ _ (h v' w' h2 h3 h4)
end
/-- One Item, in a new block of its own. -/
theorem src_oneP {w : World} {P : Nat → Prop} {g : Nat} {ob : Option Nat} {x : It} {D : Option Addr} {c : Nat} {t : TypeId} {f : Nat × Nat} (hg : w.heap[g]? = some (.cells (List.toArray [.int .i64 x.d, .int .i64 x.a, .slice D x.b.length c]) t f)) (hr : RdB w w.heap.size D x.b) (hc : x.b.length ≤ c) (hne : 0 < x.b.length → ∀ a, D = some a → some a.block ≠ ob ∧ P a.block) : SrcP w P ob (some ⟨g, 0, none⟩) [x] :=
  .inr ⟨⟨g, 0, none⟩, [.slice D x.b.length c], rfl, RowsP.one hr hc hne, fun j u hu => by
    have e1 : ((⟨g, 0, none⟩ : Addr).add j) = ⟨g, j, none⟩ := by unfold Addr.add; by_cases hk0 : j = 0 <;> simp [hk0]
    rw [e1, cell_of_row w g j _ t f hg]
    simpa [itcs] using hu⟩
end Go.Proofs.YtenkkdnepmoihaaGreatDoor
end
section
set_option maxRecDepth 8000
set_option linter.unusedVariables false
set_option linter.unusedSimpArgs false
namespace Go.Proofs.YtenkkdnepmoihaaGreatDoor
open Go.RowKit

theorem hinders_any (x : Int) (w : World) : Calls Tryz.prog 95 #[.int .i64 x] w fun e w' => e = .returned (.bool (decide (x ≠ 0 ∧ x ≠ 5))) ∧ w' = w := by
  by_cases h0 : x = 0
  · subst h0
    go_enter Tryz.func95, Tryz.ntmps95
    go_wp2
    go_ret
    exact ⟨rfl, rfl⟩
  · have e0 : (x != 0) = true := by rw [bne_iff_ne]; exact h0
    by_cases h5 : x = 5
    · subst h5
      clear h0 e0
      go_enter Tryz.func95, Tryz.ntmps95
      go_wp2
      go_ret
      exact ⟨rfl, rfl⟩
    · have e5 : (x != 5) = true := by rw [bne_iff_ne]; exact h5
      have R := Lib.hid (show decide (x ≠ 0 ∧ x ≠ 5) = true from decide_eq_true ⟨h0, h5⟩)
      generalize decide (x ≠ 0 ∧ x ≠ 5) = res at R
      clear h0 h5
      go_enter Tryz.func95, Tryz.ntmps95
      go_wp2
      go_ret
      exact ⟨by rw [R.out]; rfl, rfl⟩
theorem isLive_any (B b : Nat) (H : BH) (N : Bch) (w : World) (h : BAt w B b H N) (lv : List Bool) (A : Option Addr) (n c : Nat) (hn : n = lv.length) (hv : RdO w w.heap.size A lv) (d : Int) (h0 : 0 ≤ d) (h1 : d ≤ 1000000) :
    Calls Tryz.prog 46 #[ptr b, .slice A n c, .int .i64 d] w fun e w' => e = .returned (.bool (liveD N.n lv d)) ∧ w' = w := by
  have e : liveD N.n lv d = alvD N.n lv d := by unfold liveD alvD; rw [decide_eq_true h0]; rfl
  rw [e]
  exact alvIs_any B b H N w h lv A n c hn hv d (by omega) h1
end Go.Proofs.YtenkkdnepmoihaaGreatDoor
end
section
set_option maxRecDepth 8000
set_option linter.unusedVariables false
set_option linter.unusedSimpArgs false
namespace Go.Proofs.YtenkkdnepmoihaaGreatDoor
open Go.RowKit

theorem hind0 : decide ((0 : Int) ≠ 0 ∧ (0 : Int) ≠ 5) = false := by decide
theorem hind5 : decide ((5 : Int) ≠ 0 ∧ (5 : Int) ≠ 5) = false := by decide
theorem hindX {x : Int} (h0 : x ≠ 0) (h5 : x ≠ 5) : decide (x ≠ 0 ∧ x ≠ 5) = true := decide_eq_true ⟨h0, h5⟩
set_option maxHeartbeats 4000000 in
theorem settle_any (W w : World) (b : Nat) (H : BH) (N : Bch) (h : BP W w b H N) (l : List It) (A : Option Addr) (n c : Nat) (hn : n = l.length) (hr : RdIF w (BF b H N.n) A l) (h64 : Its64 l)
    (hps : ∀ i, i < N.n → (N.D i).ps.length ≤ 1000000) (hdn : N.done ≤ 1000000) :
    Calls Tryz.prog 63 #[.pointer (some ⟨b, 0, none⟩), .slice A n c] w fun e w' => e = .returned (.int .i64 (settleS N l).1) ∧ BC W w w' b H N.n (settleS N l).2 := by
  subst hn
  have Hh := Lib.hid h
  have Hr := Lib.hid hr
  have H64 := Lib.hid h64
  have Hp := Lib.hid hps
  have Hd := Lib.hid hdn
  have hl6 := hr.1
  have HS1 := Lib.hid (show (wroteI N l).1 ≠ 0 → settleS N l = wroteI N l from fun h => if_pos h)
  have HS2 := Lib.hid (show (wroteI N l).1 = 0 → settleS N l = runTo itFl l (wroteI N l).2 l.length from fun h => if_neg (fun q => q h))
  have HW : Hid (wroteI N l = runTo itWr l N l.length) := rfl
  have CH := Lib.hid hinders_any
  clear h hr h64 hps hdn
  go_enter Tryz.func63, Tryz.ntmps63
  go_wp2
  go_loopw [13] (fun i wr => ∃ j : Nat, j ≤ l.length ∧ i = .int .i64 j ∧ (runTo itWr l N j).1 = 0 ∧ BC W w wr b H N.n (runTo itWr l N j).2) (fun i _ => l.length - (intOf i).toNat)
  case atStart => exact ⟨0, Nat.zero_le _, rfl, rfl, Hh.out.self⟩
  case round =>
    obtain ⟨j, hj, rfl, hz, hbc⟩ := hrel
    have Hz := Lib.hid hz
    have Hbc := Lib.hid hbc
    obtain ⟨Hj, aj, cj, nj⟩ := hbc
    have Haj := Lib.hid aj
    have Hcj := Lib.hid cj
    have Hnj := Lib.hid nj
    have Hrj := Lib.hid (Hr.out.chg cj fun _ _ e => e)
    clear hz aj cj nj
    by_cases hlt : j < l.length
    · have i0 : (0 : Int) ≤ (j : Int) := by omega
      have i1 : (j : Int) < (l.length : Int) := by omega
      obtain ⟨g, rfl, hg, hgf, hk⟩ := Hrj.out.2 (by omega)
      obtain ⟨D, cd, hrp, hcd, hrd, hof⟩ := hk j hlt
      have Hlen : Hid (∀ i, i < N.n → ((runTo itWr l N j).2.D i).ps.length ≤ 2000000) := fun i hi => by have h1 := Hp.out i hi; have h2 := ran_len (l := l) (N := N) i j; omega
      have Hdone : Hid ((runTo itWr l N j).2.done ≤ 2000000) := by show _ ≤ _; have h1 := Hd.out; have h2 := ran_done (l := l) (N := N) j; omega
      have Hnn : Hid ((runTo itWr l N j).2.n = N.n) := ran_n j
      have hx64 := H64.out j hlt
      have HP := Lib.hid (fun hq => runTo_pass (f := itWr) (l := l) (N := N) (i := j) Hz.out hq)
      have HG := Lib.hid (fun hq => runTo_goes (f := itWr) (l := l) (N := N) (i := j) Hz.out hq)
      have HST := Lib.hid (fun hq => runTo_stop (f := itWr) (l := l) (N := N) (i := j + 1) hq l.length (by omega))
      generalize itN l j = x at hrp hrd hx64 hcd hof HP HG
      have Hrp := Lib.hid hrp
      have b1 := below1 wr (.cells #[.int .i64 x.d, .int .i64 x.a, .slice D x.b.length cd] 92)
      have CW := Lib.hid (bp_write W _ b Hj _ (Haj.out.alloc (.cells #[.int .i64 x.d, .int .i64 x.a, .slice D x.b.length cd] 92)) x.d x.a x.b D x.b.length cd rfl hx64.d hx64.a ((hrd.below b1 (Nat.le_refl _)).more b1.size) (fun i hi => Hlen.out i (by rw [Hnn.out] at hi; exact hi)) Hdone.out)
      have HX : Hid (∀ w2 N2, BC W (wr.alloc (.cells #[.int .i64 x.d, .int .i64 x.a, .slice D x.b.length cd] 92)) w2 b Hj (runTo itWr l N j).2.n N2 → BC W w w2 b H N.n N2) := fun w2 N2 h2 => by
        rw [Hnn.out] at h2
        exact (BC.below b1 h2).seq Hcj.out Hnj.out
      clear hrp hk b1 hrd hof Hrj hgf
      have Hw : Hid (itWr (runTo itWr l N j).2 x = ((runTo itWr l N j).2.writeE x.d x.a x.b.length, (runTo itWr l N j).2.write x.d x.a x.b)) := rfl
      generalize (runTo itWr l N j).2.writeE x.d x.a x.b.length = e at CW Hw
      generalize (runTo itWr l N j).2.write x.d x.a x.b = Nx at CW Hw
      rw [Hw.out] at HP HG
      by_cases h5 : e = 5
      · have HP := Lib.hid (HP.out h5)
        rw [h5] at CW
        clear HG h5 Hw
        have CH5 := Lib.hid (fun V => hinders_any 5 V)
        rw [hind5] at CH5
        clear CH
        go_wp2_with (first
          | ((with_reducible refine (id ?_ : wpList _ _ _ (⟨some 16, _, _, _, _, _⟩ :: _) _ _)); refine wpList_load_mid rfl 92 _ (by rfl) g (j * 3) (by rfl) [.int .i64 x.d, .int .i64 x.a, .slice D x.b.length cd] _ Hrp.out Tryz.underlying92 rfl (by kernel_rfl) ?_)
          | (go_at_call 94; refine CW.out.mono ?_; rintro e w2 ⟨rfl, ht⟩; have Ht := Lib.hid (HX.out _ _ ht); clear ht)
          | (go_at_call 95; refine (CH5.out _).mono ?_; rintro e w3 ⟨rfl, rfl⟩))
        go_roundw
        case rel => exact ⟨j + 1, by omega, by go_num, by rw [HP.out], by rw [HP.out]; exact Ht.out⟩
        case measure => simp [intOf]; omega
      · have HG := Lib.hid (HG.out h5)
        clear HP
        by_cases h0 : e = 0
        · rw [h0] at CW HG
          have CH0 := Lib.hid (fun V => hinders_any 0 V)
          rw [hind0] at CH0
          clear h5 h0 CH Hw
          go_wp2_with (first
            | ((with_reducible refine (id ?_ : wpList _ _ _ (⟨some 16, _, _, _, _, _⟩ :: _) _ _)); refine wpList_load_mid rfl 92 _ (by rfl) g (j * 3) (by rfl) [.int .i64 x.d, .int .i64 x.a, .slice D x.b.length cd] _ Hrp.out Tryz.underlying92 rfl (by kernel_rfl) ?_)
            | (go_at_call 94; refine CW.out.mono ?_; rintro e w2 ⟨rfl, ht⟩; have Ht := Lib.hid (HX.out _ _ ht); clear ht)
            | (go_at_call 95; refine (CH0.out _).mono ?_; rintro e w3 ⟨rfl, rfl⟩))
          go_roundw
          case rel => exact ⟨j + 1, by omega, by go_num, by rw [HG.out], by rw [HG.out]; exact Ht.out⟩
          case measure => simp [intOf]; omega
        · have CHx := Lib.hid (fun V => hinders_any e V)
          rw [hindX h0 h5] at CHx
          have HE := Lib.hid (show settleS N l = (e, Nx) by
            have q1 := HST.out (by rw [HG.out]; exact h0)
            rw [HG.out] at q1
            have q2 := HW.out.trans q1
            rw [HS1.out (by rw [q2]; exact h0), q2])
          clear h5 h0 CH Hw HST HG
          go_wp2_with (first
            | ((with_reducible refine (id ?_ : wpList _ _ _ (⟨some 16, _, _, _, _, _⟩ :: _) _ _)); refine wpList_load_mid rfl 92 _ (by rfl) g (j * 3) (by rfl) [.int .i64 x.d, .int .i64 x.a, .slice D x.b.length cd] _ Hrp.out Tryz.underlying92 rfl (by kernel_rfl) ?_)
            | (go_at_call 94; refine CW.out.mono ?_; rintro e w2 ⟨rfl, ht⟩; have Ht := Lib.hid (HX.out _ _ ht); clear ht)
            | (go_at_call 95; refine (CHx.out _).mono ?_; rintro e w3 ⟨rfl, rfl⟩))
          go_ret
          exact ⟨by rw [HE.out]; rfl, by rw [HE.out]; exact Ht.out⟩
    · obtain rfl : j = l.length := by omega
      have HS := Lib.hid (HS2.out (by rw [HW.out]; exact Hz.out))
      rw [HW.out] at HS
      have HnW : Hid ((runTo itWr l N l.length).2.n = N.n) := ran_n _
      generalize (runTo itWr l N l.length).2 = M at HS HnW Haj Hbc
      clear HS1 HS2 HW Hz hlt Hp Hd
      obtain ⟨Hm, am, cm, nm⟩ := Hbc.out
      have Ham := Lib.hid am
      have Hcm := Lib.hid cm
      have Hnm := Lib.hid nm
      clear am cm nm Haj Hcj Hnj Hbc Hrj
      go_wp2
      go_loopw [31] (fun i wr => ∃ j : Nat, j ≤ l.length ∧ i = .int .i64 j ∧ (runTo itFl l M j).1 = 0 ∧ BC W w wr b H N.n (runTo itFl l M j).2) (fun i _ => l.length - (intOf i).toNat)
      case atStart => exact ⟨0, Nat.zero_le _, rfl, rfl, Hm, Ham.out, Hcm.out, Hnm.out⟩
      case round =>
        obtain ⟨j, hj, rfl, hz, hbc⟩ := hrel
        have Hz := Lib.hid hz
        have Hbc := Lib.hid hbc
        obtain ⟨Hj, aj, cj, nj⟩ := hbc
        have Haj := Lib.hid aj
        have Hcj := Lib.hid cj
        have Hnj := Lib.hid nj
        clear hz aj cj nj
        by_cases hlt : j < l.length
        · have i0 : (0 : Int) ≤ (j : Int) := by omega
          have i1 : (j : Int) < (l.length : Int) := by omega
          obtain ⟨g, rfl, hg, hgf, hk⟩ := Hr.out.2 (by omega)
          obtain ⟨D, cd, hrp, _⟩ := hk j hlt
          have Hrp := Lib.hid (rangeAt_keep (w' := wr) hrp fun k => World.cell?_of_block (a := ⟨g, k, none⟩) (Hcj.out.block g hg hgf))
          have Hnn : Hid ((runTo itFl l M j).2.n = N.n) := (ranF_n j).trans HnW.out
          have hx64 := H64.out j hlt
          have HP := Lib.hid (fun hq => runTo_pass (f := itFl) (l := l) (N := M) (i := j) Hz.out hq)
          have HG := Lib.hid (fun hq => runTo_goes (f := itFl) (l := l) (N := M) (i := j) Hz.out hq)
          have HST := Lib.hid (fun hq => runTo_stop (f := itFl) (l := l) (N := M) (i := j + 1) hq l.length (by omega))
          generalize itN l j = x at hrp Hrp hx64 HP HG
          have b1 := below1 wr (.cells #[.int .i64 x.d, .int .i64 x.a, .slice D x.b.length cd] 92)
          have CW := Lib.hid (bp_flush W _ b Hj _ (Haj.out.alloc (.cells #[.int .i64 x.d, .int .i64 x.a, .slice D x.b.length cd] 92)) x.d hx64.d)
          have HX : Hid (∀ w2 N2, BC W (wr.alloc (.cells #[.int .i64 x.d, .int .i64 x.a, .slice D x.b.length cd] 92)) w2 b Hj (runTo itFl l M j).2.n N2 → BC W w w2 b H N.n N2) := fun w2 N2 h2 => by
            rw [Hnn.out] at h2
            exact (BC.below b1 h2).seq Hcj.out Hnj.out
          clear hrp hk b1 hgf
          have Hw : Hid (itFl (runTo itFl l M j).2 x = ((runTo itFl l M j).2.flushE x.d, (runTo itFl l M j).2.flush x.d)) := rfl
          generalize (runTo itFl l M j).2.flushE x.d = e at CW Hw
          generalize (runTo itFl l M j).2.flush x.d = Nx at CW Hw
          rw [Hw.out] at HP HG
          by_cases h5 : e = 5
          · have HP := Lib.hid (HP.out h5)
            rw [h5] at CW
            clear HG h5 Hw
            have CH5 := Lib.hid (fun V => hinders_any 5 V)
            rw [hind5] at CH5
            clear CH
            go_wp2_with (first
              | ((with_reducible refine (id ?_ : wpList _ _ _ (⟨some 34, _, _, _, _, _⟩ :: _) _ _)); refine wpList_load_mid rfl 92 _ (by rfl) g (j * 3) (by rfl) [.int .i64 x.d, .int .i64 x.a, .slice D x.b.length cd] _ Hrp.out Tryz.underlying92 rfl (by kernel_rfl) ?_)
              | (go_at_call 96; refine CW.out.mono ?_; rintro e w2 ⟨rfl, ht⟩; have Ht := Lib.hid (HX.out _ _ ht); clear ht)
              | (go_at_call 95; refine (CH5.out _).mono ?_; rintro e w3 ⟨rfl, rfl⟩))
            go_roundw
            case rel => exact ⟨j + 1, by omega, by go_num, by rw [HP.out], by rw [HP.out]; exact Ht.out⟩
            case measure => simp [intOf]; omega
          · have HG := Lib.hid (HG.out h5)
            clear HP
            by_cases h0 : e = 0
            · rw [h0] at CW HG
              have CH0 := Lib.hid (fun V => hinders_any 0 V)
              rw [hind0] at CH0
              clear h5 h0 CH Hw
              go_wp2_with (first
                | ((with_reducible refine (id ?_ : wpList _ _ _ (⟨some 34, _, _, _, _, _⟩ :: _) _ _)); refine wpList_load_mid rfl 92 _ (by rfl) g (j * 3) (by rfl) [.int .i64 x.d, .int .i64 x.a, .slice D x.b.length cd] _ Hrp.out Tryz.underlying92 rfl (by kernel_rfl) ?_)
                | (go_at_call 96; refine CW.out.mono ?_; rintro e w2 ⟨rfl, ht⟩; have Ht := Lib.hid (HX.out _ _ ht); clear ht)
                | (go_at_call 95; refine (CH0.out _).mono ?_; rintro e w3 ⟨rfl, rfl⟩))
              go_roundw
              case rel => exact ⟨j + 1, by omega, by go_num, by rw [HG.out], by rw [HG.out]; exact Ht.out⟩
              case measure => simp [intOf]; omega
            · have CHx := Lib.hid (fun V => hinders_any e V)
              rw [hindX h0 h5] at CHx
              have HE := Lib.hid (show settleS N l = (e, Nx) by
                have q1 := HST.out (by rw [HG.out]; exact h0)
                rw [HG.out] at q1
                rw [HS.out, q1])
              clear h5 h0 CH Hw HST HG
              go_wp2_with (first
                | ((with_reducible refine (id ?_ : wpList _ _ _ (⟨some 34, _, _, _, _, _⟩ :: _) _ _)); refine wpList_load_mid rfl 92 _ (by rfl) g (j * 3) (by rfl) [.int .i64 x.d, .int .i64 x.a, .slice D x.b.length cd] _ Hrp.out Tryz.underlying92 rfl (by kernel_rfl) ?_)
                | (go_at_call 96; refine CW.out.mono ?_; rintro e w2 ⟨rfl, ht⟩; have Ht := Lib.hid (HX.out _ _ ht); clear ht)
                | (go_at_call 95; refine (CHx.out _).mono ?_; rintro e w3 ⟨rfl, rfl⟩))
              go_ret
              exact ⟨by rw [HE.out]; rfl, by rw [HE.out]; exact Ht.out⟩
        · obtain rfl : j = l.length := by omega
          have HE := Lib.hid (show settleS N l = (0, (runTo itFl l M l.length).2) by rw [HS.out]; exact Prod.ext Hz.out rfl)
          clear HS
          go_wp2
          go_ret
          exact ⟨by rw [HE.out]; rfl, by rw [HE.out]; exact Hbc.out⟩
end Go.Proofs.YtenkkdnepmoihaaGreatDoor
end
