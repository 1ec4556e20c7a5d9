/- Texts put together: StpFld, StpStd, LogPutG. -/
import Derived.Test.YtenkkdnepmoihaaGreatDoorUeaw
import Derived.Test.YtenkkdnepmoihaaGreatDoorUeaz
import Derived.Test.YtenkkdnepmoihaaGreatDoorUeav
section
set_option linter.unusedVariables false
set_option linter.unusedSimpArgs false
namespace Go.Proofs.YtenkkdnepmoihaaGreatDoor

/-- A bench with power, without a limit, on which nothing is pending. -/
structure Gd (N : Bch) (m : Nat) : Prop where
  n : N.n = m
  dn : N.down = false
  lf : N.left = -1
  done : N.done = 0
  ps : ∀ i, i < m → (N.D i).ps = []
  ok : ∀ i, i < m → (N.D i).Ok
  f : ∀ i, i < m → (N.D i).f = false
/-- The rows below s stand on it, and of row s what is on disks below j. -/
structure Fld (N : Bch) (m D : Nat) (fl : Nat → List (List UInt8)) (s j : Nat) : Prop where
  gd : Gd N m
  at' : ∀ t i, i < D → t < 16 → t < s ∨ (t = s ∧ i < j) → secAt (N.D i).now (36 + t) = (fl t).getD i []
theorem gd_new (m : Nat) : Gd (Bch.new m) m := ⟨rfl, rfl, rfl, rfl, fun _ _ => rfl, fun _ _ => Dsk.new_ok, fun _ _ => rfl⟩
theorem fld_new (m D : Nat) (fl : Nat → List (List UInt8)) : Fld (Bch.new m) m D fl 0 0 := ⟨gd_new m, fun t i _ _ h => by omega⟩
theorem damage_do {N : Bch} {d k : Nat} {x : List UInt8} (hd : d < N.n) (hk : k < 52) (hx : x.length = 32) (hf : (N.D d).f = false) : N.damage (d : Int) (k : Int) x = N.set d ((N.D d).damage k x) := by
  unfold Bch.damage
  rw [if_neg (by rw [Bch.pickE_ok (by omega) (by omega)]; simp)]
  show N.set d ((N.D d).damageE (k : Int) x) = _
  unfold Dsk.damageE
  rw [if_pos (by rw [hx, hf]; exact takeE_ok (by omega) (by omega))]
  rfl
theorem gd_damage {N : Bch} {m d k : Nat} {x : List UInt8} (h : Gd N m) (hd : d < m) (hk : k < 52) (hx : x.length = 32) : Gd (N.damage (d : Int) (k : Int) x) m := by
  rw [damage_do (by rw [h.n]; exact hd) hk hx (h.f d hd)]
  refine ⟨h.n, h.dn, h.lf, h.done, fun i hi => ?_, fun i hi => ?_, fun i hi => ?_⟩ <;> show _
  · show (upd N.D d _ i).ps = []
    by_cases e : i = d
    · subst e; rw [upd_same]; show List.filter _ (N.D i).ps = []; rw [h.ps i hi]; rfl
    · rw [upd_other _ _ e]; exact h.ps i hi
  · show (upd N.D d _ i).Ok
    by_cases e : i = d
    · subst e; rw [upd_same]; exact (h.ok i hi).damage hk hx
    · rw [upd_other _ _ e]; exact h.ok i hi
  · show (upd N.D d _ i).f = false
    by_cases e : i = d
    · subst e; rw [upd_same]; exact h.f i hi
    · rw [upd_other _ _ e]; exact h.f i hi
theorem sec_damage {N : Bch} {m d k : Nat} {x : List UInt8} (h : Gd N m) (hd : d < m) (hk : k < 52) (hx : x.length = 32) (i j : Nat) : secAt ((N.damage (d : Int) (k : Int) x).D i).now j = if i = d ∧ j = k then x else secAt (N.D i).now j := by
  rw [damage_do (by rw [h.n]; exact hd) hk hx (h.f d hd)]
  show secAt (upd N.D d _ i).now j = _
  by_cases e : i = d
  · subst e
    rw [upd_same, Dsk.damage_now (h.ok i hd) hk hx]
    by_cases e2 : j = k
    · subst e2; rw [if_pos ⟨rfl, rfl⟩]; exact sec_put_same (h.ok i hd).now hk hx
    · rw [if_neg (fun q => e2 q.2)]; exact sec_put_other (h.ok i hd).now hk hx e2
  · rw [upd_other _ _ e, if_neg (fun q => e q.1)]
theorem fld_damage {N : Bch} {m D : Nat} {fl : Nat → List (List UInt8)} {s j : Nat} (h : Fld N m D fl s j) (hj : j < m) (hs : s < 16) (hx : ((fl s).getD j []).length = 32) : Fld (N.damage (j : Int) ((36 + s : Nat) : Int) ((fl s).getD j [])) m D fl s (j + 1) := by
  refine ⟨gd_damage h.gd hj (by omega) hx, fun t i hi ht h2 => ?_⟩
  rw [sec_damage h.gd hj (by omega) hx]
  by_cases e : i = j ∧ 36 + t = 36 + s
  · rw [if_pos e]
    obtain ⟨rfl, e2⟩ := e
    obtain rfl : t = s := by omega
    rfl
  · rw [if_neg e]
    exact h.at' t i hi ht (by omega)
theorem fld_next {N : Bch} {m D : Nat} {fl : Nat → List (List UInt8)} {s : Nat} (h : Fld N m D fl s D) : Fld N m D fl (s + 1) 0 := ⟨h.gd, fun t i hi ht h2 => h.at' t i hi ht (by omega)⟩
/-- Filled. -/
theorem Fld.all {N : Bch} {m D : Nat} {fl : Nat → List (List UInt8)} (h : Fld N m D fl 16 0) {t i : Nat} (hi : i < D) (ht : t < 16) : secAt (N.D i).now (36 + t) = (fl t).getD i [] := h.at' t i hi ht (by omega)
end Go.Proofs.YtenkkdnepmoihaaGreatDoor
end
section
set_option linter.unusedVariables false
set_option linter.unusedSimpArgs false
namespace Go.Proofs.YtenkkdnepmoihaaGreatDoor

structure Std (N : Bch) (m D : Nat) (fl : Nat → List (List UInt8)) : Prop where
  n : N.n = m
  dn : N.down = false
  at' : ∀ i, i < D → ∀ t, t < 16 → (N.D i).f = false → secAt (N.D i).now (36 + t) = (fl t).getD i []
section
variable {N : Bch} {m D F W : Nat} {fl : Nat → List (List UInt8)} {n l c : Int} {t : Nat} {lv : List Bool} {rs : List (List UInt8)}
/-- The sectors that are read: nothing, or the row's. -/
theorem Std.read (h : Std N m D fl) (ht : t < 16) (h32 : ∀ i, i < D → ((fl t).getD i []).length = 32) : (∀ i, i < D → ((ssL N lv (36 + t) D).getD i []).length = 0 ∨ (ssL N lv (36 + t) D).getD i [] = (fl t).getD i []) ∧ (∀ i, i < D → emptyB (ssL N lv (36 + t) D) i = !srvD N lv i) := by
  refine ⟨fun i hi => ?_, fun i hi => ?_⟩
  · rw [ssL_get hi]
    split
    · next hs => exact .inr (h.at' i hi t ht (srvD_yes hs).2.2)
    · exact .inl rfl
  · unfold emptyB
    rw [ssL_get hi]
    cases hs : srvD N lv i with
    | true => rw [if_pos rfl, h.at' i hi t ht (srvD_yes hs).2.2, h32 i hi]; rfl
    | false => rw [if_neg (by simp)]; rfl
theorem take_either {l d c r : Int} {rs xs : List (List UInt8)} (h : fillOk l d c r rs = true) (hl : xs.length = roD d) (hx : ∀ i, i < roD d → (xs.getD i []).length = 0 ∨ xs.getD i [] = (fillL (roD d) (roF l d c r) rs).getD i []) (hs : (roTake l d c r xs).isSome = true) : roTake l d c r xs = some rs := by
  refine take_back h hl hx ?_
  rw [roTake_yes (fillOk_yes h).1 hl] at hs
  unfold solveB at hs
  split at hs
  · next hc =>
    rw [Bool.and_eq_true] at hc
    have := hc.2
    unfold canB at this
    rw [Bool.and_eq_true] at this
    exact of_decide_eq_true this.1
  · cases hs
/-- Read of a row: told, or lost. -/
theorem Std.told (h : Std N m D fl) (gr : Gr n l c (t : Int) D F W) (hrs : rs.length = W) (ha : ∀ x ∈ rs, x.length = 32) (hfl : fl t = fillL D F rs) (lv : List Bool) :
    if (roTake l (D : Int) c (t : Int) (ssL N lv (36 + t) D)).isSome = true then srdE N lv l (D : Int) c (t : Int) = 0 ∧ srdL N lv l (D : Int) c (t : Int) = rs else srdE N lv l (D : Int) c (t : Int) = 7 ∧ srdL N lv l (D : Int) c (t : Int) = [] := by
  have ht : t < 16 := by have := gr.r0; omega
  have h32 : ∀ i, i < D → ((fl t).getD i []).length = 32 := fun i hi => by rw [hfl]; exact gr.fills hrs ha hi
  obtain ⟨h1, h2⟩ := h.read (lv := lv) ht h32
  have e36 : ssL N lv (36 + ((t : Int)).toNat) (roD (D : Int)) = ssL N lv (36 + t) D := by rw [gr.eD]; rfl
  split
  · next hs =>
    refine srdE_ok gr.ok (.inl h.dn) ?_
    rw [e36]
    refine take_either (gr.fok hrs ha) (by rw [ssL_len, gr.eD]) (fun i hi => ?_) hs
    rw [gr.eD] at hi
    rw [gr.eD, gr.eF, ← hfl]
    exact h1 i hi
  · next hs =>
    refine srdE_lost gr.ok (.inl h.dn) ?_
    rw [e36]
    cases hq : roTake l (D : Int) c (t : Int) (ssL N lv (36 + t) D) with
    | none => rfl
    | some L => rw [hq] at hs; exact absurd rfl hs
/-- With not more missing than may be it is told. -/
theorem Std.ok (h : Std N m D fl) (gr : Gr n l c (t : Int) D F W) (hrs : rs.length = W) (ha : ∀ x ∈ rs, x.length = 32) (hfl : fl t = fillL D F rs) (hc : ((cntB D (fun i => !srvD N lv i) : Nat) : Int) ≤ l - 4) :
    srdE N lv l (D : Int) c (t : Int) = 0 ∧ srdL N lv l (D : Int) c (t : Int) = rs := by
  have ht : t < 16 := by have := gr.r0; omega
  have h32 : ∀ i, i < D → ((fl t).getD i []).length = 32 := fun i hi => by rw [hfl]; exact gr.fills hrs ha hi
  obtain ⟨h1, h2⟩ := h.read (lv := lv) ht h32
  have := h.told gr hrs ha hfl lv
  rw [if_pos] at this
  · exact this
  · rw [lose_ok (gr.fok hrs ha) (by rw [ssL_len, gr.eD]) (fun i hi => by
      rw [gr.eD] at hi
      rw [gr.eD, gr.eF, ← hfl]
      exact h1 i hi) (by rw [gr.eD, cntB_congr h2]; exact hc)]
    rfl
end
/-- A row written: it stands on the disks that serve. -/
def flSet (fl : Nat → List (List UInt8)) (r : Nat) (x : List (List UInt8)) : Nat → List (List UInt8) := fun t => if t = r then x else fl t
end Go.Proofs.YtenkkdnepmoihaaGreatDoor
end
section
set_option linter.unusedVariables false
set_option linter.unusedSimpArgs false
namespace Go.Proofs.YtenkkdnepmoihaaGreatDoor

theorem logR_ext {D : Dsk} {rs : List (List UInt8)} (hl : rs.length = 4) (h : ∀ k, k < 4 → secAt D.now (2 + k) = rs.getD k []) : logR D = rs := by
  apply List.ext_getElem (by simp [logR, hl])
  intro k h1 h2
  have hk : k < 4 := by omega
  have := h k hk
  rw [List.getD_eq_getElem?_getD, List.getElem?_eq_getElem h2] at this
  simpa [logR] using this
theorem logR_same {D D' : Dsk} (h : ∀ k, k < 52 → secAt D'.now k = secAt D.now k) : logR D' = logR D :=
  List.map_congr_left fun k hk => h _ (by have := List.mem_range.1 hk; omega)
theorem gone_good {N : Bch} (h : N.down = false) (j : Nat) : goneD N j = (N.D j).f := by unfold goneD; rw [h]; rfl
theorem onS_f {N : Bch} {j : Nat} (hd : N.down = false) (h : (N.D j).f = true) : onS N j = 0 ∧ onL N j = [] ∧ onB N j = false := by
  have e : goneD N j = true := (gone_good hd j).trans h
  exact ⟨if_pos e, if_pos e, if_pos e⟩
theorem onS_ok {N : Bch} {j : Nat} (hd : N.down = false) (h : (N.D j).f = false) : onS N j = rcS (logR (N.D j)) ∧ onL N j = rcL (logR (N.D j)) ∧ onB N j = rcO (logR (N.D j)) := by
  have e : ¬ goneD N j = true := by rw [gone_good hd j, h]; decide
  exact ⟨if_neg e, if_neg e, if_neg e⟩
theorem onS_alike {N M : Bch} {j : Nat} (hd : N.down = false) (hd' : M.down = false) (hf : (M.D j).f = (N.D j).f) (h : logR (M.D j) = logR (N.D j)) : onS M j = onS N j ∧ onL M j = onL N j := by
  cases hff : (N.D j).f with
  | true => rw [(onS_f hd hff).1, (onS_f hd hff).2.1, (onS_f hd' (hf.trans hff)).1, (onS_f hd' (hf.trans hff)).2.1]; exact ⟨rfl, rfl⟩
  | false => rw [(onS_ok hd hff).1, (onS_ok hd hff).2.1, (onS_ok hd' (hf.trans hff)).1, (onS_ok hd' (hf.trans hff)).2.1, h]; exact ⟨rfl, rfl⟩
theorem onS_rec {M : Bch} {j : Nat} {s : Int} {l : List It} (hd : M.down = false) (hf : (M.D j).f = false) (hk : recOk s l = true) (h : logR (M.D j) = recB s l) : onS M j = s ∧ onL M j = l := by
  rw [(onS_ok hd hf).1, (onS_ok hd hf).2.1, h]; exact ⟨rcS_recB hk, rcL_recB hk⟩
structure PtG (N M : Bch) (lv : List Bool) (s : Int) (l : List It) : Prop where
  n : M.n = N.n
  good : GoodB M
  f : ∀ j, j < N.n → (M.D j).f = (N.D j).f
  done : M.done ≤ N.done + 32
  put : ∀ j, j < N.n → liveD N.n lv (j : Int) = true → (N.D j).f = false → onS M j = s ∧ onL M j = l
  not : ∀ j, j < N.n → ¬ (liveD N.n lv (j : Int) = true ∧ (N.D j).f = false) → onS M j = onS N j ∧ onL M j = onL N j
theorem fit_put {N : Bch} {lv : List Bool} {s : Int} {l : List It} (hk : recOk s l = true) : FitI N.n (putTo N.n lv (recB s l) N.n) := fun x hx => by
  obtain ⟨j, k, hj, hk4, _, rfl⟩ := mem_put.1 hx
  have h4 := ((sect_iff _).1 (sect_recB hk)).1
  exact ⟨by show (0 : Int) ≤ (j : Int); omega, by show (j : Int) < _; omega, by show (0 : Int) ≤ ((2 + k : Nat) : Int); omega, by show ((2 + k : Nat) : Int) < 52; omega, sect_get (sect_recB hk) k (by omega)⟩
theorem put_good {N : Bch} {lv : List Bool} {s : Int} {l : List It} (hg : GoodB N) (hn : N.n ≤ 8) (hk : recOk s l = true) : (putS N lv s l).1 = 0 ∧ PtG N (putS N lv s l).2 lv s l := by
  obtain ⟨h0, g⟩ := settle_good hg (fit_put (lv := lv) hk)
  have e : putS N lv s l = settleS N (putTo N.n lv (recB s l) N.n) := if_pos hk
  have h4 := ((sect_iff _).1 (sect_recB hk)).1
  rw [e]
  refine ⟨h0, g.n, g.good, g.f, ?_, fun j hj hl hf => ?_, fun j hj h => ?_⟩
  · have h1 := putTo_len N.n lv (recB s l) N.n
    have h2 : N.n * (recB s l).length ≤ 32 := by rw [h4]; omega
    have := g.done; omega
  · refine onS_rec g.good.dn ((g.f j hj).trans hf) hk (logR_ext h4 fun k hk4 => ?_)
    rw [g.sec j hj hf (2 + k) (by omega)]
    refine lastI_one (fun x hx he => ?_) (.inr ⟨secIt j (recB s l) k, mem_put.2 ⟨j, k, hj, by omega, hl, rfl⟩, rfl, rfl⟩)
    obtain ⟨j', k', _, _, _, rfl⟩ := mem_put.1 hx
    have h2 : ((2 + k' : Nat) : Int) = ((2 + k : Nat) : Int) := he.2
    obtain rfl : k' = k := by omega
    rfl
  · cases hf : (N.D j).f with
    | true => rw [(onS_f hg.dn hf).1, (onS_f hg.dn hf).2.1, (onS_f g.good.dn ((g.f j hj).trans hf)).1, (onS_f g.good.dn ((g.f j hj).trans hf)).2.1]; exact ⟨rfl, rfl⟩
    | false =>
      have hl : liveD N.n lv (j : Int) = false := by rw [← Bool.not_eq_true]; exact fun q => h ⟨q, hf⟩
      refine onS_alike hg.dn g.good.dn (g.f j hj) (logR_same fun k hk52 => ?_)
      rw [g.sec j hj hf k hk52]
      refine lastI_none fun x hx he => ?_
      obtain ⟨j', k', _, _, hl', rfl⟩ := mem_put.1 hx
      have h2 : ((j' : Nat) : Int) = (j : Int) := he.1
      obtain rfl : j' = j := by omega
      rw [hl] at hl'; cases hl'
structure ApG (N M : Bch) (lv : List Bool) (l : List It) : Prop where
  n : M.n = N.n
  good : GoodB M
  f : ∀ j, j < N.n → (M.D j).f = (N.D j).f
  done : M.done ≤ N.done + 3
  has : ∀ j, j < N.n → onS M j = onS N j ∧ onL M j = onL N j
  sec : ∀ j, j < N.n → (N.D j).f = false → ∀ k, k < 52 → secAt (M.D j).now k = lastI (l.filter (liveI N.n lv)) j k (secAt (N.D j).now k)
  at' : ∀ x ∈ l, liveD N.n lv x.d = true → (N.D x.d.toNat).f = false → secAt (M.D x.d.toNat).now x.a.toNat = x.b
  not : ∀ j, j < N.n → (N.D j).f = false → ∀ k : Nat, k < 52 → (∀ x ∈ l, liveD N.n lv x.d = true → ¬ (x.d = (j : Int) ∧ x.a = (k : Int))) → secAt (M.D j).now k = secAt (N.D j).now k
theorem recOk_once {s : Int} {l : List It} (h : recOk s l = true) (x y : It) (hx : x ∈ l) (hy : y ∈ l) (hd : x.d = y.d) (ha : x.a = y.a) : x = y := by
  obtain ⟨i, hi, ei⟩ := List.getElem_of_mem hx
  obtain ⟨j, hj, ej⟩ := List.getElem_of_mem hy
  have hi2 : itN l i = x := by rw [← ei]; simp [itN, List.getD_eq_getElem?_getD, hi]
  have hj2 : itN l j = y := by rw [← ej]; simp [itN, List.getD_eq_getElem?_getD, hj]
  have hf := (fineN_iff _ _).1 ((recOk_iff s l).1 h).2
  have hm : meetsB x y = true := (meetsB_iff _ _).2 ⟨hd, ha⟩
  have hm2 : meetsB y x = true := (meetsB_iff _ _).2 ⟨hd.symm, ha.symm⟩
  rcases Nat.lt_trichotomy i j with q | q | q
  · have := (hf j hj).2 i q; rw [hi2, hj2, hm2] at this; cases this
  · subst q; exact hi2.symm.trans hj2
  · have := (hf i hi).2 j q; rw [hi2, hj2, hm] at this; cases this
theorem app_good {N : Bch} {lv : List Bool} {s : Int} {l : List It} (hg : GoodB N) (hk : recOk s l = true) : (appS N lv s l).1 = 0 ∧ ApG N (appS N lv s l).2 lv l := by
  have hfit : FitI N.n (l.filter (liveI N.n lv)) := fun x hx => by
    obtain ⟨h1, h2⟩ := List.mem_filter.1 hx
    have h3 := recOk_may hk x h1
    unfold liveI liveD at h2
    have h4 : x.d < (N.n : Int) := by
      have := (Bool.and_eq_true_iff.1 h2).1
      exact of_decide_eq_true this
    exact ⟨h3.1, h4, by omega, h3.2.2.2.1, h3.2.2.2.2⟩
  obtain ⟨h0, g⟩ := settle_good hg hfit
  have e : appS N lv s l = settleS N (l.filter (liveI N.n lv)) := if_pos hk
  have hl3 := ((recOk_iff s l).1 hk).1.2.2
  have hlen := List.length_filter_le (liveI N.n lv) l
  rw [e]
  have hnot : ∀ j, j < N.n → (N.D j).f = false → ∀ k : Nat, k < 52 → (∀ x ∈ l, liveD N.n lv x.d = true → ¬ (x.d = (j : Int) ∧ x.a = (k : Int))) → secAt ((settleS N (l.filter (liveI N.n lv))).2.D j).now k = secAt (N.D j).now k := fun j hj hf k hk52 h => by
    rw [g.sec j hj hf k hk52]
    exact lastI_none fun x hx he => h x (List.mem_filter.1 hx).1 (List.mem_filter.1 hx).2 he
  refine ⟨h0, g.n, g.good, g.f, by have := g.done; omega, fun j hj => ?_, g.sec, fun x hx hl hf => ?_, hnot⟩
  · cases hf : (N.D j).f with
    | true => rw [(onS_f hg.dn hf).1, (onS_f hg.dn hf).2.1, (onS_f g.good.dn ((g.f j hj).trans hf)).1, (onS_f g.good.dn ((g.f j hj).trans hf)).2.1]; exact ⟨rfl, rfl⟩
    | false =>
      refine onS_alike hg.dn g.good.dn (g.f j hj) (List.map_congr_left fun k hk4 => hnot j hj hf (2 + k) (by have := List.mem_range.1 hk4; omega) fun x hx _ he => ?_)
      have h3 := recOk_may hk x hx
      have := List.mem_range.1 hk4
      omega
  · have h3 := recOk_may hk x hx
    have hmem : x ∈ l.filter (liveI N.n lv) := List.mem_filter.2 ⟨hx, hl⟩
    have hn := (hfit x hmem).2.1
    rw [g.sec x.d.toNat (by omega) hf x.a.toNat (by omega)]
    refine lastI_one (fun y hy he => ?_) (.inr ⟨x, hmem, by omega, by omega⟩)
    rw [recOk_once hk y x (List.mem_filter.1 hy).1 hx (by omega) (by omega)]
theorem goodB_new (n : Nat) : GoodB (Bch.new n) := ⟨rfl, rfl, fun _ _ => Dsk.new_ok, fun _ _ => rfl⟩
end Go.Proofs.YtenkkdnepmoihaaGreatDoor
end
