/- Texts put together: Kx, LogPutG, PlayLive. -/
import Derived.Test.YtkbhnbkjpnigkaaDoorLdax
import Derived.Test.YtkbhnbkjpnigkaaDoorLdac
section
set_option maxRecDepth 8000
set_option linter.unusedVariables false
set_option linter.unusedSimpArgs false
namespace Go.Proofs.YtkbhnbkjpnigkaaDoor
open Go.RowKit

structure KX (W w : World) (b : Nat) (H : BH) (N : Bch) (K : List (Nat × Obj)) : Prop where
  bp : BP W w b H N
  kp : ∀ p ∈ K, w.heap[p.1]? = some p.2 ∧ ¬ BF b H N.n p.1 ∧ W.heap.size ≤ p.1
section
variable {W w w' : World} {b : Nat} {H : BH} {N : Bch} {K : List (Nat × Obj)}
theorem KX.below (h : KX W w b H N K) (hb : Below w.heap.size w w') : KX W w' b H N K :=
  ⟨h.bp.grow hb, fun p hp => ⟨(hb.block _ (Array.getElem?_eq_some_iff.1 (h.kp p hp).1).1).trans (h.kp p hp).1, (h.kp p hp).2⟩⟩
theorem KX.bc (h : KX W w b H N K) {N' : Bch} (hc : BC W w w' b H N.n N') (hn : N'.n = N.n) : ∃ H', KX W w' b H' N' K := by
  obtain ⟨H', a, c, m⟩ := hc
  refine ⟨H', a, fun p hp => ?_⟩
  obtain ⟨h1, h2, h3⟩ := h.kp p hp
  have hl := (Array.getElem?_eq_some_iff.1 h1).1
  exact ⟨(c.block _ hl h2).trans h1, by rw [hn]; exact BC.off m hl h2, h3⟩
theorem KX.add (h : KX W w b H N K) (o : Obj) : KX W (w.alloc o) b H N ((w.heap.size, o) :: K) := by
  refine ⟨h.bp.alloc o, fun p hp => ?_⟩
  rcases List.mem_cons.1 hp with rfl | hp
  · exact ⟨heap_alloc_new _ _, (fun e => by have h9 : w.heap.size < w.heap.size := (h.bp.at'.flt e).2; omega), h.bp.bel.size⟩
  · exact (h.below (below1 w o)).kp p hp
/-- A kept block is written. -/
theorem KX.put (h : KX W w b H N K) {p : Nat} {o o' : Obj} {K1 K2 : List (Nat × Obj)} (hK : K = K1 ++ (p, o) :: K2) (hg : w.grownBy w' (some p)) (hb : w'.heap[p]? = some o') (hne : ∀ r ∈ K1 ++ K2, r.1 ≠ p) : KX W w' b H N (K1 ++ (p, o') :: K2) := by
  subst hK
  have hp := h.kp (p, o) (by simp)
  have hch := chg_grown hg
  refine ⟨h.bp.chg hch (fun k e => by injection e with e; subst e; exact hp.2.2) (fun k hk e => by injection e with e; subst e; exact hp.2.1 hk), fun r hr => ?_⟩
  rcases List.mem_append.1 hr with h1 | h1
  · have h2 := h.kp r (by simp [h1])
    exact ⟨(hg.block _ (Array.getElem?_eq_some_iff.1 h2.1).1 (fun e => by injection e with e; exact hne r (by simp [h1]) e)).trans h2.1, h2.2⟩
  · rcases List.mem_cons.1 h1 with rfl | h1
    · exact ⟨hb, hp.2⟩
    · have h2 := h.kp r (by simp [h1])
      exact ⟨(hg.block _ (Array.getElem?_eq_some_iff.1 h2.1).1 (fun e => by injection e with e; exact hne r (by simp [h1]) e)).trans h2.1, h2.2⟩
end
theorem rdo_row {w : World} {g : Nat} {l : List Bool} {cs : Array Value} {t : TypeId} {f : Nat × Nat} (h : w.heap[g]? = some (.cells cs t f)) (hcs : cs = (l.map Value.bool).toArray) (hl : l.length ≤ 1000000) : RdO w w.heap.size (some ⟨g, 0, none⟩) l := by
  subst hcs
  refine ⟨by omega, fun hn => ⟨g, 0, rfl, (Array.getElem?_eq_some_iff.1 h).1, fun k hk => ?_⟩⟩
  rw [Nat.zero_add, cell_of_row w g k _ t f h, List.getElem?_toArray, List.getElem?_map, List.getElem?_eq_getElem hk]
  simp [List.getD_eq_getElem?_getD, hk]
theorem damage_n (N : Bch) (d k : Int) (x : List UInt8) : (N.damage d k x).n = N.n := by unfold Bch.damage; split <;> rfl
theorem fail_n (N : Bch) (d : Int) : (N.fail d).n = N.n := by unfold Bch.fail; split <;> rfl
/-- Three of yes and no. -/
theorem KX.old {W w : World} {b : Nat} {H : BH} {N : Bch} {K : List (Nat × Obj)} (h : KX W w b H N K) {g : Nat} {o : Obj} (hg : w.heap[g]? = some o) (off : ¬ BF b H N.n g) (hW : W.heap.size ≤ g) : KX W w b H N ((g, o) :: K) :=
  ⟨h.bp, fun p hp => by
    rcases List.mem_cons.1 hp with rfl | hp
    · exact ⟨hg, off, hW⟩
    · exact h.kp p hp⟩
section
variable {W w : World} {b : Nat} {H : BH} {N : Bch} {K : List (Nat × Obj)} (h : KX W w b H N K)
include h
end
end Go.Proofs.YtkbhnbkjpnigkaaDoor
end
section
set_option linter.unusedVariables false
set_option linter.unusedSimpArgs false
namespace Go.Proofs.YtkbhnbkjpnigkaaDoor

theorem logR_get' (D : Dsk) {k : Nat} (hk : k < 4) : (logR D).getD k [] = secAt D.now (2 + k) := by simp [logR, hk]
theorem logR_ext {D : Dsk} {rs : List (List UInt8)} (hl : rs.length = 4) (h : ∀ k, k < 4 → secAt D.now (2 + k) = rs.getD k []) : logR D = rs := by
  apply List.ext_getElem (by simp [logR, hl])
  intro k h1 h2
  have hk : k < 4 := by omega
  have := h k hk
  rw [List.getD_eq_getElem?_getD, List.getElem?_eq_getElem h2] at this
  simpa [logR] using this
theorem logR_same {D D' : Dsk} (h : ∀ k, k < 52 → secAt D'.now k = secAt D.now k) : logR D' = logR D :=
  List.map_congr_left fun k hk => h _ (by have := List.mem_range.1 hk; omega)
theorem gone_good {N : Bch} (h : N.down = false) (j : Nat) : goneD N j = (N.D j).f := by unfold goneD; rw [h]; rfl
theorem onS_f {N : Bch} {j : Nat} (hd : N.down = false) (h : (N.D j).f = true) : onS N j = 0 ∧ onL N j = [] ∧ onB N j = false := by
  have e : goneD N j = true := (gone_good hd j).trans h
  exact ⟨if_pos e, if_pos e, if_pos e⟩
theorem onS_ok {N : Bch} {j : Nat} (hd : N.down = false) (h : (N.D j).f = false) : onS N j = rcS (logR (N.D j)) ∧ onL N j = rcL (logR (N.D j)) ∧ onB N j = rcO (logR (N.D j)) := by
  have e : ¬ goneD N j = true := by rw [gone_good hd j, h]; decide
  exact ⟨if_neg e, if_neg e, if_neg e⟩
theorem rcS_pos (rs : List (List UInt8)) : rcO rs = decide (0 < rcS rs) := by
  unfold rcS
  cases h : rcO rs with
  | true =>
    have := ((recOk_iff _ _).1 ((rcO_iff rs).1 h).2.1).1
    rw [if_pos rfl]; exact (decide_eq_true (by omega)).symm
  | false => rfl
theorem onB_pos (N : Bch) (j : Nat) : onB N j = decide (0 < onS N j) := by
  unfold onB onS
  split
  · rfl
  · exact rcS_pos _
theorem onS_alike {N M : Bch} {j : Nat} (hd : N.down = false) (hd' : M.down = false) (hf : (M.D j).f = (N.D j).f) (h : logR (M.D j) = logR (N.D j)) : onS M j = onS N j ∧ onL M j = onL N j := by
  cases hff : (N.D j).f with
  | true => rw [(onS_f hd hff).1, (onS_f hd hff).2.1, (onS_f hd' (hf.trans hff)).1, (onS_f hd' (hf.trans hff)).2.1]; exact ⟨rfl, rfl⟩
  | false => rw [(onS_ok hd hff).1, (onS_ok hd hff).2.1, (onS_ok hd' (hf.trans hff)).1, (onS_ok hd' (hf.trans hff)).2.1, h]; exact ⟨rfl, rfl⟩
theorem onS_rec {M : Bch} {j : Nat} {s : Int} {l : List It} (hd : M.down = false) (hf : (M.D j).f = false) (hk : recOk s l = true) (h : logR (M.D j) = recB s l) : onS M j = s ∧ onL M j = l := by
  rw [(onS_ok hd hf).1, (onS_ok hd hf).2.1, h]; exact ⟨rcS_recB hk, rcL_recB hk⟩
structure PtG (N M : Bch) (lv : List Bool) (s : Int) (l : List It) : Prop where
  n : M.n = N.n
  good : GoodB M
  f : ∀ j, j < N.n → (M.D j).f = (N.D j).f
  done : M.done ≤ N.done + 32
  put : ∀ j, j < N.n → liveD N.n lv (j : Int) = true → (N.D j).f = false → onS M j = s ∧ onL M j = l
  not : ∀ j, j < N.n → ¬ (liveD N.n lv (j : Int) = true ∧ (N.D j).f = false) → onS M j = onS N j ∧ onL M j = onL N j
theorem fit_put {N : Bch} {lv : List Bool} {s : Int} {l : List It} (hk : recOk s l = true) : FitI N.n (putTo N.n lv (recB s l) N.n) := fun x hx => by
  obtain ⟨j, k, hj, hk4, _, rfl⟩ := mem_put.1 hx
  have h4 := ((sect_iff _).1 (sect_recB hk)).1
  exact ⟨by show (0 : Int) ≤ (j : Int); omega, by show (j : Int) < _; omega, by show (0 : Int) ≤ ((2 + k : Nat) : Int); omega, by show ((2 + k : Nat) : Int) < 52; omega, sect_get (sect_recB hk) k (by omega)⟩
theorem put_good {N : Bch} {lv : List Bool} {s : Int} {l : List It} (hg : GoodB N) (hn : N.n ≤ 8) (hk : recOk s l = true) : (putS N lv s l).1 = 0 ∧ PtG N (putS N lv s l).2 lv s l := by
  obtain ⟨h0, g⟩ := settle_good hg (fit_put (lv := lv) hk)
  have e : putS N lv s l = settleS N (putTo N.n lv (recB s l) N.n) := if_pos hk
  have h4 := ((sect_iff _).1 (sect_recB hk)).1
  rw [e]
  refine ⟨h0, g.n, g.good, g.f, ?_, fun j hj hl hf => ?_, fun j hj h => ?_⟩
  · have h1 := putTo_len N.n lv (recB s l) N.n
    have h2 : N.n * (recB s l).length ≤ 32 := by rw [h4]; omega
    have := g.done; omega
  · refine onS_rec g.good.dn ((g.f j hj).trans hf) hk (logR_ext h4 fun k hk4 => ?_)
    rw [g.sec j hj hf (2 + k) (by omega)]
    refine lastI_one (fun x hx he => ?_) (.inr ⟨secIt j (recB s l) k, mem_put.2 ⟨j, k, hj, by omega, hl, rfl⟩, rfl, rfl⟩)
    obtain ⟨j', k', _, _, _, rfl⟩ := mem_put.1 hx
    have h2 : ((2 + k' : Nat) : Int) = ((2 + k : Nat) : Int) := he.2
    obtain rfl : k' = k := by omega
    rfl
  · cases hf : (N.D j).f with
    | true => rw [(onS_f hg.dn hf).1, (onS_f hg.dn hf).2.1, (onS_f g.good.dn ((g.f j hj).trans hf)).1, (onS_f g.good.dn ((g.f j hj).trans hf)).2.1]; exact ⟨rfl, rfl⟩
    | false =>
      have hl : liveD N.n lv (j : Int) = false := by rw [← Bool.not_eq_true]; exact fun q => h ⟨q, hf⟩
      refine onS_alike hg.dn g.good.dn (g.f j hj) (logR_same fun k hk52 => ?_)
      rw [g.sec j hj hf k hk52]
      refine lastI_none fun x hx he => ?_
      obtain ⟨j', k', _, _, hl', rfl⟩ := mem_put.1 hx
      have h2 : ((j' : Nat) : Int) = (j : Int) := he.1
      obtain rfl : j' = j := by omega
      rw [hl] at hl'; cases hl'
structure ApG (N M : Bch) (lv : List Bool) (l : List It) : Prop where
  n : M.n = N.n
  good : GoodB M
  f : ∀ j, j < N.n → (M.D j).f = (N.D j).f
  done : M.done ≤ N.done + 3
  has : ∀ j, j < N.n → onS M j = onS N j ∧ onL M j = onL N j
  sec : ∀ j, j < N.n → (N.D j).f = false → ∀ k, k < 52 → secAt (M.D j).now k = lastI (l.filter (liveI N.n lv)) j k (secAt (N.D j).now k)
  at' : ∀ x ∈ l, liveD N.n lv x.d = true → (N.D x.d.toNat).f = false → secAt (M.D x.d.toNat).now x.a.toNat = x.b
  not : ∀ j, j < N.n → (N.D j).f = false → ∀ k : Nat, k < 52 → (∀ x ∈ l, liveD N.n lv x.d = true → ¬ (x.d = (j : Int) ∧ x.a = (k : Int))) → secAt (M.D j).now k = secAt (N.D j).now k
theorem recOk_once {s : Int} {l : List It} (h : recOk s l = true) (x y : It) (hx : x ∈ l) (hy : y ∈ l) (hd : x.d = y.d) (ha : x.a = y.a) : x = y := by
  obtain ⟨i, hi, ei⟩ := List.getElem_of_mem hx
  obtain ⟨j, hj, ej⟩ := List.getElem_of_mem hy
  have hi2 : itN l i = x := by rw [← ei]; simp [itN, List.getD_eq_getElem?_getD, hi]
  have hj2 : itN l j = y := by rw [← ej]; simp [itN, List.getD_eq_getElem?_getD, hj]
  have hf := (fineN_iff _ _).1 ((recOk_iff s l).1 h).2
  have hm : meetsB x y = true := (meetsB_iff _ _).2 ⟨hd, ha⟩
  have hm2 : meetsB y x = true := (meetsB_iff _ _).2 ⟨hd.symm, ha.symm⟩
  rcases Nat.lt_trichotomy i j with q | q | q
  · have := (hf j hj).2 i q; rw [hi2, hj2, hm2] at this; cases this
  · subst q; exact hi2.symm.trans hj2
  · have := (hf i hi).2 j q; rw [hi2, hj2, hm] at this; cases this
theorem app_good {N : Bch} {lv : List Bool} {s : Int} {l : List It} (hg : GoodB N) (hk : recOk s l = true) : (appS N lv s l).1 = 0 ∧ ApG N (appS N lv s l).2 lv l := by
  have hfit : FitI N.n (l.filter (liveI N.n lv)) := fun x hx => by
    obtain ⟨h1, h2⟩ := List.mem_filter.1 hx
    have h3 := recOk_may hk x h1
    unfold liveI liveD at h2
    have h4 : x.d < (N.n : Int) := by
      have := (Bool.and_eq_true_iff.1 h2).1
      exact of_decide_eq_true this
    exact ⟨h3.1, h4, by omega, h3.2.2.2.1, h3.2.2.2.2⟩
  obtain ⟨h0, g⟩ := settle_good hg hfit
  have e : appS N lv s l = settleS N (l.filter (liveI N.n lv)) := if_pos hk
  have hl3 := ((recOk_iff s l).1 hk).1.2.2
  have hlen := List.length_filter_le (liveI N.n lv) l
  rw [e]
  have hnot : ∀ j, j < N.n → (N.D j).f = false → ∀ k : Nat, k < 52 → (∀ x ∈ l, liveD N.n lv x.d = true → ¬ (x.d = (j : Int) ∧ x.a = (k : Int))) → secAt ((settleS N (l.filter (liveI N.n lv))).2.D j).now k = secAt (N.D j).now k := fun j hj hf k hk52 h => by
    rw [g.sec j hj hf k hk52]
    exact lastI_none fun x hx he => h x (List.mem_filter.1 hx).1 (List.mem_filter.1 hx).2 he
  refine ⟨h0, g.n, g.good, g.f, by have := g.done; omega, fun j hj => ?_, g.sec, fun x hx hl hf => ?_, hnot⟩
  · cases hf : (N.D j).f with
    | true => rw [(onS_f hg.dn hf).1, (onS_f hg.dn hf).2.1, (onS_f g.good.dn ((g.f j hj).trans hf)).1, (onS_f g.good.dn ((g.f j hj).trans hf)).2.1]; exact ⟨rfl, rfl⟩
    | false =>
      refine onS_alike hg.dn g.good.dn (g.f j hj) (List.map_congr_left fun k hk4 => hnot j hj hf (2 + k) (by have := List.mem_range.1 hk4; omega) fun x hx _ he => ?_)
      have h3 := recOk_may hk x hx
      have := List.mem_range.1 hk4
      omega
  · have h3 := recOk_may hk x hx
    have hmem : x ∈ l.filter (liveI N.n lv) := List.mem_filter.2 ⟨hx, hl⟩
    have hn := (hfit x hmem).2.1
    rw [g.sec x.d.toNat (by omega) hf x.a.toNat (by omega)]
    refine lastI_one (fun y hy he => ?_) (.inr ⟨x, hmem, by omega, by omega⟩)
    rw [recOk_once hk y x (List.mem_filter.1 hy).1 hx (by omega) (by omega)]
theorem goodB_new (n : Nat) : GoodB (Bch.new n) := ⟨rfl, rfl, fun _ _ => Dsk.new_ok, fun _ _ => rfl⟩
/-- A mark that is none: nothing is found. -/
theorem rcO_mark {rs : List (List UInt8)} (h : (rs.getD 0 []).getD 0 0 ≠ 87) : rcO rs = false := by
  rw [← Bool.not_eq_true]
  intro h'
  obtain ⟨_, hk, e⟩ := (rcO_iff rs).1 h'
  apply h
  rw [← e, recB_by ((recOk_iff _ _).1 hk).1.2.2 0 (by omega)]
  rfl
theorem getS_new (n : Nat) (lv : List Bool) (hn : n ≤ 8) : getS (Bch.new n) lv = (0, []) := by
  have h : ∀ d, d ≤ n → getTo (Bch.new n) lv d = (0, []) := fun d => by
    induction d with
    | zero => intro _; rfl
    | succ d ih =>
      intro hd
      have e : onB (Bch.new n) d = false := by
        rw [(onS_ok (N := Bch.new n) (j := d) rfl rfl).2.2]
        apply rcO_mark
        rw [logR_get' _ (by omega)]
        show (secAt Dsk.new.now 2).getD 0 0 ≠ 87
        rw [new_now, sec_zero (by omega)]
        decide
      rw [getTo, if_neg (fun q => by rw [e] at q; exact absurd q.2.1 (by decide))]
      exact ih (by omega)
  exact h n (Nat.le_refl _)
end Go.Proofs.YtkbhnbkjpnigkaaDoor
end
section
set_option maxRecDepth 8000
set_option linter.unusedVariables false
set_option linter.unusedSimpArgs false
namespace Go.Proofs.YtkbhnbkjpnigkaaDoor
open Go.RowKit

def liveB (n : Int) (d i : Nat) : Bool := if 0 < withinI n 3 ∧ withinI (n.tdiv 3) d = (i : Int) then false else if withinI n 9 = 8 ∧ withinI (n.tdiv 27) d = (i : Int) then false else true
def liveL (n : Int) (d : Nat) : List Bool := (List.range d).map (liveB n d)
theorem liveL_len (n : Int) (d : Nat) : (liveL n d).length = d := by unfold liveL; simp
theorem live_row {w : World} {g d : Nat} {G : Nat → Value} {n : Int} (h : w.heap[g]? = some (.cells (rowOf G d).toArray 4 (0, 0))) (hG : ∀ j, j < d → G j = .bool (liveB n d j)) : w.heap[g]? = some (.cells ((liveL n d).map Value.bool).toArray 4 (0, 0)) := by
  rw [h]
  have : rowOf G d = (liveL n d).map Value.bool := by
    unfold rowOf liveL
    rw [List.map_map]
    exact List.map_congr_left fun j hj => hG j (List.mem_range.1 hj)
  rw [this]
theorem tdiv_bd (n k : Int) (hn : (-9223372036854775808 ≤ n ∧ n ≤ 9223372036854775807)) (hk : 1 ≤ k) : (-9223372036854775808 ≤ n.tdiv k ∧ n.tdiv k ≤ 9223372036854775807) := by
  have h : (n.tdiv k).natAbs ≤ n.natAbs := by rw [Int.natAbs_tdiv]; exact Nat.div_le_self _ _
  rcases Int.le_total 0 n with h0 | h0
  · have := Int.tdiv_nonneg h0 (show 0 ≤ k by omega)
    omega
  · have : n.tdiv k ≤ 0 := by
      have h1 := Int.tdiv_nonneg (a := -n) (b := k) (by omega) (by omega)
      rw [Int.neg_tdiv] at h1; omega
    omega
set_option maxRecDepth 100000 in
set_option maxHeartbeats 4000000 in
theorem live_any (n : Int) (d : Nat) (w : World) (hn : (-9223372036854775808 ≤ n ∧ n ≤ 9223372036854775807)) (hd : 1 ≤ d ∧ d ≤ 8) :
    Calls Tryd.prog 19 #[.int .i64 n, .int .i64 (d : Int)] w fun e w' => ∃ g, e = .returned (.slice (some ⟨g, 0, none⟩) d d) ∧ w'.heap[g]? = some (.cells ((liveL n d).map Value.bool).toArray 4 (0, 0)) ∧ w.heap.size ≤ g ∧ Below w.heap.size w w' := by
  have hmb := make_bools d (by omega)
  have W3 := Lib.hid (fun V => within_any n 3 V hn (by omega))
  have W9 := Lib.hid (fun V => within_any n 9 V hn (by omega))
  have Wa := Lib.hid (fun V => within_any (n.tdiv 3) (d : Int) V (tdiv_bd n 3 hn (by omega)) (by omega))
  have Wb := Lib.hid (fun V => within_any (n.tdiv 27) (d : Int) V (tdiv_bd n 27 hn (by omega)) (by omega))
  have HL := Lib.hid (fun (V : World) (g : Nat) (G : Nat → Value) => live_row (w := V) (g := g) (d := d) (G := G) (n := n))
  have Hlb : Hid (∀ j, liveB n d j = if 0 < withinI n 3 ∧ withinI (n.tdiv 3) d = (j : Int) then false else if withinI n 9 = 8 ∧ withinI (n.tdiv 27) d = (j : Int) then false else true) := fun j => rfl
  have ba := withinI_bd (n.tdiv 3) (d : Int) (by omega)
  have bb := withinI_bd (n.tdiv 27) (d : Int) (by omega)
  obtain ⟨a, ha⟩ := Int.eq_ofNat_of_zero_le ba.1
  obtain ⟨c, hc⟩ := Int.eq_ofNat_of_zero_le bb.1
  rw [ha] at Wa ba Hlb
  rw [hc] at Wb bb Hlb
  generalize withinI n 3 = q3 at W3 Hlb
  generalize withinI n 9 = q9 at W9 Hlb
  have d0 : (0 : Int) ≤ (d : Int) := by omega
  have d1 : (0 : Int) < (d : Int) := by omega
  have a0 : (0 : Int) ≤ (a : Int) := by omega
  have c0 : (0 : Int) ≤ (c : Int) := by omega
  have ad : a < d := by omega
  have cd : c < d := by omega
  have hi3 := tdiv_bd n 3 hn (by omega)
  have hi27 := tdiv_bd n 27 hn (by omega)
  clear ha hc
  go_enter Tryd.func19, Tryd.ntmps19
  go_wp2
  go_name_world w1 hw1
  have h1 : w1.heap[w.heap.size]? = some (.cells (rowOf (fun _ => .bool false) d).toArray 4 (0, 0)) := by rw [← hw1]; exact hp_new _ _ _ rfl
  have B1 := Lib.hid (show Below w.heap.size w w1 by rw [← hw1]; exact below1 _ _)
  have H1 := Lib.hid h1
  clear hw1 h1
  generalize hgw : w.heap.size = g at *
  have Hgw := Lib.hid hgw
  clear hgw
  go_loopw [11] (fun i wr => ∃ (j : Nat) (G : Nat → Value), j ≤ d ∧ i = .int .i64 j ∧ wr.heap[g]? = some (.cells (rowOf G d).toArray 4 (0, 0)) ∧ (∀ k, k < j → G k = .bool true) ∧ Below g w wr) (fun i _ => d - (intOf i).toNat)
  case atStart => exact ⟨0, _, Nat.zero_le _, rfl, H1.out, fun k hk => by omega, B1.out⟩
  case round =>
    obtain ⟨j, G, hj, rfl, hG, hall, hb⟩ := hrel
    have HG := Lib.hid hG
    have Hall := Lib.hid hall
    have Hb := Lib.hid hb
    clear hG hall hb H1
    have hgl := (Array.getElem?_eq_some_iff.1 HG.out).1
    by_cases hlt : j < d
    · have i0 : (0 : Int) ≤ (j : Int) := by omega
      have i1 : (j : Int) < (d : Int) := by omega
      go_wp2_with (refine wpList_store_blk rfl 4 _ _ (by rfl) g j (.bool true) (by rfl) (by rfl) (rowOf G d) 4 HG.out [.bool true] (by rfl) 1 rfl size_bool1 (by rw [rowOf_len]; omega) (by intro u hu; rw [List.mem_singleton.1 hu]; rfl) (rowOf (upd G j (.bool true)) d) (rowOf_set G _ hlt) ?_; intro w2 h2 g2)
      go_roundw
      case rel => exact ⟨j + 1, upd G j (.bool true), by omega, by go_num, h2, fun k hk => by
        by_cases e : k = j
        · subst e; rw [upd_same]
        · rw [upd_other _ _ e]; exact Hall.out k (by omega), Hb.out.grown g2 (by have := Hb.out.size; rw [Hgw.out] at this; omega) (fun j e => by injection e with e; omega)⟩
      case measure => simp [intOf]; omega
    · obtain rfl : j = d := by omega
      have hz : g ≤ wr.heap.size := by have := Hb.out.size; rw [Hgw.out] at this; exact this
      by_cases h3 : 0 < q3
      · by_cases h9 : q9 = 8
        · have Hl := Lib.hid (fun i => (Hlb.out i).trans (show _ = if (a : Int) = (i : Int) then false else if (c : Int) = (i : Int) then false else true by simp only [h3, h9, true_and]))
          subst h9
          go_wp2_with (first
        | (go_at_call 9; (with_reducible refine (W3.out _).mono ?_); rintro e wxW3 ⟨rfl, rfl⟩)
        | (go_at_call 9; (with_reducible refine (Wa.out _).mono ?_); rintro e wxWa ⟨rfl, rfl⟩)
        | (go_at_call 9; (with_reducible refine (W9.out _).mono ?_); rintro e wxW9 ⟨rfl, rfl⟩)
        | (go_at_call 9; (with_reducible refine (Wb.out _).mono ?_); rintro e wxWb ⟨rfl, rfl⟩)
        | (refine wpList_store_blk rfl 4 _ _ (by rfl) g a (.bool false) (by rfl) (by rfl) (rowOf G j) 4 HG.out [.bool false] (by rfl) 1 rfl size_bool1 (by rw [rowOf_len]; omega) (by intro u hu; rw [List.mem_singleton.1 hu]; rfl) (rowOf (upd G a (.bool false)) j) (rowOf_set _ _ ad) ?_
           intro w2 h2 g2
           have HG2 := Lib.hid h2
           have Hb2 := Lib.hid (Hb.out.grown g2 (by have := Hb.out.size; rw [Hgw.out] at this; exact this) (fun j e => by injection e with e; omega))
           clear h2 g2)
        | (refine wpList_store_blk rfl 4 _ _ (by rfl) g c (.bool false) (by rfl) (by rfl) (rowOf (upd G a (.bool false)) j) 4 HG2.out [.bool false] (by rfl) 1 rfl size_bool1 (by rw [rowOf_len]; omega) (by intro u hu; rw [List.mem_singleton.1 hu]; rfl) (rowOf (upd (upd G a (.bool false)) c (.bool false)) j) (rowOf_set _ _ cd) ?_
           intro w3 h3 g3
           have HG3 := Lib.hid h3
           have Hb3 := Lib.hid (Hb2.out.grown g3 (by have := Hb2.out.size; rw [Hgw.out] at this; exact this) (fun j e => by injection e with e; omega))
           clear h3 g3))
          go_ret
          exact ⟨g, rfl, HL.out _ _ _ HG3.out (fun i hi => by
            rw [Hl.out i]
            by_cases e1 : i = c
            · subst e1; rw [upd_same]; split; rfl; rw [if_pos rfl]
            · rw [upd_other _ _ e1]
              by_cases e2 : i = a
              · subst e2; rw [upd_same, if_pos rfl]
              · rw [upd_other _ _ e2, if_neg (by omega), if_neg (by omega)]; exact Hall.out i hi), Nat.le_of_eq Hgw.out, by rw [Hgw.out]; exact Hb3.out⟩
        · have Hl := Lib.hid (fun i => (Hlb.out i).trans (show _ = if (a : Int) = (i : Int) then false else true by simp only [h3, h9, true_and, false_and, if_false]))
          have b9 : (q9 == 8) = false := by rw [beq_eq_false_iff_ne]; exact h9
          go_wp2_with (first
        | (go_at_call 9; (with_reducible refine (W3.out _).mono ?_); rintro e wxW3 ⟨rfl, rfl⟩)
        | (go_at_call 9; (with_reducible refine (Wa.out _).mono ?_); rintro e wxWa ⟨rfl, rfl⟩)
        | (go_at_call 9; (with_reducible refine (W9.out _).mono ?_); rintro e wxW9 ⟨rfl, rfl⟩)
        | (refine wpList_store_blk rfl 4 _ _ (by rfl) g a (.bool false) (by rfl) (by rfl) (rowOf G j) 4 HG.out [.bool false] (by rfl) 1 rfl size_bool1 (by rw [rowOf_len]; omega) (by intro u hu; rw [List.mem_singleton.1 hu]; rfl) (rowOf (upd G a (.bool false)) j) (rowOf_set _ _ ad) ?_
           intro w2 h2 g2
           have HG2 := Lib.hid h2
           have Hb2 := Lib.hid (Hb.out.grown g2 (by have := Hb.out.size; rw [Hgw.out] at this; exact this) (fun j e => by injection e with e; omega))
           clear h2 g2))
          go_ret
          exact ⟨g, rfl, HL.out _ _ _ HG2.out (fun i hi => by
            rw [Hl.out i]
            by_cases e2 : i = a
            · subst e2; rw [upd_same, if_pos rfl]
            · rw [upd_other _ _ e2, if_neg (by omega)]; exact Hall.out i hi), Nat.le_of_eq Hgw.out, by rw [Hgw.out]; exact Hb2.out⟩
      · by_cases h9 : q9 = 8
        · have Hl := Lib.hid (fun i => (Hlb.out i).trans (show _ = if (c : Int) = (i : Int) then false else true by simp only [h3, h9, true_and, false_and, if_false]))
          subst h9
          go_wp2_with (first
        | (go_at_call 9; (with_reducible refine (W3.out _).mono ?_); rintro e wxW3 ⟨rfl, rfl⟩)
        | (go_at_call 9; (with_reducible refine (W9.out _).mono ?_); rintro e wxW9 ⟨rfl, rfl⟩)
        | (go_at_call 9; (with_reducible refine (Wb.out _).mono ?_); rintro e wxWb ⟨rfl, rfl⟩)
        | (refine wpList_store_blk rfl 4 _ _ (by rfl) g c (.bool false) (by rfl) (by rfl) (rowOf G j) 4 HG.out [.bool false] (by rfl) 1 rfl size_bool1 (by rw [rowOf_len]; omega) (by intro u hu; rw [List.mem_singleton.1 hu]; rfl) (rowOf (upd G c (.bool false)) j) (rowOf_set _ _ cd) ?_
           intro w3 h3 g3
           have HG3 := Lib.hid h3
           have Hb3 := Lib.hid (Hb.out.grown g3 (by have := Hb.out.size; rw [Hgw.out] at this; exact this) (fun j e => by injection e with e; omega))
           clear h3 g3))
          go_ret
          exact ⟨g, rfl, HL.out _ _ _ HG3.out (fun i hi => by
            rw [Hl.out i]
            by_cases e1 : i = c
            · subst e1; rw [upd_same, if_pos rfl]
            · rw [upd_other _ _ e1, if_neg (by omega)]; exact Hall.out i hi), Nat.le_of_eq Hgw.out, by rw [Hgw.out]; exact Hb3.out⟩
        · have Hl := Lib.hid (fun i => (Hlb.out i).trans (show _ = true by simp only [h3, h9, false_and, if_false]))
          have b9 : (q9 == 8) = false := by rw [beq_eq_false_iff_ne]; exact h9
          go_wp2_with (first
        | (go_at_call 9; (with_reducible refine (W3.out _).mono ?_); rintro e wxW3 ⟨rfl, rfl⟩)
        | (go_at_call 9; (with_reducible refine (W9.out _).mono ?_); rintro e wxW9 ⟨rfl, rfl⟩))
          go_ret
          exact ⟨g, rfl, HL.out _ _ _ HG.out (fun i hi => by rw [Hl.out i]; exact Hall.out i hi), Nat.le_of_eq Hgw.out, by rw [Hgw.out]; exact Hb.out⟩
end Go.Proofs.YtkbhnbkjpnigkaaDoor
end
