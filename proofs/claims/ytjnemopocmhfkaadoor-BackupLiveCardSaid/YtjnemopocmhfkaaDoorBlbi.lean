/- Texts put together: BakKit. -/
import Derived.Test.YtjnemopocmhfkaaDoorBlbg
import Derived.Test.YtjnemopocmhfkaaDoorBlbh
section
set_option maxRecDepth 20000
set_option linter.unusedVariables false
set_option linter.unusedSimpArgs false
namespace Go.Proofs.YtjnemopocmhfkaaDoor
open Go.RowKit

theorem getL_28 {N : Bch} {lv : List Bool} {e w : Nat} : ∀ j, (getL N lv e w j).length ≤ 255
  | 0 => by simp [getL]
  | j + 1 => by
    have ih := getL_28 (N := N) (lv := lv) (e := e) (w := w) j
    rw [getL]
    repeat' split
    · exact ih
    · unfold hitL; rw [bkG_len]; unfold bkN; have := ((secAt (N.D j).now 6).getD 7 0).toNat_lt; omega
    · simp
theorem gotL_len (N : Bch) (lv : List Bool) (e w : Int) : (gotL N lv e w).length ≤ 255 := by
  unfold gotL; split
  · exact getL_28 _
  · simp
section
variable {W w : World} {b : Nat} {H : BH} {N : Bch} {K : List (Nat × Obj)} {R : List (Option Addr × List (List UInt8))} {S : List (Option Addr × List UInt8)} (h : KS W w b H N K R S)
include h
theorem ks_bput (lv : List Bool) (A : Option Addr) (m cp : Nat) (hm : m = lv.length) (hv : RdOX (BF b H N.n) w A lv) (e x : Int) (he : (-9223372036854775808 ≤ e ∧ e ≤ 9223372036854775807)) (hx : (-9223372036854775808 ≤ x ∧ x ≤ 9223372036854775807)) {A2 : Option Addr} {ds : List (List UInt8)} (n2 c2 : Nat) (hn2 : ds.length = n2) (h1000 : n2 ≤ 1000) (hrd : RdRX (BF b H N.n) w A2 ds)
    (hps : ∀ i, i < N.n → (N.D i).ps.length ≤ 1999000) (hdn : N.done ≤ 1999000) (ht : TabOk W) :
    Calls Tryd.prog 9 #[.pointer (some ⟨b, 0, none⟩), .slice A m cp, .int .i64 e, .int .i64 x, .slice A2 n2 c2] w fun r w' => r = .returned (.int .i64 (bkS N lv e x ds).1) ∧ ∃ H', KS W w' b H' (bkS N lv e x ds).2 K R S := by
  refine (bkPut_any W w b H N h.bp lv A m cp hm hv e x he hx A2 ds n2 c2 hn2 h1000 hrd hps hdn ht).mono ?_
  rintro r w' ⟨rfl, hc⟩
  obtain ⟨H', k'⟩ := h.bc hc (bkS_n _ _ _ _ _)
  exact ⟨rfl, H', k'⟩
theorem ks_bget (lv : List Bool) (A : Option Addr) (n c : Nat) (hn : n = lv.length) (hv : RdOX (BF b H N.n) w A lv) (e x : Int) (he : (-9223372036854775808 ≤ e ∧ e ≤ 9223372036854775807)) (hx : (-9223372036854775808 ≤ x ∧ x ≤ 9223372036854775807)) (ht : TabOk W) :
    Calls Tryd.prog 11 #[.pointer (some ⟨b, 0, none⟩), .slice A n c, .int .i64 e, .int .i64 x] w fun r w' => ∃ A' c', r = .returned (.tuple #[.slice A' (gotL N lv e x).length c', .bool (gotB N lv e x)]) ∧ KS W w' b H N K ((A', gotL N lv e x) :: R) S := by
  refine (bkGet_any W.heap.size b H N w h.bp.at' lv A n c hn hv.rdo e x he hx (ht.below h.bp.bel ht.pos)).mono ?_
  rintro r w' ⟨v, rfl, ho, hb⟩
  obtain ⟨A', c', rfl, k⟩ := h.owv hb ho (by have := gotL_len N lv e x; omega)
  exact ⟨A', c', rfl, k⟩
end
/-- A bench with power, whose disks serve, nothing pending. -/
structure Cl (N : Bch) (m : Nat) : Prop where
  n : N.n = m
  dn : N.down = false
  lf : N.left = -1
  f : ∀ i, (N.D i).f = false
  ps : ∀ i, (N.D i).ps = []
  ok : ∀ i, (N.D i).Ok
theorem Cl.new (m : Nat) : Cl (Bch.new m) m := ⟨rfl, rfl, rfl, fun _ => rfl, fun _ => rfl, fun _ => Dsk.new_ok⟩
theorem new_sec6 (m i : Nat) {k : Nat} (hk : k < 52) : secAt ((Bch.new m).D i).now k = List.replicate 32 0 := sec_zero hk
/-- What Put leaves of it. -/
structure Cp (N M : Bch) (m : Nat) (lv : List Bool) (ps : List (List UInt8)) : Prop where
  cl : Cl M m
  done : M.done = N.done + cntTo N lv m * ps.length
  sec : ∀ i, i < m → ∀ k, secAt (M.D i).now k = if lv.getD i false = true ∧ 6 ≤ k ∧ k < 6 + ps.length then ps.getD (k - 6) [] else secAt (N.D i).now k
theorem cl_put {N : Bch} {m : Nat} (h : Cl N m) {lv : List Bool} {e x : Int} {ds : List (List UInt8)} (hb : bkBad e x ds = false) :
    (bkS N lv e x ds).1 = 0 ∧ Cp N (bkS N lv e x ds).2 m lv (bkB e.toNat x.toNat ds :: ds) := by
  have hb' := hb
  unfold bkBad at hb'
  simp only [Bool.or_eq_false_iff, decide_eq_false_iff_not, Bool.not_eq_false'] at hb'
  obtain ⟨_, h28, hu⟩ := hb'
  have hpl : (bkB e.toNat x.toNat ds :: ds).length = ds.length + 1 := rfl
  have h32 : ∀ y ∈ bkB e.toNat x.toNat ds :: ds, y.length = 32 := fun y hy => by
    rcases List.mem_cons.1 hy with rfl | hy
    · exact bkB_len _ _ _
    · have := List.any_eq_false.1 hu y hy
      simp only [bne_iff_ne, ne_eq, Decidable.not_not] at this
      omega
  generalize hP : bkB e.toNat x.toNat ds :: ds = ps at *
  obtain ⟨e1, g⟩ := onBk_good (N := N) (lv := lv) (ps := ps) h32 (by omega) (by omega) h.dn h.lf N.n (Nat.le_refl _)
  obtain ⟨e2, g2⟩ := flushed_good (N := (onTo (bkF ps) lv N N.n).2) (lv := lv) g.dn N.n (by rw [g.n]; exact Nat.le_refl _)
  have hS : bkS N lv e x ds = onTo flF lv (onTo (bkF ps) lv N N.n).2 N.n := bkS_fl hb (by rw [hP]) e1
  rw [hS]
  have hD : ∀ i, i < m → (onTo flF lv (onTo (bkF ps) lv N N.n).2 N.n).2.D i = if lv.getD i false = true then (wrs (N.D i) ps ps.length).flush else N.D i := fun i hi => by
    have hi' : i < N.n := by rw [h.n]; exact hi
    rw [g2.D i, g.D i]
    unfold flD bkD
    by_cases q : lv.getD i false = true
    · rw [if_pos ⟨hi', q⟩, if_pos q, if_pos ⟨hi', q, h.f i⟩]
      unfold Dsk.flushE; rw [if_neg (by rw [wrs_f, h.f i]; decide)]
    · rw [if_neg (fun hh => q hh.2), if_neg (fun hh => q hh.2.1), if_neg q]
  have hD2 : ∀ i, ¬ i < m → (onTo flF lv (onTo (bkF ps) lv N N.n).2 N.n).2.D i = N.D i := fun i hi => by
    have hi' : ¬ i < N.n := by rw [h.n]; exact hi
    rw [g2.D i, g.D i]
    unfold flD bkD
    rw [if_neg (fun hh => hi' hh.1), if_neg (fun hh => hi' hh.1)]
  have hok : ∀ i, (wrs (N.D i) ps ps.length).Ok := fun i => wrs_ok (h.ok i) h32 (by omega) _ (Nat.le_refl _)
  refine ⟨e2, ⟨g2.n.trans (g.n.trans h.n), g2.dn, g2.lf.trans g.lf, fun i => ?_, fun i => ?_, fun i => ?_⟩, ?_, fun i hi k => ?_⟩
  · by_cases hi : i < m
    · rw [hD i hi]; split
      · exact (wrs_f _).trans (h.f i)
      · exact h.f i
    · rw [hD2 i hi]; exact h.f i
  · by_cases hi : i < m
    · rw [hD i hi]; split
      · rfl
      · exact h.ps i
    · rw [hD2 i hi]; exact h.ps i
  · by_cases hi : i < m
    · rw [hD i hi]; split
      · exact (hok i).flush
      · exact h.ok i
    · rw [hD2 i hi]; exact h.ok i
  · rw [g2.done, g.done, h.n]
  · rw [hD i hi]
    by_cases q : lv.getD i false = true
    · rw [if_pos q, Dsk.flush_now, wrs_sec (h.ok i) h32 (by omega) k ps.length (Nat.le_refl _)]
      by_cases q2 : 6 ≤ k ∧ k < 6 + ps.length
      · rw [if_pos q2, if_pos ⟨q, q2⟩]
      · rw [if_neg q2, if_neg (fun hh => q2 hh.2)]
    · rw [if_neg q, if_neg (fun hh => q hh.1)]
/-- A live disk has it then; another is as it was. -/
theorem Cp.has {N M : Bch} {m : Nat} {lv : List Bool} {e x : Nat} {ds : List (List UInt8)} (h : Cp N M m lv (bkB e x ds :: ds)) (h28 : ds.length ≤ 28) {i : Nat} (hi : i < m) (hl : lv.getD i false = true) : Has (M.D i) e x ds := by
  refine ⟨?_, h28, fun k hk => ?_⟩
  · rw [h.sec i hi, if_pos ⟨hl, by omega, by show 6 < 6 + (ds.length + 1); omega⟩]; rfl
  · rw [h.sec i hi, if_pos ⟨hl, by omega, by show 7 + k < 6 + (ds.length + 1); omega⟩, show 7 + k - 6 = k + 1 by omega]; rfl
theorem Cp.other {N M : Bch} {m : Nat} {lv : List Bool} {ps : List (List UInt8)} (h : Cp N M m lv ps) {i : Nat} (hi : i < m) (hl : lv.getD i false = false) (k : Nat) : secAt (M.D i).now k = secAt (N.D i).now k := by
  rw [h.sec i hi, if_neg (fun q => by rw [hl] at q; exact absurd q.1 (by decide))]
theorem hit_has {N : Bch} {m : Nat} (h : Cl N m) {i e x e' x' : Nat} {ds : List (List UInt8)} (hh : Has (N.D i) e x ds) (h1 : e < 65536) (h2 : e' < 65536) (h3 : x < 256) (h4 : x' < 256) : hitB N e' x' i = decide (e' = e ∧ x' = x) ∧ hitL N i = ds := by
  refine ⟨?_, hh.g⟩
  unfold hitB goneB
  rw [h.dn, h.f i, hh.ok h1 h2 h3 h4]; rfl
theorem hit_none {N : Bch} {i : Nat} (hh : secAt (N.D i).now 6 = List.replicate 32 0) (e x : Nat) : hitB N e x i = false := by
  unfold hitB
  rw [none_ok hh]; exact Bool.and_false _
end Go.Proofs.YtjnemopocmhfkaaDoor
end
