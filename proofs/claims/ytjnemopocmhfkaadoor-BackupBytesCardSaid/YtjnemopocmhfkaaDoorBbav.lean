/- Texts put together: BakKit, BakWakes. -/
import Derived.Test.YtjnemopocmhfkaaDoorBbau
import Derived.Test.YtjnemopocmhfkaaDoorBbat
section
set_option maxRecDepth 20000
set_option linter.unusedVariables false
set_option linter.unusedSimpArgs false
namespace Go.Proofs.YtjnemopocmhfkaaDoor
open Go.RowKit

theorem OwV.len {lo : Nat} {w : World} {v : Value} {rs : List (List UInt8)} (h : OwV lo w v rs) (hl : rs.length ≤ 1000000) : ∃ A c, v = .slice A rs.length c := by
  obtain ⟨xs, h1, h2⟩ := h
  obtain ⟨A, c, e, _, _⟩ := rdf_own h1 (by omega) h2
  exact ⟨A, c, e⟩
theorem getL_28 {N : Bch} {lv : List Bool} {e w : Nat} : ∀ j, (getL N lv e w j).length ≤ 255
  | 0 => by simp [getL]
  | j + 1 => by
    have ih := getL_28 (N := N) (lv := lv) (e := e) (w := w) j
    rw [getL]
    repeat' split
    · exact ih
    · unfold hitL; rw [bkG_len]; unfold bkN; have := ((secAt (N.D j).now 6).getD 7 0).toNat_lt; omega
    · simp
theorem gotL_len (N : Bch) (lv : List Bool) (e w : Int) : (gotL N lv e w).length ≤ 255 := by
  unfold gotL; split
  · exact getL_28 _
  · simp
section
variable {W w : World} {b : Nat} {H : BH} {N : Bch} {K : List (Nat × Obj)} {R : List (Option Addr × List (List UInt8))} {S : List (Option Addr × List UInt8)} (h : KS W w b H N K R S)
include h
theorem ks_bput (lv : List Bool) (A : Option Addr) (m cp : Nat) (hm : m = lv.length) (hv : RdOX (BF b H N.n) w A lv) (e x : Int) (he : (-9223372036854775808 ≤ e ∧ e ≤ 9223372036854775807)) (hx : (-9223372036854775808 ≤ x ∧ x ≤ 9223372036854775807)) {A2 : Option Addr} {ds : List (List UInt8)} (n2 c2 : Nat) (hn2 : ds.length = n2) (h1000 : n2 ≤ 1000) (hrd : RdRX (BF b H N.n) w A2 ds)
    (hps : ∀ i, i < N.n → (N.D i).ps.length ≤ 1999000) (hdn : N.done ≤ 1999000) (ht : TabOk W) :
    Calls Tryd.prog 9 #[.pointer (some ⟨b, 0, none⟩), .slice A m cp, .int .i64 e, .int .i64 x, .slice A2 n2 c2] w fun r w' => r = .returned (.int .i64 (bkS N lv e x ds).1) ∧ ∃ H', KS W w' b H' (bkS N lv e x ds).2 K R S := by
  refine (bkPut_any W w b H N h.bp lv A m cp hm hv e x he hx A2 ds n2 c2 hn2 h1000 hrd hps hdn ht).mono ?_
  rintro r w' ⟨rfl, hc⟩
  obtain ⟨H', k'⟩ := h.bc hc (bkS_n _ _ _ _ _)
  exact ⟨rfl, H', k'⟩
theorem ks_bget (lv : List Bool) (A : Option Addr) (n c : Nat) (hn : n = lv.length) (hv : RdOX (BF b H N.n) w A lv) (e x : Int) (he : (-9223372036854775808 ≤ e ∧ e ≤ 9223372036854775807)) (hx : (-9223372036854775808 ≤ x ∧ x ≤ 9223372036854775807)) (ht : TabOk W) :
    Calls Tryd.prog 11 #[.pointer (some ⟨b, 0, none⟩), .slice A n c, .int .i64 e, .int .i64 x] w fun r w' => ∃ A' c', r = .returned (.tuple #[.slice A' (gotL N lv e x).length c', .bool (gotB N lv e x)]) ∧ KS W w' b H N K ((A', gotL N lv e x) :: R) S := by
  refine (bkGet_any W.heap.size b H N w h.bp.at' lv A n c hn hv.rdo e x he hx (ht.below h.bp.bel ht.pos)).mono ?_
  rintro r w' ⟨v, rfl, ho, hb⟩
  obtain ⟨A', c', rfl, k⟩ := h.owv hb ho (by have := gotL_len N lv e x; omega)
  exact ⟨A', c', rfl, k⟩
end
/-- A bench with power, whose disks serve, nothing pending. -/
structure Cl (N : Bch) (m : Nat) : Prop where
  n : N.n = m
  dn : N.down = false
  lf : N.left = -1
  f : ∀ i, (N.D i).f = false
  ps : ∀ i, (N.D i).ps = []
  ok : ∀ i, (N.D i).Ok
theorem Cl.new (m : Nat) : Cl (Bch.new m) m := ⟨rfl, rfl, rfl, fun _ => rfl, fun _ => rfl, fun _ => Dsk.new_ok⟩
theorem new_sec6 (m i : Nat) {k : Nat} (hk : k < 52) : secAt ((Bch.new m).D i).now k = List.replicate 32 0 := sec_zero hk
/-- What Put leaves of it. -/
structure Cp (N M : Bch) (m : Nat) (lv : List Bool) (ps : List (List UInt8)) : Prop where
  cl : Cl M m
  done : M.done = N.done + cntTo N lv m * ps.length
  sec : ∀ i, i < m → ∀ k, secAt (M.D i).now k = if lv.getD i false = true ∧ 6 ≤ k ∧ k < 6 + ps.length then ps.getD (k - 6) [] else secAt (N.D i).now k
theorem cl_put {N : Bch} {m : Nat} (h : Cl N m) {lv : List Bool} {e x : Int} {ds : List (List UInt8)} (hb : bkBad e x ds = false) :
    (bkS N lv e x ds).1 = 0 ∧ Cp N (bkS N lv e x ds).2 m lv (bkB e.toNat x.toNat ds :: ds) := by
  have hb' := hb
  unfold bkBad at hb'
  simp only [Bool.or_eq_false_iff, decide_eq_false_iff_not, Bool.not_eq_false'] at hb'
  obtain ⟨_, h28, hu⟩ := hb'
  have hpl : (bkB e.toNat x.toNat ds :: ds).length = ds.length + 1 := rfl
  have h32 : ∀ y ∈ bkB e.toNat x.toNat ds :: ds, y.length = 32 := fun y hy => by
    rcases List.mem_cons.1 hy with rfl | hy
    · exact bkB_len _ _ _
    · have := List.any_eq_false.1 hu y hy
      simp only [bne_iff_ne, ne_eq, Decidable.not_not] at this
      omega
  generalize hP : bkB e.toNat x.toNat ds :: ds = ps at *
  obtain ⟨e1, g⟩ := onBk_good (N := N) (lv := lv) (ps := ps) h32 (by omega) (by omega) h.dn h.lf N.n (Nat.le_refl _)
  obtain ⟨e2, g2⟩ := flushed_good (N := (onTo (bkF ps) lv N N.n).2) (lv := lv) g.dn N.n (by rw [g.n]; exact Nat.le_refl _)
  have hS : bkS N lv e x ds = onTo flF lv (onTo (bkF ps) lv N N.n).2 N.n := bkS_fl hb (by rw [hP]) e1
  rw [hS]
  have hD : ∀ i, i < m → (onTo flF lv (onTo (bkF ps) lv N N.n).2 N.n).2.D i = if lv.getD i false = true then (wrs (N.D i) ps ps.length).flush else N.D i := fun i hi => by
    have hi' : i < N.n := by rw [h.n]; exact hi
    rw [g2.D i, g.D i]
    unfold flD bkD
    by_cases q : lv.getD i false = true
    · rw [if_pos ⟨hi', q⟩, if_pos q, if_pos ⟨hi', q, h.f i⟩]
      unfold Dsk.flushE; rw [if_neg (by rw [wrs_f, h.f i]; decide)]
    · rw [if_neg (fun hh => q hh.2), if_neg (fun hh => q hh.2.1), if_neg q]
  have hD2 : ∀ i, ¬ i < m → (onTo flF lv (onTo (bkF ps) lv N N.n).2 N.n).2.D i = N.D i := fun i hi => by
    have hi' : ¬ i < N.n := by rw [h.n]; exact hi
    rw [g2.D i, g.D i]
    unfold flD bkD
    rw [if_neg (fun hh => hi' hh.1), if_neg (fun hh => hi' hh.1)]
  have hok : ∀ i, (wrs (N.D i) ps ps.length).Ok := fun i => wrs_ok (h.ok i) h32 (by omega) _ (Nat.le_refl _)
  refine ⟨e2, ⟨g2.n.trans (g.n.trans h.n), g2.dn, g2.lf.trans g.lf, fun i => ?_, fun i => ?_, fun i => ?_⟩, ?_, fun i hi k => ?_⟩
  · by_cases hi : i < m
    · rw [hD i hi]; split
      · exact (wrs_f _).trans (h.f i)
      · exact h.f i
    · rw [hD2 i hi]; exact h.f i
  · by_cases hi : i < m
    · rw [hD i hi]; split
      · rfl
      · exact h.ps i
    · rw [hD2 i hi]; exact h.ps i
  · by_cases hi : i < m
    · rw [hD i hi]; split
      · exact (hok i).flush
      · exact h.ok i
    · rw [hD2 i hi]; exact h.ok i
  · rw [g2.done, g.done, h.n]
  · rw [hD i hi]
    by_cases q : lv.getD i false = true
    · rw [if_pos q, Dsk.flush_now, wrs_sec (h.ok i) h32 (by omega) k ps.length (Nat.le_refl _)]
      by_cases q2 : 6 ≤ k ∧ k < 6 + ps.length
      · rw [if_pos q2, if_pos ⟨q, q2⟩]
      · rw [if_neg q2, if_neg (fun hh => q2 hh.2)]
    · rw [if_neg q, if_neg (fun hh => q hh.1)]
/-- A live disk has it then; another is as it was. -/
theorem Cp.has {N M : Bch} {m : Nat} {lv : List Bool} {e x : Nat} {ds : List (List UInt8)} (h : Cp N M m lv (bkB e x ds :: ds)) (h28 : ds.length ≤ 28) {i : Nat} (hi : i < m) (hl : lv.getD i false = true) : Has (M.D i) e x ds := by
  refine ⟨?_, h28, fun k hk => ?_⟩
  · rw [h.sec i hi, if_pos ⟨hl, by omega, by show 6 < 6 + (ds.length + 1); omega⟩]; rfl
  · rw [h.sec i hi, if_pos ⟨hl, by omega, by show 7 + k < 6 + (ds.length + 1); omega⟩, show 7 + k - 6 = k + 1 by omega]; rfl
theorem Cp.other {N M : Bch} {m : Nat} {lv : List Bool} {ps : List (List UInt8)} (h : Cp N M m lv ps) {i : Nat} (hi : i < m) (hl : lv.getD i false = false) (k : Nat) : secAt (M.D i).now k = secAt (N.D i).now k := by
  rw [h.sec i hi, if_neg (fun q => by rw [hl] at q; exact absurd q.1 (by decide))]
theorem hit_has {N : Bch} {m : Nat} (h : Cl N m) {i e x e' x' : Nat} {ds : List (List UInt8)} (hh : Has (N.D i) e x ds) (h1 : e < 65536) (h2 : e' < 65536) (h3 : x < 256) (h4 : x' < 256) : hitB N e' x' i = decide (e' = e ∧ x' = x) ∧ hitL N i = ds := by
  refine ⟨?_, hh.g⟩
  unfold hitB goneB
  rw [h.dn, h.f i, hh.ok h1 h2 h3 h4]; rfl
theorem hit_none {N : Bch} {i : Nat} (hh : secAt (N.D i).now 6 = List.replicate 32 0) (e x : Nat) : hitB N e x i = false := by
  unfold hitB
  rw [none_ok hh]; exact Bool.and_false _
end Go.Proofs.YtjnemopocmhfkaaDoor
end
section
set_option maxRecDepth 20000
set_option linter.unusedVariables false
set_option linter.unusedSimpArgs false
namespace Go.Proofs.YtjnemopocmhfkaaDoor
open Go.RowKit

theorem got_none {N : Bch} {lv : List Bool} {e x : Int} (h : ∀ i, i < N.n → secAt (N.D i).now 6 = List.replicate 32 0) : gotB N lv e x = false ∧ gotL N lv e x = [] := by
  have h1 : getB N lv e.toNat x.toNat N.n = false := by
    rw [Bool.eq_false_iff]
    intro q
    obtain ⟨j, hj, _, hh⟩ := getB_iff.1 q
    rw [hit_none (h j hj)] at hh
    exact absurd hh (by decide)
  unfold gotB gotL
  rw [h1, getL_none h1]
  exact ⟨Bool.and_false _, by split <;> rfl⟩
theorem bkBad_ok {e x : Int} {ds : List (List UInt8)} (h : bkMay e x = true) (h28 : ds.length ≤ 28) (h32 : ∀ y ∈ ds, y.length = 32) : bkBad e x ds = false := by
  rw [bkBad_any h (by omega), List.any_eq_false]
  intro y hy
  unfold unlB
  rw [h32 y hy]; decide
set_option maxHeartbeats 800000 in
theorem bkWakes_any (W : World) (ht : TabOk W) : Calls Tryd.prog 13 #[] W fun e w' => e = .returned (.bool true) ∧ Below W.heap.size W w' := by
  have hpn := ptr_eq
  have CN := Lib.hid (bp_new 3 W W (Below.refl _ _) (by omega))
  have Ht := Lib.hid ht
  have HG := Lib.hid (got_none (N := Bch.new 3) (lv := [true, true, true]) (e := 0) (x := 0) (fun i _ => new_sec6 3 i (by omega)))
  have HP := Lib.hid (cl_put (Cl.new 3) (lv := [true]) (bkBad_ok (e := 1) (x := 2) (ds := [sectorB 1]) (by decide) (by decide) (fun y hy => by rw [List.mem_singleton.1 hy]; exact sectorB_len 1))).1
  clear ht
  go_enter Tryd.func13, Tryd.ntmps13
  go_wp2_with fail
  refine CN.out.mono ?_
  rintro e w ⟨b, H, rfl, hp, _, _⟩
  unfold ptr
  have K1 : Hid (KS W w b H (Bch.new 3) [] [] []) := (show KX W w b H (Bch.new 3) [] from ⟨hp, fun p hp => by cases hp⟩).ks
  have K2 := Lib.hid (K1.out.add (.cells #[.bool true, .bool true, .bool true] 4 (0, 0)))
  have C2 := Lib.hid (ks_bget K2.out [true, true, true] (some ⟨w.heap.size, 0, none⟩) 3 3 rfl (K2.out.lv (List.mem_cons_self ..) rfl (by decide)) 0 0 (by omega) (by omega) Ht.out)
  rw [HG.out.1, HG.out.2] at C2
  clear hp CN
  go_wp2_with fail
  (with_reducible refine C2.out.mono ?_); rintro e w1 ⟨A, c, rfl, k3⟩
  have K3 := Lib.hid k3
  clear k3 C2 K1 K2
  go_wp2_with fail
  have K4 := Lib.hid (K3.out.add (.cells #[.bool true] 4 (0, 0)))
  (with_reducible refine (sector_any 1 _ (by omega)).mono ?_); rintro e w2 ⟨g, rfl, ho, hb⟩
  have K5 := Lib.hid (K4.out.slice hb ho.rdbf)
  have K6 := Lib.hid (K5.out.add (.cells #[.slice (some ⟨g, 0, none⟩) 32 32] 48 (0, 0)))
  clear ho hb K5 K4 K3
  have q6 := K6.out.kx.kp (w2.heap.size, .cells #[.slice (some ⟨g, 0, none⟩) 32 32] 48 (0, 0)) (List.mem_cons_self ..)
  have C6 := Lib.hid (ks_bput K6.out [true] (some ⟨w1.heap.size, 0, none⟩) 1 1 rfl (K6.out.lv (List.mem_cons_of_mem _ (List.mem_cons_self ..)) rfl (by decide)) 1 2 (by omega) (by omega) (A2 := some ⟨w2.heap.size, 0, none⟩) (ds := [sectorB 1]) 1 1 rfl (by omega) (rdrx_one q6.1 (sectorB_len 1) q6.2.1 (K6.out.sx _ (List.mem_cons_self ..))) (fun i _ => by show (0 : Nat) ≤ _; omega) (by show (0 : Nat) ≤ _; omega) Ht.out)
  rw [HP.out] at C6
  clear q6
  go_wp2_with ((with_reducible refine C6.out.mono ?_); rintro e w3 ⟨rfl, H7, k7⟩; have K7 := Lib.hid k7; clear k7)
  go_ret
  exact ⟨rfl, K7.out.bp.bel⟩
end Go.Proofs.YtjnemopocmhfkaaDoor
end
