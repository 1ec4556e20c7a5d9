/- Texts put together: StpLawKit, StripeErrorsLoop, StpOneMath, StpLost. -/
import Derived.Test.YtpaegibaikpikaaSbbg
import Derived.Test.YtpaegibaikpikaaSbba
import Derived.Test.YtpaegibaikpikaaSbbd
import Derived.Test.YtpaegibaikpikaaSbbc
import Derived.Test.YtpaegibaikpikaaSbay
import Derived.Test.YtpaegibaikpikaaSbam
import Derived.Test.YtpaegibaikpikaaSbak
import Derived.Test.YtpaegibaikpikaaSbab
section
set_option maxRecDepth 20000
set_option linter.unusedVariables false
set_option linter.unusedSimpArgs false
namespace Go.Proofs.Ytpaegibaikpikaa
open Go.RowKit

section
variable {W w w' : World} {b : Nat} {H : BH} {N : Bch} {K : List (Nat × Obj)} {R : List (Option Addr × List (List UInt8))} {S : List (Option Addr × List UInt8)}
/-- A block that was made since. -/
theorem KS.block (h : KS W w b H N K R S) (hb : Below w.heap.size w w') {g : Nat} {o : Obj} (hg : w'.heap[g]? = some o) (hw : w.heap.size ≤ g) : KS W w' b H N ((g, o) :: K) R S := by
  have h' := h.below hb
  refine ⟨⟨h'.bp, fun p hp => ?_⟩, h'.rx, h'.sx⟩
  rcases List.mem_cons.1 hp with rfl | hp
  · exact ⟨hg, fun e => by have := h.flt _ e; omega, by have := h.bp.bel.size; omega⟩
  · exact h'.kx.kp p hp
theorem KS.rdz (h : KS W w b H N K R S) {A : Option Addr} {zs : List Int} (hz : RdZ W W.heap.size A zs) : RdZ w w.heap.size A zs := (hz.below h.bp.bel (Nat.le_refl _)).keep h.bp.bel.size fun _ _ => rfl
theorem KS.owv (h : KS W w b H N K R S) (hb : Below w.heap.size w w') {v : Value} {rs : List (List UInt8)} (ho : OwV w.heap.size w' v rs) (hl : rs.length ≤ 1000000) : ∃ A c, v = .slice A rs.length c ∧ KS W w' b H N K ((A, rs) :: R) S := by
  obtain ⟨xs, h1, h2⟩ := ho
  obtain ⟨A, c, e, _, hr⟩ := rdf_own h1 (by omega) h2
  exact ⟨A, c, e, h.rows hb hr⟩
end
section
variable {W w : World} {b : Nat} {H : BH} {N : Bch} {K : List (Nat × Obj)} {R : List (Option Addr × List (List UInt8))} {S : List (Option Addr × List UInt8)} (h : KS W w b H N K R S)
include h
theorem ks_live (n : Int) (d : Nat) (hn : (-9223372036854775808 ≤ n ∧ n ≤ 9223372036854775807)) (hd : 1 ≤ d ∧ d ≤ 8) :
    Calls Try.prog 10 #[.int .i64 n, .int .i64 (d : Int)] w fun e w' => ∃ g, e = .returned (.slice (some ⟨g, 0, none⟩) d d) ∧ KS W w' b H N ((g, Obj.cells ((liveL n d).map Value.bool).toArray 4 (0, 0)) :: K) R S := by
  refine (live_any n d w hn hd).mono ?_
  rintro e w' ⟨g, rfl, hg, hw, hb⟩
  exact ⟨g, rfl, h.block hb hg hw⟩
theorem ks_sectors {A : Option Addr} {zs : List Int} (m cp n : Nat) (hm : m = zs.length) (hz : RdZ W W.heap.size A zs) (hn : n ≤ 8) :
    Calls Try.prog 12 #[.slice A m cp, .int .i64 (n : Int)] w fun e w' => ∃ A' c', e = .returned (.slice A' n c') ∧ KS W w' b H N K ((A', sectorsB zs n) :: R) S := by
  refine (sectors_any A zs m cp n w hm (h.rdz hz) hn).mono ?_
  rintro e w' ⟨v, rfl, ho, hb⟩
  obtain ⟨A', c', rfl, k⟩ := h.owv hb ho (by rw [sectorsB_len]; omega)
  rw [sectorsB_len]
  exact ⟨A', c', rfl, k⟩
theorem ks_data {n l c r : Int} {D F Wd : Nat} (gr : Gr n l c r D F Wd) (ρ : Nat) (hρ : ρ ≤ 1000) {A : Option Addr} {zs : List Int} (m cp : Nat) (hm : m = zs.length) (hcp : zs.length ≤ cp) (hz : RdZ W W.heap.size A zs) :
    Calls Try.prog 17 #[.agg #[.int .i64 l, .int .i64 (D : Int), .int .i64 c], .int .i64 (ρ : Int), .slice A m cp] w fun e w' => ∃ A' c', e = .returned (.slice A' Wd c') ∧ KS W w' b H N K ((A', datL zs ρ Wd) :: R) S := by
  refine (data_any gr ρ hρ A zs m cp w hm hcp (h.rdz hz)).mono ?_
  rintro e w' ⟨v, rfl, ho, hb⟩
  obtain ⟨A', c', rfl, k⟩ := h.owv hb ho (by rw [datL_len]; have := gr.w7; omega)
  rw [datL_len]
  exact ⟨A', c', rfl, k⟩
theorem ks_sameR {A A' : Option Addr} {ra rb : List (List UInt8)} (n n' c c' : Nat) (hn : ra.length = n) (hn' : rb.length = n') (hr : (A, ra) ∈ R) (hr' : (A', rb) ∈ R) :
    Calls Try.prog 19 #[.slice A n c, .slice A' n' c'] w fun e w' => e = .returned (.bool (decide (ra = rb))) ∧ KS W w' b H N K R S := by
  refine (sameS_any A A' ra rb n n' c c' w hn hn' (h.rd hr) (h.rd hr')).mono ?_
  rintro e w' ⟨rfl, hb⟩
  exact ⟨rfl, h.below hb⟩
end
/-- A filled bench, beside the box of its geometry. -/
theorem filled_open {n l c r : Int} {D F Wd : Nat} (gr : Gr n l c r D F Wd) (m : Nat) (hD : D ≤ m) (hm : m ≤ 8) {A : Option Addr} {zs : List Int} (k cp : Nat) {W w1 : World} (hb : Below W.heap.size W w1) (hk : k = zs.length) (hcp : zs.length ≤ cp) (hz : RdZ W W.heap.size A zs) :
    Calls Try.prog 9 #[.agg #[.int .i64 l, .int .i64 (D : Int), .int .i64 c], .int .i64 (m : Int), .slice A k cp] (w1.alloc (.cells #[.int .i64 l, .int .i64 (D : Int), .int .i64 c] 24)) fun e w' => ∃ b H N, e = .returned (.pointer (some ⟨b, 0, none⟩)) ∧ KS W w' b H N [(w1.heap.size, Obj.cells #[.int .i64 l, .int .i64 (D : Int), .int .i64 c] 24 (0, 0))] [] [] ∧ Fld N m D (rowL l c D Wd zs) 16 0 := by
  have hb1 := hb.alloc hb.size (.cells #[.int .i64 l, .int .i64 (D : Int), .int .i64 c] 24)
  refine (stpFilled_any gr m hD hm A zs k cp _ hk hcp ((hz.below hb1 (Nat.le_refl _)).keep hb1.size fun _ _ => rfl)).mono ?_
  rintro e w' ⟨b, H, N, rfl, k, f⟩
  exact ⟨b, H, N, rfl, k.open hb1 (hp_new _ _ _ rfl) hb.size, f⟩
theorem live0 {d i : Nat} (hi : i < d) : (liveL 0 d).getD i false = true := by
  rw [liveL_get 0 hi]
  unfold liveB
  rw [if_neg, if_neg]
  · rintro ⟨h, _⟩; revert h; decide
  · rintro ⟨h, _⟩; revert h; decide
theorem srv_fail {N : Bch} {lv : List Bool} {d : Nat} (hd : d < N.n) (i : Nat) : srvD (N.fail (d : Int)) lv i = (srvD N lv i && !decide (i = d)) := by
  unfold srvD livD
  rw [fail_is, fail_D hd]
  by_cases e : i = d
  · rw [if_pos e, decide_eq_true e]; simp [Dsk.failed]
  · rw [if_neg e, decide_eq_false e]; simp
theorem cnt_fail1 {N : Bch} {lv : List Bool} {D d : Nat} (hd : d < N.n) (hs : ∀ i, i < D → srvD N lv i = true) : cntB D (fun i => !srvD (N.fail (d : Int)) lv i) ≤ 1 := by
  rw [cntB_congr (b' := fun i => decide (i = d)) fun i hi => by rw [srv_fail hd, hs i hi]; simp]
  exact cntB_one_le _ _
theorem cnt_fail2 {N : Bch} {lv : List Bool} {D d e : Nat} (hd : d < N.n) (he : e < N.n) (hs : ∀ i, i < D → srvD N lv i = true) : cntB D (fun i => !srvD ((N.fail (d : Int)).fail (e : Int)) lv i) ≤ 2 := by
  rw [cntB_congr (b' := fun i => decide (i = d) || decide (i = e)) fun i hi => by rw [srv_fail (by rw [fail_is]; exact he), srv_fail hd, hs i hi]; simp]
  have h := cntB_or D (fun i => decide (i = d)) (fun i => decide (i = e))
  have h1 := cntB_one_le D d
  have h2 := cntB_one_le D e
  omega
end Go.Proofs.Ytpaegibaikpikaa
end
section
set_option linter.unusedVariables false
set_option linter.unusedSimpArgs false
namespace Go.Proofs.Ytpaegibaikpikaa
open Go.RowKit

noncomputable def codeSE : Code := Try.f4.body.getD .skip
theorem fillOk_false {l d c r : Int} {rs : List (List UInt8)} (h : ¬ (plOk l d c r = true ∧ rs.length = roW l d ∧ ∀ x ∈ rs, x.length = 32)) : fillOk l d c r rs = false := by
  cases e : fillOk l d c r rs with
  | false => rfl
  | true => exact absurd (fillOk_yes e) h
/-- The same slice, several times. -/
theorem rdr_rep {w : World} {A : Option Addr} {x : List UInt8} {m c : Nat} {t : TypeId} {f : Nat × Nat} (n : Nat) (hm : m = x.length) (hn : n ≤ 1000) (h : RdB w w.heap.size A x) :
    RdR (w.alloc (.cells (List.replicate n (.slice A m c)).toArray t f)) (w.alloc (.cells (List.replicate n (.slice A m c)).toArray t f)).heap.size (some ⟨w.heap.size, 0, none⟩) (List.replicate n x) := by
  subst hm
  refine rdr_cells (hp_new _ _ _ rfl) (by simp) (by simp; omega) fun k hk => ?_
  rw [List.length_replicate] at hk
  have e : (List.replicate n x).getD k [] = x := by simp [List.getD_eq_getElem?_getD, hk]
  rw [e]
  exact ⟨A, c, by simp [hk], (h.below (below1 w _) (Nat.le_refl _)).more (by simp)⟩
section
variable {W w : World} {b : Nat} {H : BH} {N : Bch} {K : List (Nat × Obj)} {R : List (Option Addr × List (List UInt8))} {S : List (Option Addr × List UInt8)} (h : KS W w b H N K R S)
include h
/-- What may not be written. -/
theorem ks_refused (lv : List Bool) (A : Option Addr) (m cp : Nat) (hm : m = lv.length) (hv : RdOX (BF b H N.n) w A lv) (A2 : Option Addr) (rs : List (List UInt8)) (n2 cp2 : Nat) (hn2 : rs.length = n2) (h28 : n2 ≤ 1000000) (hrd : RdR w w.heap.size A2 rs) (l d c r : Int)
    (hl : -9223372036854775808 ≤ l ∧ l ≤ 9223372036854775807) (hd : -9223372036854775808 ≤ d ∧ d ≤ 9223372036854775807) (hc : -9223372036854775808 ≤ c ∧ c ≤ 9223372036854775807) (hr : -9223372036854775808 ≤ r ∧ r ≤ 9223372036854775807)
    (hps : ∀ i, i < N.n → (N.D i).ps.length ≤ 1999990) (hdn : N.done ≤ 1999990) (hno : fillOk l d c r rs = false) :
    Calls Try.prog 14 #[.pointer (some ⟨b, 0, none⟩), .slice A m cp, .agg #[.int .i64 l, .int .i64 d, .int .i64 c], .int .i64 r, .slice A2 n2 cp2] w fun e w' => e = .returned (.int .i64 1) ∧ ∃ H', KS W w' b H' N K R S := by
  have e : swrS N lv l d c r rs = (1, N) := if_pos hno
  have := ks_write h lv A m cp hm hv A2 rs n2 cp2 hn2 h28 hrd l d c r hl hd hc hr hps hdn
  rwa [e] at this
end
theorem ones_lv {i : Nat} (h : i < 4) : [true, true, true, true].getD i false = true := by
  match i, h with
  | 0, _ => rfl
  | 1, _ => rfl
  | 2, _ => rfl
  | 3, _ => rfl
/-- Where the power goes. -/
structure SpG (N M : Bch) (k i : Nat) : Prop where
  n : M.n = N.n
  dn : M.down = false
  lf : M.left = (k : Int) - i
  f : ∀ j, (M.D j).f = (N.D j).f
theorem write_f (N : Bch) (d k : Int) (x : List UInt8) (j : Nat) : ((N.write d k x).D j).f = (N.D j).f := by
  unfold Bch.write
  repeat' split
  · rfl
  · rfl
  · rw [Bch.count_D]
  · rw [Bch.count_D]
    show ((upd N.D d.toNat _) j).f = _
    by_cases e : j = d.toNat
    · subst e; rw [upd_same]; rfl
    · rw [upd_other _ _ e]
theorem sp_to {N : Bch} {lv : List Bool} {a D k : Nat} {xs : List (List UInt8)} (ha : a < 52) (hx : ∀ i, i < D → (xs.getD i []).length = 32) (hd : N.down = false) (hl : N.left = (k : Int)) (hs : ∀ i, i < D → srvD N lv i = true) : ∀ i, i ≤ D → i ≤ k → (swTo lv a xs N i).1 = 0 ∧ SpG N (swTo lv a xs N i).2 k i
  | 0, _, _ => ⟨rfl, rfl, hd, by rw [show (swTo lv a xs N 0).2 = N from rfl, hl]; omega, fun j => rfl⟩
  | i + 1, hi, hk => by
    obtain ⟨h0, g⟩ := sp_to ha hx hd hl hs i (by omega) (by omega)
    have hs1 : srvD (swTo lv a xs N i).2 lv i = true := (srvD_congr g.n (g.f i)).trans (hs i (by omega))
    obtain ⟨s1, s2, s3⟩ := srvD_yes hs1
    have hne : (swTo lv a xs N i).2.left ≠ 0 := by rw [g.lf]; omega
    have hw := Bch.write_ok (N := (swTo lv a xs N i).2) (d := i) (k := a) (x := xs.getD i []) s1 ha (hx i (by omega)) s3 g.dn hne
    rw [swTo_goes h0 hs1]
    refine ⟨hw.1, ?_⟩
    show SpG N ((swTo lv a xs N i).2.write (i : Int) (a : Int) (xs.getD i [])) k (i + 1)
    refine ⟨(Bch.write_n _ _ _ _).trans g.n, ?_, ?_, fun j => (write_f _ _ _ _ j).trans (g.f j)⟩
    · rw [hw.2]; unfold Bch.count; rw [if_neg (by exact hne)]; exact g.dn
    · rw [hw.2]; unfold Bch.count; rw [if_neg (by exact hne)]
      show (if (swTo lv a xs N i).2.left = -1 then (-1 : Int) else (swTo lv a xs N i).2.left - 1) = _
      rw [if_neg (by rw [g.lf]; omega), g.lf]; omega
theorem sp_end {N : Bch} {lv : List Bool} {a D k : Nat} {xs : List (List UInt8)} (ha : a < 52) (hx : ∀ i, i < D → (xs.getD i []).length = 32) (hd : N.down = false) (hl : N.left = (k : Int)) (hs : ∀ i, i < D → srvD N lv i = true) (hk : k < D) : (swTo lv a xs N D).1 = 6 ∧ (swTo lv a xs N D).2.down = true ∧ (swTo lv a xs N D).2.n = N.n ∧ ∀ j, ((swTo lv a xs N D).2.D j).f = (N.D j).f := by
  obtain ⟨h0, g⟩ := sp_to ha hx hd hl hs k (by omega) (Nat.le_refl _)
  have hs1 : srvD (swTo lv a xs N k).2 lv k = true := (srvD_congr g.n (g.f k)).trans (hs k hk)
  obtain ⟨s1, s2, s3⟩ := srvD_yes hs1
  have hl0 : (swTo lv a xs N k).2.left = 0 := by rw [g.lf]; omega
  have hp : (swTo lv a xs N k).2.powE (k : Int) = 0 := Bch.powE_ok (Bch.pickE_ok (by omega) (by omega)) g.dn
  have ht : takeE ((swTo lv a xs N k).2.at_ (k : Int)).f (a : Int) (xs.getD k []).length = 0 := by
    rw [hx k hk, show ((swTo lv a xs N k).2.at_ (k : Int)).f = false from s3]; exact takeE_ok (by omega) (by omega)
  have e1 : (swTo lv a xs N (k + 1)).1 = 6 := by
    rw [swTo_goes h0 hs1]
    show (swTo lv a xs N k).2.writeE (k : Int) (a : Int) _ = 6
    unfold Bch.writeE Bch.countE
    rw [if_neg (by simp [hp]), if_neg (fun h => h ht), if_pos hl0]
  have e2 : (swTo lv a xs N (k + 1)).2 = { (swTo lv a xs N k).2 with down := true } := by
    rw [swTo_goes h0 hs1]
    show (swTo lv a xs N k).2.write (k : Int) (a : Int) _ = _
    unfold Bch.write
    rw [if_neg (by simp [hp]), if_neg (fun h => h ht), if_pos hl0]
    unfold Bch.count; rw [if_pos hl0]
  rw [swTo_stop (i := k + 1) (by rw [e1]; decide) D (by omega), e2]
  exact ⟨e1, rfl, g.n, g.f⟩
theorem ok5420 : plOk 5 4 2 0 = true := by decide
theorem limit4 {k : Nat} (hk : k < 4) {x : List UInt8} (hx : x.length = 32) : ∃ N1, swrS ((Bch.new 4).limit (k : Int)) [true, true, true, true] 5 4 2 0 [x, x, x] = (6, N1) ∧ N1.down = true ∧ N1.n = 4 ∧ (∀ i, i < 4 → srvD N1 [true, true, true, true] i = true) := by
  have hN : (Bch.new 4).limit (k : Int) = { Bch.new 4 with left := (k : Int) } := by
    unfold Bch.limit
    rw [if_neg (by decide), show max (k : Int) (-1) = (k : Int) by omega]
  rw [hN]
  have hall : ∀ y ∈ [x, x, x], y.length = 32 := fun y hy => by
    simp only [List.mem_cons, List.not_mem_nil, or_false] at hy
    rcases hy with rfl | rfl | rfl <;> exact hx
  have hok : fillOk 5 4 2 0 [x, x, x] = true := fillOk_mk ok5420 rfl hall
  have hs : ∀ i, i < 4 → srvD ({ Bch.new 4 with left := (k : Int) } : Bch) [true, true, true, true] i = true := fun i hi => srvD_mk hi (ones_lv hi) rfl
  obtain ⟨e1, e2, e3, e4⟩ := sp_end (N := { Bch.new 4 with left := (k : Int) }) (lv := [true, true, true, true]) (a := 36) (D := 4) (k := k) (xs := fillL (roD 4) (roF 5 4 2 0) [x, x, x]) (by omega) (fun i hi => fill_32 hok hi) rfl rfl hs hk
  refine ⟨(swTo [true, true, true, true] 36 (fillL (roD 4) (roF 5 4 2 0) [x, x, x]) { Bch.new 4 with left := (k : Int) } 4).2, ?_, e2, e3, fun i hi => ?_⟩
  · unfold swrS
    rw [if_neg (by rw [hok]; decide)]
    show swTo [true, true, true, true] 36 (fillL (roD 4) (roF 5 4 2 0) [x, x, x]) { Bch.new 4 with left := (k : Int) } 4 = _
    rw [← e1]
  · exact (srvD_congr e3 (e4 i)).trans (hs i hi)
theorem down_read {N : Bch} {lv : List Bool} (hd : N.down = true) (hs : ∀ i, i < 4 → srvD N lv i = true) : srdE N lv 5 4 2 0 = 6 ∧ srdL N lv 5 4 2 0 = [] := srdE_down ok5420 hd (anyS_yes (i := 0) (by show 0 < 4; omega) (hs 0 (by omega)))
theorem down_one {N : Bch} {lv : List Bool} (hd : N.down = true) (hs : ∀ i, i < 4 → srvD N lv i = true) : soneE N lv 5 4 2 0 = 6 ∧ soneB N lv 5 4 2 0 = [] := by
  obtain ⟨h1, h2⟩ := soneE_own (N := N) (lv := lv) (l := 5) (d := 4) (c := 2) (n := 0) (by decide) (by rw [show (plOfD 5 4 2 0).toNat = 0 from by decide]; exact hs 0 (by omega))
  rw [if_pos hd] at h1 h2
  exact ⟨h1, h2⟩
theorem down_flush {N : Bch} {lv : List Bool} (hd : N.down = true) (hn : N.n = 4) (hl : lv.getD 0 false = true) : (sflS N lv).1 = 6 := by
  have hw : (flF N 0).1 = 6 := by
    show N.flushE _ = 6
    have hp : N.powE ((0 : Nat) : Int) = 6 := Bch.powE_down (Bch.pickE_ok (by omega) (by omega)) hd
    unfold Bch.flushE; rw [if_pos (by rw [hp]; decide), hp]
  have h1 : (onTo flF lv N 1).1 = 6 := by
    rw [onTo_goes (i := 0) rfl hl (by rw [show (onTo flF lv N 0).2 = N from rfl, hw]; decide)]
    exact hw
  unfold sflS
  rw [onTo_stop (i := 1) (by rw [h1]; decide) _ (by omega)]
  exact h1
set_option maxRecDepth 100000 in
set_option maxHeartbeats 3200000 in
theorem seAb {W0 : World} {b gb gl gx gz : Nat} {z0 z1 : Int} {x : List UInt8} {j : Nat} {H : BH} {w : World} (u0 u1 u2 u4 u8 u9 u10 u11 u12 u13 u14 u15 u16 u17 u18 u19 u20 u21 u22 u23 u24 u25 u26 u27 u28 u29 u30 u31 u32 u33 u34 u35 u36 u37 u38 u39 u40 u41 u42 u43 u47 u48 u49 u50 u51 u52 u53 u54 u55 u56 u57 u58 u59 u60 u61 u62 u63 u64 u65 u66 u67 u68 u69 u70 u71 u72 u73 u74 u75 u76 u77 u78 u79 u80 u81 u82 u83 u84 u85 u86 u87 u88 u89 u90 u91 u92 u93 u94 u95 u96 u97 u98 u99 u100 u101 u102 u103 u104 u105 u106 u107 u108 u109 u110 u111 u112 u113 u114 u115 u116 u117 u118 u119 u120 u121 u122 u123 u124 u125 u126 u127 u128 u129 u130 u131 u132 u133 u134 u135 u136 u137 u138 u139 u140 u141 u142 u143 u144 u145 u146 u147 u148 u149 u150 u151 u152 u153 u154 u155 u156 u157 u158 u159 u160 u161 u162 u163 u164 u165 u166 u167 u168 u169 u170 u171 u172 u173 u174 u175 u176 u177 u178 u179 u180 u181 u182 u183 u184 u185 u186 u187 u188 u189 u190 u191 u192 u193 u194 u195 : Value) (K : Act → World → Prop) (Q0 : Exit → Act → World → Prop) (hx : x.length = 32) (hz0 : -1000 ≤ z0 ∧ z0 < 0) (hz1 : 16 ≤ z1 ∧ z1 ≤ 2000) (hI : (j ≤ 2 ∧ KS W0 w b H (Bch.new 4) [(gz, Obj.cells #[.int .i64 z0, .int .i64 z1] 3 (0, 0)), (gb, Obj.cells #[.int .i64 5, .int .i64 4, .int .i64 2] 24 (0, 0)), (gl, Obj.cells ([true, true, true, true].map Value.bool).toArray 4 (0, 0))] [] [(some ⟨gx, 0, none⟩, x)]))
    (hK : ∀ (v2 v9 v10 v11 v47 v48 v49 v50 v51 v52 v53 v54 v55 v56 v57 v58 v59 v60 v61 v62 v63 v64 v65 v66 v67 v68 v69 v70 v71 v72 : Value) (H2 : BH) (V : World), ((j + 1) ≤ 2 ∧ KS W0 V b H2 (Bch.new 4) [(gz, Obj.cells #[.int .i64 z0, .int .i64 z1] 3 (0, 0)), (gb, Obj.cells #[.int .i64 5, .int .i64 4, .int .i64 2] 24 (0, 0)), (gl, Obj.cells ([true, true, true, true].map Value.bool).toArray 4 (0, 0))] [] [(some ⟨gx, 0, none⟩, x)]) → 2 - (j + 1) < 2 - j → K ⟨List.toArray (u0 :: u1 :: v2 :: (.pointer (some ⟨b, 0, none⟩)) :: u4 :: (.slice (some ⟨gl, 0, none⟩) 4 4) :: (.pointer (some ⟨gb, 0, none⟩)) :: (.slice (some ⟨gx, 0, none⟩) 32 32) :: u8 :: v9 :: v10 :: v11 :: u12 :: u13 :: u14 :: u15 :: u16 :: u17 :: u18 :: u19 :: u20 :: u21 :: u22 :: u23 :: u24 :: u25 :: u26 :: u27 :: u28 :: u29 :: u30 :: u31 :: u32 :: u33 :: u34 :: u35 :: u36 :: u37 :: u38 :: u39 :: u40 :: u41 :: u42 :: u43 :: (.slice (some ⟨gz, 0, none⟩) 2 2) :: (.int .i64 2) :: (.int .i64 (((j + 1) : Nat) : Int)) :: v47 :: v48 :: v49 :: v50 :: v51 :: v52 :: v53 :: v54 :: v55 :: v56 :: v57 :: v58 :: v59 :: v60 :: v61 :: v62 :: v63 :: v64 :: v65 :: v66 :: v67 :: v68 :: v69 :: v70 :: v71 :: v72 :: u73 :: u74 :: u75 :: u76 :: u77 :: u78 :: u79 :: u80 :: u81 :: u82 :: u83 :: u84 :: u85 :: u86 :: u87 :: u88 :: u89 :: u90 :: u91 :: u92 :: u93 :: u94 :: u95 :: u96 :: u97 :: u98 :: u99 :: u100 :: u101 :: u102 :: u103 :: u104 :: u105 :: u106 :: u107 :: u108 :: u109 :: u110 :: u111 :: u112 :: u113 :: u114 :: u115 :: u116 :: u117 :: u118 :: u119 :: u120 :: u121 :: u122 :: u123 :: u124 :: u125 :: u126 :: u127 :: u128 :: u129 :: u130 :: u131 :: u132 :: u133 :: u134 :: u135 :: u136 :: u137 :: u138 :: u139 :: u140 :: u141 :: u142 :: u143 :: u144 :: u145 :: u146 :: u147 :: u148 :: u149 :: u150 :: u151 :: u152 :: u153 :: u154 :: u155 :: u156 :: u157 :: u158 :: u159 :: u160 :: u161 :: u162 :: u163 :: u164 :: u165 :: u166 :: u167 :: u168 :: u169 :: u170 :: u171 :: u172 :: u173 :: u174 :: u175 :: u176 :: u177 :: u178 :: u179 :: u180 :: u181 :: u182 :: u183 :: u184 :: u185 :: u186 :: u187 :: u188 :: u189 :: u190 :: u191 :: u192 :: u193 :: u194 :: u195 :: []), []⟩ V)
    (hX : ∀ (v2 v9 v10 v11 v47 v48 v49 v50 v51 v52 v53 v54 v55 v56 v57 v58 v59 v60 v61 v62 v63 v64 v65 v66 v67 v68 v69 v70 v71 v72 : Value), (True) → Q0 (.exit 0) ⟨List.toArray (u0 :: u1 :: v2 :: (.pointer (some ⟨b, 0, none⟩)) :: u4 :: (.slice (some ⟨gl, 0, none⟩) 4 4) :: (.pointer (some ⟨gb, 0, none⟩)) :: (.slice (some ⟨gx, 0, none⟩) 32 32) :: u8 :: v9 :: v10 :: v11 :: u12 :: u13 :: u14 :: u15 :: u16 :: u17 :: u18 :: u19 :: u20 :: u21 :: u22 :: u23 :: u24 :: u25 :: u26 :: u27 :: u28 :: u29 :: u30 :: u31 :: u32 :: u33 :: u34 :: u35 :: u36 :: u37 :: u38 :: u39 :: u40 :: u41 :: u42 :: u43 :: (.slice (some ⟨gz, 0, none⟩) 2 2) :: (.int .i64 2) :: (.int .i64 ((j : Nat) : Int)) :: v47 :: v48 :: v49 :: v50 :: v51 :: v52 :: v53 :: v54 :: v55 :: v56 :: v57 :: v58 :: v59 :: v60 :: v61 :: v62 :: v63 :: v64 :: v65 :: v66 :: v67 :: v68 :: v69 :: v70 :: v71 :: v72 :: u73 :: u74 :: u75 :: u76 :: u77 :: u78 :: u79 :: u80 :: u81 :: u82 :: u83 :: u84 :: u85 :: u86 :: u87 :: u88 :: u89 :: u90 :: u91 :: u92 :: u93 :: u94 :: u95 :: u96 :: u97 :: u98 :: u99 :: u100 :: u101 :: u102 :: u103 :: u104 :: u105 :: u106 :: u107 :: u108 :: u109 :: u110 :: u111 :: u112 :: u113 :: u114 :: u115 :: u116 :: u117 :: u118 :: u119 :: u120 :: u121 :: u122 :: u123 :: u124 :: u125 :: u126 :: u127 :: u128 :: u129 :: u130 :: u131 :: u132 :: u133 :: u134 :: u135 :: u136 :: u137 :: u138 :: u139 :: u140 :: u141 :: u142 :: u143 :: u144 :: u145 :: u146 :: u147 :: u148 :: u149 :: u150 :: u151 :: u152 :: u153 :: u154 :: u155 :: u156 :: u157 :: u158 :: u159 :: u160 :: u161 :: u162 :: u163 :: u164 :: u165 :: u166 :: u167 :: u168 :: u169 :: u170 :: u171 :: u172 :: u173 :: u174 :: u175 :: u176 :: u177 :: u178 :: u179 :: u180 :: u181 :: u182 :: u183 :: u184 :: u185 :: u186 :: u187 :: u188 :: u189 :: u190 :: u191 :: u192 :: u193 :: u194 :: u195 :: []), []⟩ w) :
    Code.wp Try.prog (sub [1, 1, 1, 1, 1, 1, 1, 0, 1, 0, 0] codeSE) (Exit.then K Q0) ⟨List.toArray (u0 :: u1 :: u2 :: (.pointer (some ⟨b, 0, none⟩)) :: u4 :: (.slice (some ⟨gl, 0, none⟩) 4 4) :: (.pointer (some ⟨gb, 0, none⟩)) :: (.slice (some ⟨gx, 0, none⟩) 32 32) :: u8 :: u9 :: u10 :: u11 :: u12 :: u13 :: u14 :: u15 :: u16 :: u17 :: u18 :: u19 :: u20 :: u21 :: u22 :: u23 :: u24 :: u25 :: u26 :: u27 :: u28 :: u29 :: u30 :: u31 :: u32 :: u33 :: u34 :: u35 :: u36 :: u37 :: u38 :: u39 :: u40 :: u41 :: u42 :: u43 :: (.slice (some ⟨gz, 0, none⟩) 2 2) :: (.int .i64 2) :: (.int .i64 ((j : Nat) : Int)) :: u47 :: u48 :: u49 :: u50 :: u51 :: u52 :: u53 :: u54 :: u55 :: u56 :: u57 :: u58 :: u59 :: u60 :: u61 :: u62 :: u63 :: u64 :: u65 :: u66 :: u67 :: u68 :: u69 :: u70 :: u71 :: u72 :: u73 :: u74 :: u75 :: u76 :: u77 :: u78 :: u79 :: u80 :: u81 :: u82 :: u83 :: u84 :: u85 :: u86 :: u87 :: u88 :: u89 :: u90 :: u91 :: u92 :: u93 :: u94 :: u95 :: u96 :: u97 :: u98 :: u99 :: u100 :: u101 :: u102 :: u103 :: u104 :: u105 :: u106 :: u107 :: u108 :: u109 :: u110 :: u111 :: u112 :: u113 :: u114 :: u115 :: u116 :: u117 :: u118 :: u119 :: u120 :: u121 :: u122 :: u123 :: u124 :: u125 :: u126 :: u127 :: u128 :: u129 :: u130 :: u131 :: u132 :: u133 :: u134 :: u135 :: u136 :: u137 :: u138 :: u139 :: u140 :: u141 :: u142 :: u143 :: u144 :: u145 :: u146 :: u147 :: u148 :: u149 :: u150 :: u151 :: u152 :: u153 :: u154 :: u155 :: u156 :: u157 :: u158 :: u159 :: u160 :: u161 :: u162 :: u163 :: u164 :: u165 :: u166 :: u167 :: u168 :: u169 :: u170 :: u171 :: u172 :: u173 :: u174 :: u175 :: u176 :: u177 :: u178 :: u179 :: u180 :: u181 :: u182 :: u183 :: u184 :: u185 :: u186 :: u187 :: u188 :: u189 :: u190 :: u191 :: u192 :: u193 :: u194 :: u195 :: []), []⟩ w := by
  have HK := Lib.hid hK
  have HX := Lib.hid hX
  clear hK hX
  conv => arg 2; whnf
  obtain ⟨hj, hk⟩ := hI
  have Hk := Lib.hid hk
  by_cases hlt : j < 2
  · have i0 : (0 : Int) ≤ (j : Int) := by omega
    have i1 : (j : Int) < 2 := by omega
    obtain ⟨z, hzc, hzn, hz64⟩ : ∃ z : Int, w.cell? ⟨gz, j, none⟩ = some (.int .i64 z) ∧ plOk 5 4 2 z = false ∧ (-9223372036854775808 ≤ z ∧ z ≤ 9223372036854775807) := by
      have hc := (hk.kx.kp _ (List.mem_cons_self ..)).1
      rcases (show j = 0 ∨ j = 1 by omega) with rfl | rfl
      · exact ⟨z0, cell_of_row w gz 0 _ _ _ hc, plOk_no (by omega), by omega⟩
      · exact ⟨z1, cell_of_row w gz 1 _ _ _ hc, plOk_no (by omega), by omega⟩
    obtain ⟨g1, g2, g3⟩ := hk.gat (g := gb) (l := 5) (d := 4) (c := 2) (t := 24) (f := (0, 0)) (by simp)
    have CR := ks_read hk [true, true, true, true] (some ⟨gl, 0, none⟩) 4 4 rfl (hk.lv (g := gl) (t := 4) (f := (0, 0)) (lv := [true, true, true, true]) (by simp) rfl (by simp)) 5 4 2 z (by omega) (by omega) (by omega) hz64
    obtain ⟨e1, e2⟩ := srdE_bad (N := Bch.new 4) (lv := [true, true, true, true]) hzn
    rw [e1, e2] at CR
    have CR := Lib.hid CR
    have hno := fillOk_false (rs := [x, x, x]) (l := 5) (d := 4) (c := 2) (r := z) (fun h => by rw [hzn] at h; cases h.1)
    have Hno := Lib.hid hno
    clear hk e1 e2 HX hno hzn hz0 hz1
    go_wp2_with fail
    (with_reducible refine CR.out.mono ?_); rintro e w1 ⟨A1, c1, rfl, k1, _⟩
    obtain ⟨g4, g5, g6⟩ := k1.gat (g := gb) (l := 5) (d := 4) (c := 2) (t := 24) (f := (0, 0)) (by simp)
    have ka := k1.add (.cells #[.slice (some ⟨gx, 0, none⟩) 32 32, .slice (some ⟨gx, 0, none⟩) 32 32, .slice (some ⟨gx, 0, none⟩) 32 32] 46)
    have hrd : RdR (w1.alloc (.cells #[.slice (some ⟨gx, 0, none⟩) 32 32, .slice (some ⟨gx, 0, none⟩) 32 32, .slice (some ⟨gx, 0, none⟩) 32 32] 46)) (w1.alloc (.cells #[.slice (some ⟨gx, 0, none⟩) 32 32, .slice (some ⟨gx, 0, none⟩) 32 32, .slice (some ⟨gx, 0, none⟩) 32 32] 46)).heap.size (some ⟨w1.heap.size, 0, none⟩) [x, x, x] := rdr_rep (c := 32) (t := 46) (f := (0, 0)) 3 hx.symm (by omega) (k1.sl (A := some ⟨gx, 0, none⟩) (bs := x) (by simp))
    have CW := Lib.hid (ks_refused ka [true, true, true, true] (some ⟨gl, 0, none⟩) 4 4 rfl (ka.lv (g := gl) (t := 4) (f := (0, 0)) (lv := [true, true, true, true]) (by simp) rfl (by simp)) (some ⟨w1.heap.size, 0, none⟩) [x, x, x] 3 3 rfl (by omega) hrd 5 4 2 z (by omega) (by omega) (by omega) hz64 (fun i hi => Nat.zero_le _) (Nat.zero_le _) Hno.out)
    clear k1 ka hrd g1 g2 g3 CR
    have hlz : ([] : List (List UInt8)).length = 0 := rfl
    go_wp2_with fail
    (with_reducible refine CW.out.mono ?_); rintro e w2 ⟨rfl, H2, k2⟩
    have K2 := Lib.hid (k2.less (K' := [(gz, Obj.cells #[.int .i64 z0, .int .i64 z1] 3 (0, 0)), (gb, Obj.cells #[.int .i64 5, .int .i64 4, .int .i64 2] 24 (0, 0)), (gl, Obj.cells ([true, true, true, true].map Value.bool).toArray 4 (0, 0))]) (R' := []) (S' := [(some ⟨gx, 0, none⟩, x)]) (fun _ h => List.mem_cons_of_mem _ h) (fun _ h => absurd h (by simp)) (fun _ h => h))
    clear k2
    go_wp2_with fail
    exact HK.out _ _ _ _ _ _ _ _ _ _ _ _ _ _ _ _ _ _ _ _ _ _ _ _ _ _ _ _ _ _ H2 _ ⟨by omega, K2.out⟩ (by omega)
  · have i1 : ¬ (j : Int) < 2 := by omega
    clear HK hk
    go_wp2_with fail
    exact HX.out _ _ _ _ _ _ _ _ _ _ _ _ _ _ _ _ _ _ _ _ _ _ _ _ _ _ _ _ _ _ (by trivial)
set_option maxRecDepth 100000 in
set_option maxHeartbeats 3200000 in
theorem seA {W0 : World} {b gb gl gx gz : Nat} {z0 z1 : Int} {x : List UInt8} {H0 : BH} {w : World} (u0 u1 u2 u4 u8 u9 u10 u11 u12 u13 u14 u15 u16 u17 u18 u19 u20 u21 u22 u23 u24 u25 u26 u27 u28 u29 u30 u31 u32 u33 u34 u35 u36 u37 u38 u39 u40 u41 u42 u43 u47 u48 u49 u50 u51 u52 u53 u54 u55 u56 u57 u58 u59 u60 u61 u62 u63 u64 u65 u66 u67 u68 u69 u70 u71 u72 u73 u74 u75 u76 u77 u78 u79 u80 u81 u82 u83 u84 u85 u86 u87 u88 u89 u90 u91 u92 u93 u94 u95 u96 u97 u98 u99 u100 u101 u102 u103 u104 u105 u106 u107 u108 u109 u110 u111 u112 u113 u114 u115 u116 u117 u118 u119 u120 u121 u122 u123 u124 u125 u126 u127 u128 u129 u130 u131 u132 u133 u134 u135 u136 u137 u138 u139 u140 u141 u142 u143 u144 u145 u146 u147 u148 u149 u150 u151 u152 u153 u154 u155 u156 u157 u158 u159 u160 u161 u162 u163 u164 u165 u166 u167 u168 u169 u170 u171 u172 u173 u174 u175 u176 u177 u178 u179 u180 u181 u182 u183 u184 u185 u186 u187 u188 u189 u190 u191 u192 u193 u194 u195 : Value) (Q : Exit → Act → World → Prop) (hx : x.length = 32) (hz0 : -1000 ≤ z0 ∧ z0 < 0) (hz1 : 16 ≤ z1 ∧ z1 ≤ 2000) (hI : (0 ≤ 2 ∧ KS W0 w b H0 (Bch.new 4) [(gz, Obj.cells #[.int .i64 z0, .int .i64 z1] 3 (0, 0)), (gb, Obj.cells #[.int .i64 5, .int .i64 4, .int .i64 2] 24 (0, 0)), (gl, Obj.cells ([true, true, true, true].map Value.bool).toArray 4 (0, 0))] [] [(some ⟨gx, 0, none⟩, x)]))
    (hX : ∀ (v2 v9 v10 v11 v47 v48 v49 v50 v51 v52 v53 v54 v55 v56 v57 v58 v59 v60 v61 v62 v63 v64 v65 v66 v67 v68 v69 v70 v71 v72 : Value) (j : Nat) (H : BH) (V : World), (j ≤ 2 ∧ KS W0 V b H (Bch.new 4) [(gz, Obj.cells #[.int .i64 z0, .int .i64 z1] 3 (0, 0)), (gb, Obj.cells #[.int .i64 5, .int .i64 4, .int .i64 2] 24 (0, 0)), (gl, Obj.cells ([true, true, true, true].map Value.bool).toArray 4 (0, 0))] [] [(some ⟨gx, 0, none⟩, x)]) → (True) → Q (.exit 0) ⟨List.toArray (u0 :: u1 :: v2 :: (.pointer (some ⟨b, 0, none⟩)) :: u4 :: (.slice (some ⟨gl, 0, none⟩) 4 4) :: (.pointer (some ⟨gb, 0, none⟩)) :: (.slice (some ⟨gx, 0, none⟩) 32 32) :: u8 :: v9 :: v10 :: v11 :: u12 :: u13 :: u14 :: u15 :: u16 :: u17 :: u18 :: u19 :: u20 :: u21 :: u22 :: u23 :: u24 :: u25 :: u26 :: u27 :: u28 :: u29 :: u30 :: u31 :: u32 :: u33 :: u34 :: u35 :: u36 :: u37 :: u38 :: u39 :: u40 :: u41 :: u42 :: u43 :: (.slice (some ⟨gz, 0, none⟩) 2 2) :: (.int .i64 2) :: (.int .i64 ((j : Nat) : Int)) :: v47 :: v48 :: v49 :: v50 :: v51 :: v52 :: v53 :: v54 :: v55 :: v56 :: v57 :: v58 :: v59 :: v60 :: v61 :: v62 :: v63 :: v64 :: v65 :: v66 :: v67 :: v68 :: v69 :: v70 :: v71 :: v72 :: u73 :: u74 :: u75 :: u76 :: u77 :: u78 :: u79 :: u80 :: u81 :: u82 :: u83 :: u84 :: u85 :: u86 :: u87 :: u88 :: u89 :: u90 :: u91 :: u92 :: u93 :: u94 :: u95 :: u96 :: u97 :: u98 :: u99 :: u100 :: u101 :: u102 :: u103 :: u104 :: u105 :: u106 :: u107 :: u108 :: u109 :: u110 :: u111 :: u112 :: u113 :: u114 :: u115 :: u116 :: u117 :: u118 :: u119 :: u120 :: u121 :: u122 :: u123 :: u124 :: u125 :: u126 :: u127 :: u128 :: u129 :: u130 :: u131 :: u132 :: u133 :: u134 :: u135 :: u136 :: u137 :: u138 :: u139 :: u140 :: u141 :: u142 :: u143 :: u144 :: u145 :: u146 :: u147 :: u148 :: u149 :: u150 :: u151 :: u152 :: u153 :: u154 :: u155 :: u156 :: u157 :: u158 :: u159 :: u160 :: u161 :: u162 :: u163 :: u164 :: u165 :: u166 :: u167 :: u168 :: u169 :: u170 :: u171 :: u172 :: u173 :: u174 :: u175 :: u176 :: u177 :: u178 :: u179 :: u180 :: u181 :: u182 :: u183 :: u184 :: u185 :: u186 :: u187 :: u188 :: u189 :: u190 :: u191 :: u192 :: u193 :: u194 :: u195 :: []), []⟩ V) :
    Code.wp Try.prog (.loop (sub [1, 1, 1, 1, 1, 1, 1, 0, 1, 0, 0] codeSE)) Q ⟨List.toArray (u0 :: u1 :: u2 :: (.pointer (some ⟨b, 0, none⟩)) :: u4 :: (.slice (some ⟨gl, 0, none⟩) 4 4) :: (.pointer (some ⟨gb, 0, none⟩)) :: (.slice (some ⟨gx, 0, none⟩) 32 32) :: u8 :: u9 :: u10 :: u11 :: u12 :: u13 :: u14 :: u15 :: u16 :: u17 :: u18 :: u19 :: u20 :: u21 :: u22 :: u23 :: u24 :: u25 :: u26 :: u27 :: u28 :: u29 :: u30 :: u31 :: u32 :: u33 :: u34 :: u35 :: u36 :: u37 :: u38 :: u39 :: u40 :: u41 :: u42 :: u43 :: (.slice (some ⟨gz, 0, none⟩) 2 2) :: (.int .i64 2) :: (.int .i64 ((0 : Nat) : Int)) :: u47 :: u48 :: u49 :: u50 :: u51 :: u52 :: u53 :: u54 :: u55 :: u56 :: u57 :: u58 :: u59 :: u60 :: u61 :: u62 :: u63 :: u64 :: u65 :: u66 :: u67 :: u68 :: u69 :: u70 :: u71 :: u72 :: u73 :: u74 :: u75 :: u76 :: u77 :: u78 :: u79 :: u80 :: u81 :: u82 :: u83 :: u84 :: u85 :: u86 :: u87 :: u88 :: u89 :: u90 :: u91 :: u92 :: u93 :: u94 :: u95 :: u96 :: u97 :: u98 :: u99 :: u100 :: u101 :: u102 :: u103 :: u104 :: u105 :: u106 :: u107 :: u108 :: u109 :: u110 :: u111 :: u112 :: u113 :: u114 :: u115 :: u116 :: u117 :: u118 :: u119 :: u120 :: u121 :: u122 :: u123 :: u124 :: u125 :: u126 :: u127 :: u128 :: u129 :: u130 :: u131 :: u132 :: u133 :: u134 :: u135 :: u136 :: u137 :: u138 :: u139 :: u140 :: u141 :: u142 :: u143 :: u144 :: u145 :: u146 :: u147 :: u148 :: u149 :: u150 :: u151 :: u152 :: u153 :: u154 :: u155 :: u156 :: u157 :: u158 :: u159 :: u160 :: u161 :: u162 :: u163 :: u164 :: u165 :: u166 :: u167 :: u168 :: u169 :: u170 :: u171 :: u172 :: u173 :: u174 :: u175 :: u176 :: u177 :: u178 :: u179 :: u180 :: u181 :: u182 :: u183 :: u184 :: u185 :: u186 :: u187 :: u188 :: u189 :: u190 :: u191 :: u192 :: u193 :: u194 :: u195 :: []), []⟩ w := by
  refine wp_loop_ghost (fun gk a V => ∀ C : Prop, (∀ (u2 u9 u10 u11 u47 u48 u49 u50 u51 u52 u53 u54 u55 u56 u57 u58 u59 u60 u61 u62 u63 u64 u65 u66 u67 u68 u69 u70 u71 u72 : Value) (j : Nat) (H : BH), gk = 2 - j → (j ≤ 2 ∧ KS W0 V b H (Bch.new 4) [(gz, Obj.cells #[.int .i64 z0, .int .i64 z1] 3 (0, 0)), (gb, Obj.cells #[.int .i64 5, .int .i64 4, .int .i64 2] 24 (0, 0)), (gl, Obj.cells ([true, true, true, true].map Value.bool).toArray 4 (0, 0))] [] [(some ⟨gx, 0, none⟩, x)]) → a = ⟨List.toArray (u0 :: u1 :: u2 :: (.pointer (some ⟨b, 0, none⟩)) :: u4 :: (.slice (some ⟨gl, 0, none⟩) 4 4) :: (.pointer (some ⟨gb, 0, none⟩)) :: (.slice (some ⟨gx, 0, none⟩) 32 32) :: u8 :: u9 :: u10 :: u11 :: u12 :: u13 :: u14 :: u15 :: u16 :: u17 :: u18 :: u19 :: u20 :: u21 :: u22 :: u23 :: u24 :: u25 :: u26 :: u27 :: u28 :: u29 :: u30 :: u31 :: u32 :: u33 :: u34 :: u35 :: u36 :: u37 :: u38 :: u39 :: u40 :: u41 :: u42 :: u43 :: (.slice (some ⟨gz, 0, none⟩) 2 2) :: (.int .i64 2) :: (.int .i64 ((j : Nat) : Int)) :: u47 :: u48 :: u49 :: u50 :: u51 :: u52 :: u53 :: u54 :: u55 :: u56 :: u57 :: u58 :: u59 :: u60 :: u61 :: u62 :: u63 :: u64 :: u65 :: u66 :: u67 :: u68 :: u69 :: u70 :: u71 :: u72 :: u73 :: u74 :: u75 :: u76 :: u77 :: u78 :: u79 :: u80 :: u81 :: u82 :: u83 :: u84 :: u85 :: u86 :: u87 :: u88 :: u89 :: u90 :: u91 :: u92 :: u93 :: u94 :: u95 :: u96 :: u97 :: u98 :: u99 :: u100 :: u101 :: u102 :: u103 :: u104 :: u105 :: u106 :: u107 :: u108 :: u109 :: u110 :: u111 :: u112 :: u113 :: u114 :: u115 :: u116 :: u117 :: u118 :: u119 :: u120 :: u121 :: u122 :: u123 :: u124 :: u125 :: u126 :: u127 :: u128 :: u129 :: u130 :: u131 :: u132 :: u133 :: u134 :: u135 :: u136 :: u137 :: u138 :: u139 :: u140 :: u141 :: u142 :: u143 :: u144 :: u145 :: u146 :: u147 :: u148 :: u149 :: u150 :: u151 :: u152 :: u153 :: u154 :: u155 :: u156 :: u157 :: u158 :: u159 :: u160 :: u161 :: u162 :: u163 :: u164 :: u165 :: u166 :: u167 :: u168 :: u169 :: u170 :: u171 :: u172 :: u173 :: u174 :: u175 :: u176 :: u177 :: u178 :: u179 :: u180 :: u181 :: u182 :: u183 :: u184 :: u185 :: u186 :: u187 :: u188 :: u189 :: u190 :: u191 :: u192 :: u193 :: u194 :: u195 :: []), []⟩ → C) → C) (2 - 0) ?_ ?_
  · intro C hC
    exact hC _ _ _ _ _ _ _ _ _ _ _ _ _ _ _ _ _ _ _ _ _ _ _ _ _ _ _ _ _ _ (0) (H0) rfl hI rfl
  · intro gk a V hI'
    refine hI' _ ?_
    intro u2 u9 u10 u11 u47 u48 u49 u50 u51 u52 u53 u54 u55 u56 u57 u58 u59 u60 u61 u62 u63 u64 u65 u66 u67 u68 u69 u70 u71 u72 j H hk hinv ha
    subst ha
    subst hk
    refine seAb _ _ _ _ _ _ _ _ _ _ _ _ _ _ _ _ _ _ _ _ _ _ _ _ _ _ _ _ _ _ _ _ _ _ _ _ _ _ _ _ _ _ _ _ _ _ _ _ _ _ _ _ _ _ _ _ _ _ _ _ _ _ _ _ _ _ _ _ _ _ _ _ _ _ _ _ _ _ _ _ _ _ _ _ _ _ _ _ _ _ _ _ _ _ _ _ _ _ _ _ _ _ _ _ _ _ _ _ _ _ _ _ _ _ _ _ _ _ _ _ _ _ _ _ _ _ _ _ _ _ _ _ _ _ _ _ _ _ _ _ _ _ _ _ _ _ _ _ _ _ _ _ _ _ _ _ _ _ _ _ _ _ _ _ _ _ _ _ _ _ _ _ _ _ _ _ _ _ _ _ _ _ _ _ _ _ _ _ _ _ _ hx hz0 hz1 hinv (fun v2 v9 v10 v11 v47 v48 v49 v50 v51 v52 v53 v54 v55 v56 v57 v58 v59 v60 v61 v62 v63 v64 v65 v66 v67 v68 v69 v70 v71 v72 H2 V2 h2 hm => ?_) (fun v2 v9 v10 v11 v47 v48 v49 v50 v51 v52 v53 v54 v55 v56 v57 v58 v59 v60 v61 v62 v63 v64 v65 v66 v67 v68 v69 v70 v71 v72 hx => hX v2 v9 v10 v11 v47 v48 v49 v50 v51 v52 v53 v54 v55 v56 v57 v58 v59 v60 v61 v62 v63 v64 v65 v66 v67 v68 v69 v70 v71 v72 j H V hinv hx)
    refine ⟨_, hm, fun C hC => ?_⟩
    exact hC v2 v9 v10 v11 v47 v48 v49 v50 v51 v52 v53 v54 v55 v56 v57 v58 v59 v60 v61 v62 v63 v64 v65 v66 v67 v68 v69 v70 v71 v72 ((j + 1)) (H2) rfl h2 rfl
end Go.Proofs.Ytpaegibaikpikaa
end
section
set_option linter.unusedVariables false
set_option linter.unusedSimpArgs false
namespace Go.Proofs.Ytpaegibaikpikaa
open Go.RowKit

theorem RdRX.cellAt {F : Nat → Prop} {w : World} {b off : Nat} {rs : List (List UInt8)} (h : RdRX F w (some ⟨b, off, none⟩) rs) {k : Nat} (hk : k < rs.length) : ∃ A' c, w.cell? ⟨b, off + k, none⟩ = some (.slice A' (rs.getD k []).length c) ∧ RdBX F w A' (rs.getD k []) := by
  obtain ⟨b', off', A', c, e, h1, h2⟩ := h.at hk
  injection e with e
  injection e with e1 e2 _
  subst e1 e2
  exact ⟨A', c, h1, h2⟩
/-- Where the number of a row's data chunk is. -/
theorem num_place {n l c : Int} {ρ D F W k : Nat} (gr : Gr n l c (ρ : Int) D F W) (hk : k < W) : plOfOk l (D : Int) c (plN l (D : Int) c (ρ : Int) (k : Int)) = true ∧ plOfD l (D : Int) c (plN l (D : Int) c (ρ : Int) (k : Int)) = ((roS D F k : Nat) : Int) ∧ plOfR l (D : Int) c (plN l (D : Int) c (ρ : Int) (k : Int)) = (ρ : Int) ∧ kOf l (D : Int) c (plN l (D : Int) c (ρ : Int) (k : Int)) = k := by
  have hg := (plOk_yes gr.ok).1
  have hwd := gr.wd
  have hw : gWid l (D : Int) c = (D : Int) - (l - 4) := gWid_yes hg
  have hd := plDok_mk (k := (k : Int)) gr.ok (by omega) (by omega)
  obtain ⟨h1, h2, h3⟩ := of_num hd
  have hp := gr.R.pD k (by rw [gr.eW]; exact hk)
  rw [gr.eD, gr.eF] at hp
  refine ⟨h1, h2.trans hp, h3, ?_⟩
  have := (num_row hd).2.2.2
  unfold kOf
  rw [this]; omega
theorem one_own {N : Bch} {lv : List Bool} {n l c : Int} {ρ D F W k : Nat} (gr : Gr n l c (ρ : Int) D F W) (hk : k < W) (hd : N.down = false) (hs : srvD N lv (roS D F k) = true) : soneE N lv l (D : Int) c (plN l (D : Int) c (ρ : Int) (k : Int)) = 0 ∧ soneB N lv l (D : Int) c (plN l (D : Int) c (ρ : Int) (k : Int)) = secAt (N.D (roS D F k)).now (36 + ρ) := by
  obtain ⟨h1, h2, h3, _⟩ := num_place gr hk
  have h := soneE_own (N := N) (lv := lv) h1 (by rw [h2]; exact hs)
  rw [hd, h2, h3] at h
  exact h
theorem one_row {N : Bch} {lv : List Bool} {n l c : Int} {ρ D F W k : Nat} (gr : Gr n l c (ρ : Int) D F W) (hk : k < W) (hs : srvD N lv (roS D F k) = false) : soneE N lv l (D : Int) c (plN l (D : Int) c (ρ : Int) (k : Int)) = srdE N lv l (D : Int) c (ρ : Int) ∧ soneB N lv l (D : Int) c (plN l (D : Int) c (ρ : Int) (k : Int)) = if srdE N lv l (D : Int) c (ρ : Int) ≠ 0 then [] else (srdL N lv l (D : Int) c (ρ : Int)).getD k [] := by
  obtain ⟨h1, h2, h3, h4⟩ := num_place gr hk
  have h := soneE_row (N := N) (lv := lv) h1 (by rw [h2]; exact hs)
  rw [h3, h4] at h
  exact h
/-- One by one: each sector of a row that is told. -/
theorem Std.one {N : Bch} {lv : List Bool} {n l c : Int} {m ρ D F W k : Nat} {fl : Nat → List (List UInt8)} {rs : List (List UInt8)} (h : Std N m D fl) (gr : Gr n l c (ρ : Int) D F W) (hρ : ρ < 16) (hrs : rs.length = W) (hfl : fl ρ = fillL D F rs) (hE : srdE N lv l (D : Int) c (ρ : Int) = 0 ∧ srdL N lv l (D : Int) c (ρ : Int) = rs) (hk : k < W) :
    soneE N lv l (D : Int) c (plN l (D : Int) c (ρ : Int) (k : Int)) = 0 ∧ soneB N lv l (D : Int) c (plN l (D : Int) c (ρ : Int) (k : Int)) = rs.getD k [] := by
  have hW := gr.hW
  cases hs : srvD N lv (roS D F k) with
  | true =>
    obtain ⟨h1, h2⟩ := one_own gr hk h.dn hs
    refine ⟨h1, h2.trans ?_⟩
    rw [h.at' _ (roS_lt gr.hF (by omega)) ρ hρ (srvD_yes hs).2.2, hfl, fillL_at gr.hF (by omega), allL_data (by omega)]
  | false =>
    obtain ⟨h1, h2⟩ := one_row (N := N) (lv := lv) gr hk hs
    rw [hE.1] at h1 h2
    rw [if_neg (by simp), hE.2] at h2
    exact ⟨h1, h2⟩
theorem spl_lv {lv : List Bool} {d : Nat} (h : d < lv.length) (v : Bool) : spl (lv.map Value.bool) d [Value.bool v] = (lv.set d v).map Value.bool := by
  rw [List.map_set, List.set_eq_take_append_cons_drop, if_pos (by simpa using h)]
  unfold spl
  simp
theorem row_setCell {w : World} {b k : Nat} {cur : Array Value} {u : Value} {t : TypeId} (h : w.heap[b]? = some (.cells cur t (0, 0))) : (w.setCell ⟨b, k, none⟩ u).heap[b]? = some (.cells (cur.setIfInBounds k u) t (0, 0)) := by
  obtain ⟨hlt, hb⟩ := Array.getElem?_eq_some_iff.1 h
  show (w.heap.modify b _)[b]? = _
  rw [Array.getElem?_eq_getElem (by simpa using hlt), Array.getElem_modify_self, hb]
  rfl
theorem row_frozen {w : World} {b k : Nat} {cur : Array Value} {t : TypeId} (h : w.heap[b]? = some (.cells cur t (0, 0))) : w.frozen? ⟨b, k, none⟩ = false := by
  simp [World.frozen?, h]
theorem lv_setCell {w : World} {g d : Nat} {lv : List Bool} {t : TypeId} (h : w.heap[g]? = some (.cells (lv.map Value.bool).toArray t (0, 0))) (hd : d < lv.length) (v : Bool) : w.cell? ⟨g, d, none⟩ = some (.bool (lv.getD d false)) ∧ w.frozen? ⟨g, d, none⟩ = false ∧ (w.setCell ⟨g, d, none⟩ (.bool v)).heap[g]? = some (.cells ((lv.set d v).map Value.bool).toArray t (0, 0)) ∧ w.grownBy (w.setCell ⟨g, d, none⟩ (.bool v)) (some g) := by
  refine ⟨?_, row_frozen h, ?_, ⟨rfl, rfl, rfl, by simp, fun k _ hne => Below.heap_setCell w _ _ k (fun e => hne (by rw [e]))⟩⟩
  · rw [cell_of_row w g d _ t _ h, List.getElem?_toArray, List.getElem?_map, List.getElem?_eq_getElem hd]
    simp [List.getD_eq_getElem?_getD, hd]
  · rw [row_setCell h, List.setIfInBounds_toArray, List.map_set]
theorem KS.put {W w w' : World} {b : Nat} {H : BH} {N : Bch} {p : Nat} {o o' : Obj} {K : List (Nat × Obj)} (h : KS W w b H N ((p, o) :: K) [] []) (hg : w.grownBy w' (some p)) (hb : w'.heap[p]? = some o') (hne : ∀ r ∈ K, r.1 ≠ p) : KS W w' b H N ((p, o') :: K) [] [] :=
  ⟨h.kx.put (K1 := []) rfl hg hb (by simpa using hne), fun _ hp => absurd hp (by simp), fun _ hp => absurd hp (by simp)⟩
theorem cnt_one {N : Bch} {D d : Nat} {lv : List Bool} (hn : D ≤ N.n) (hf : ∀ i, i < D → (N.D i).f = false) (hl : ∀ i, i < D → i ≠ d → lv.getD i false = true) : cntB D (fun i => !srvD N lv i) ≤ 1 := by
  have h : cntB D (fun i => !srvD N lv i) ≤ cntB D (fun i => decide (i = d)) := by
    unfold cntB
    refine len_le_map (f := id) (List.nodup_range.filter _) (fun a _ b _ e => e) fun i hi => ?_
    obtain ⟨h1, h2⟩ := List.mem_filter.1 hi
    have h1' := List.mem_range.1 h1
    refine List.mem_filter.2 ⟨h1, ?_⟩
    show decide (i = d) = true
    by_cases e : i = d
    · exact decide_eq_true e
    · rw [srvD_mk (by omega) (hl i h1' e) (hf i h1')] at h2; cases h2
  exact Nat.le_trans h (cntB_one_le _ _)
/-- A kept block is written; slices that lie elsewhere stay. -/
theorem KS.put2 {W w w' : World} {b : Nat} {H : BH} {N : Bch} {p : Nat} {o o' : Obj} {K : List (Nat × Obj)} {S : List (Option Addr × List UInt8)} (h : KS W w b H N ((p, o) :: K) [] S) (hg : w.grownBy w' (some p)) (hb : w'.heap[p]? = some o') (hne : ∀ r ∈ K, r.1 ≠ p) (hS : ∀ q ∈ S, ∀ a, q.1 = some a → a.block ≠ p) : KS W w' b H N ((p, o') :: K) [] S :=
  ⟨h.kx.put (K1 := []) rfl hg hb (by simpa using hne), fun _ hp => absurd hp (by simp), fun q hq => by
    have h0 := h.sx q hq
    have h1 : RdBX (fun k => BF b H N.n k ∨ some p = some k) w q.1 q.2 := ⟨h0.1, fun hn => by
      obtain ⟨b', off, e, hl, hf, hc⟩ := h0.2 hn
      exact ⟨b', off, e, hl, fun hh => hh.elim hf fun e2 => by injection e2 with e2; exact hS q hq _ e e2.symm, hc⟩⟩
    have hc := chg_grown hg
    exact h1.chg (show Chg (fun k => BF b H N.n k ∨ some p = some k) w w' from ⟨hc.os, hc.tape, hc.output, hc.size, fun i hi hn => hc.block i hi fun e => hn (.inr e)⟩) fun k _ e => .inl e⟩
end Go.Proofs.Ytpaegibaikpikaa
end
section
set_option maxRecDepth 20000
set_option linter.unusedVariables false
set_option linter.unusedSimpArgs false
namespace Go.Proofs.Ytpaegibaikpikaa
open Go.RowKit

/-- The numbers of the first k disks that do not serve. -/
def gonL (N : Bch) (lv : List Bool) : Nat → List Int
  | 0 => []
  | k + 1 => if srvD N lv k = false then (k : Int) :: gonL N lv k else gonL N lv k
theorem gonL_mem {N : Bch} {lv : List Bool} {x : Int} : ∀ {k : Nat}, x ∈ gonL N lv k ↔ ∃ j : Nat, j < k ∧ x = (j : Int) ∧ srvD N lv j = false
  | 0 => by simp [gonL]
  | k + 1 => by
    have ih := gonL_mem (N := N) (lv := lv) (x := x) (k := k)
    unfold gonL
    by_cases h : srvD N lv k = false
    · rw [if_pos h, List.mem_cons, ih]
      constructor
      · rintro (rfl | ⟨j, h1, h2⟩)
        · exact ⟨k, by omega, rfl, h⟩
        · exact ⟨j, by omega, h2⟩
      · rintro ⟨j, h1, h2, h3⟩
        by_cases e : j = k
        · subst e; exact .inl h2
        · exact .inr ⟨j, by omega, h2, h3⟩
    · rw [if_neg h, ih]
      constructor
      · rintro ⟨j, h1, h2⟩
        exact ⟨j, by omega, h2⟩
      · rintro ⟨j, h1, h2, h3⟩
        by_cases e : j = k
        · subst e; exact absurd h3 h
        · exact ⟨j, by omega, h2, h3⟩
theorem gonL_len (N : Bch) (lv : List Bool) : ∀ k, (gonL N lv k).length ≤ k
  | 0 => Nat.le_refl _
  | k + 1 => by
    have ih := gonL_len N lv k
    unfold gonL
    split
    · simp; omega
    · omega
theorem gonL_has {N : Bch} {lv : List Bool} {k d : Nat} (h : d < k) : decide ((d : Int) ∈ gonL N lv k) = !srvD N lv d := by
  cases hs : srvD N lv d with
  | false => exact decide_eq_true (gonL_mem.2 ⟨d, h, rfl, hs⟩)
  | true =>
    refine decide_eq_false fun e => ?_
    obtain ⟨j, _, h2, h3⟩ := gonL_mem.1 e
    obtain rfl : d = j := by omega
    rw [hs] at h3; cases h3
set_option maxHeartbeats 1600000 in
theorem lost_any (B b : Nat) (H : BH) (N : Bch) (w : World) (h : BAt w B b H N) (lv : List Bool) (A : Option Addr) (n cp : Nat) (hn : n = lv.length) (hv : RdO w w.heap.size A lv) (l c : Int) (D : Nat) (hD : D ≤ N.n) (hDl : D ≤ lv.length) :
    Calls Try.prog 26 #[.pointer (some ⟨b, 0, none⟩), .slice A n cp, .agg #[.int .i64 l, .int .i64 (D : Int), .int .i64 c]] w fun e w' => ∃ mb, e = .returned (.map (some mb)) ∧ SetI w' mb (gonL N lv D) ∧ Below w.heap.size w w' := by
  subst hn
  have hmm := @run_makeMap Try.prog
  have G := gat_new w l D c 24 (0, 0)
  have hn8 := h.ok.n
  have B1 := below1 w (.cells #[.int .i64 l, .int .i64 (D : Int), .int .i64 c] 24)
  have CF := Lib.hid (fun W (hb : Below w.heap.size w W) (j : Nat) (hj : j ≤ 8) => bch_failed_any B b H N W (h.below hb) (j : Int) ⟨by omega, by omega⟩)
  have CL := Lib.hid (fun W (hb : Below w.heap.size w W) => bch_len_any B b H N W (h.below hb))
  have Hv := Lib.hid hv
  have Hfd := Lib.hid (fun (j : Nat) (hj : j < N.n) => failed_D hj)
  have Hsy := Lib.hid (fun (j : Nat) (h1 : j < N.n) (h2 : lv.getD j false = true) (h3 : (N.D j).f = false) => srvD_mk h1 h2 h3)
  have Hsn := Lib.hid (fun (j : Nat) (hj : ¬ (j < N.n ∧ lv.getD j false = true ∧ (N.D j).f = false)) => srvD_no hj)
  have Hgy := Lib.hid (fun (k : Nat) (hk : srvD N lv k = true) => show gonL N lv (k + 1) = gonL N lv k from if_neg (by simp [hk]))
  have Hgn := Lib.hid (fun (k : Nat) (hk : srvD N lv k = false) => show gonL N lv (k + 1) = (k : Int) :: gonL N lv k from if_pos hk)
  have Hnew := Lib.hid (fun (k : Nat) => show (k : Int) ∉ gonL N lv k from fun e => by obtain ⟨j, h1, h2, _⟩ := gonL_mem.1 e; omega)
  have Hle := Lib.hid (gonL_len N lv)
  have M0 := setI_new (w.alloc (.cells #[.int .i64 l, .int .i64 (D : Int), .int .i64 c] 24))
  have e1 : (w.alloc (.cells #[.int .i64 l, .int .i64 (D : Int), .int .i64 c] 24)).heap.size = w.heap.size + 1 := by simp
  have G1 := G.below (below1 (w.alloc (.cells #[.int .i64 l, .int .i64 (D : Int), .int .i64 c] 24)) (.map #[] 0)) (by rw [e1]; omega)
  have B2 := B1.alloc B1.size (.map #[] 0)
  rw [e1] at M0
  obtain ⟨nN, hnN⟩ : ∃ nN, N.n = nN := ⟨_, rfl⟩
  have hlvl := hv.1
  unfold ptr at CF CL
  rw [hnN] at CL hn8 hD
  have HnN := Lib.hid hnN
  clear h hv G B1 hnN
  go_enter Try.func26, Try.ntmps26
  go_wp2_with fail
  generalize (w.alloc (.cells #[.int .i64 l, .int .i64 (D : Int), .int .i64 c] 24)).alloc (.map #[] 0) = w0 at M0 G1 B2
  clear hmm
  go_loopw [8] (fun i wr => ∃ k : Nat, k ≤ D ∧ i = .int .i64 k ∧ SetI wr (w.heap.size + 1) (gonL N lv k) ∧ GAt wr w.heap.size l D c ∧ Below w.heap.size w wr) (fun i _ => D - (intOf i).toNat)
  case atStart => exact ⟨0, Nat.zero_le _, rfl, M0, G1, B2⟩
  case round =>
    obtain ⟨k, hk, rfl, hS, hG, hB⟩ := hrel
    obtain ⟨g1, g2, g3⟩ := hG
    by_cases hlt : k < D
    · have i0 : (0 : Int) ≤ (k : Int) := by omega
      have i1 : (k : Int) < (D : Int) := by omega
      have i2 : (k : Int) < (lv.length : Int) := by omega
      have i3 : (k : Int) < (nN : Int) := by omega
      obtain ⟨lb, off, rfl, hlb, hcv⟩ := Hv.out.2 (by omega)
      have hcl := (hB.cell (p := ⟨lb, off + k, none⟩) hlb).trans (hcv k (by omega))
      have hkn : k < N.n := by rw [HnN.out]; omega
      have CF1 := Lib.hid (CF.out _ hB k (by omega))
      rw [Hfd.out k hkn] at CF1
      have CL1 := Lib.hid (CL.out _ hB)
      have hHs := Lib.hid hS
      have hle := Hle.out k
      obtain ⟨W3, hrun, hS3, hg3⟩ := hS.store (by omega) (k : Int) (by omega) (Hnew.out k)
      have HS3 := Lib.hid hS3
      have hg3' := Lib.hid hg3
      have hsz := World.block_lt_of_cell? _ _ g1
      have hmlt := hS.lt
      clear hS hS3 hg3 CF CL hcv M0 G1 B2
      cases hlx : lv.getD k false with
      | false =>
        rw [hlx] at hcl
        have Hk := Lib.hid (Hgn.out k (Hsn.out k (fun h => by rw [hlx] at h; cases h.2.1)))
        clear hlx
        go_wp2
        go_roundw
        case rel =>
          refine ⟨k + 1, by omega, by go_num, by rw [Hk.out]; exact HS3.out, GAt.grown ⟨g1, g2, g3⟩ hg3'.out hsz (by intro e; injection e with e; omega), hB.grown hg3'.out hB.size (fun j e => by injection e with e; omega)⟩
        case measure => simp [intOf]; omega
      | true =>
        rw [hlx] at hcl
        cases hfx : (N.D k).f with
        | true =>
          rw [hfx] at CF1
          have Hk := Lib.hid (Hgn.out k (Hsn.out k (fun h => by rw [hfx] at h; cases h.2.2)))
          clear hlx hfx
          go_wp2_with fail
          (with_reducible refine CF1.out.mono ?_); rintro e w5 ⟨rfl, rfl⟩
          go_wp2
          go_roundw
          case rel =>
            refine ⟨k + 1, by omega, by go_num, by rw [Hk.out]; exact HS3.out, GAt.grown ⟨g1, g2, g3⟩ hg3'.out hsz (by intro e; injection e with e; omega), hB.grown hg3'.out hB.size (fun j e => by injection e with e; omega)⟩
          case measure => simp [intOf]; omega
        | false =>
          rw [hfx] at CF1
          have Hk := Lib.hid (Hgy.out k (Hsy.out k hkn hlx hfx))
          clear hlx hfx hrun
          go_wp2_with fail
          (with_reducible refine CF1.out.mono ?_); rintro e w5 ⟨rfl, rfl⟩
          go_wp2_with fail
          (with_reducible refine CL1.out.mono ?_); rintro e w6 ⟨rfl, rfl⟩
          go_wp2
          go_roundw
          case rel => exact ⟨k + 1, by omega, by go_num, by rw [Hk.out]; exact hHs.out, ⟨g1, g2, g3⟩, hB⟩
          case measure => simp [intOf]; omega
    · obtain rfl : k = D := by omega
      go_wp2
      go_ret
      exact ⟨_, rfl, hS, hB⟩
/-- A disk of parity. -/
def parB (l d c r : Int) (i : Nat) : Bool := ((i : Int) == plP l d c r) || ((i : Int) == plQ l d c r)
def canN (l d c r : Int) (D : Nat) (g : Nat → Bool) : Bool := decide (cntB D (fun i => g i && !parB l d c r i) ≤ cntB D (fun i => parB l d c r i && !g i))
set_option maxHeartbeats 1600000 in
theorem can_any (l c r : Int) (D mb : Nat) (xs : List Int) (w : World) (hS : SetI w mb xs) (hD : D ≤ 8) (hl : -9223372036854775808 ≤ l ∧ l ≤ 9223372036854775807) (hc : -9223372036854775808 ≤ c ∧ c ≤ 9223372036854775807) (hr : -9223372036854775808 ≤ r ∧ r ≤ 9223372036854775807) :
    Calls Try.prog 27 #[.agg #[.int .i64 l, .int .i64 (D : Int), .int .i64 c], .int .i64 r, .map (some mb)] w fun e w' => e = .returned (.bool (canN l (D : Int) c r D (fun i => decide ((i : Int) ∈ xs)))) ∧ Below w.heap.size w w' := by
  have G := gat_new w l D c 24 (0, 0)
  have CP := Lib.hid (fun V => refParity_any l (D : Int) c r V hl (by omega) hc hr)
  have B1 := below1 w (.cells #[.int .i64 l, .int .i64 (D : Int), .int .i64 c] 24)
  have S1 := hS.below B1
  have Hres : Hid (canN l (D : Int) c r D (fun i => decide ((i : Int) ∈ xs)) = decide (cntB D (fun i => decide ((i : Int) ∈ xs) && !parB l (D : Int) c r i) ≤ cntB D (fun i => parB l (D : Int) c r i && !decide ((i : Int) ∈ xs)))) := rfl
  have Hpar : Hid (∀ i : Nat, parB l (D : Int) c r i = (((i : Int) == plP l (D : Int) c r) || ((i : Int) == plQ l (D : Int) c r))) := fun i => rfl
  generalize canN l (D : Int) c r D (fun i => decide ((i : Int) ∈ xs)) = res at Hres ⊢
  generalize plP l (D : Int) c r = p at CP Hpar
  generalize plQ l (D : Int) c r = q at CP Hpar
  generalize parB l (D : Int) c r = pb at Hres Hpar
  have Hd := Lib.hid (fun k => cntB_succ k (fun i => decide ((i : Int) ∈ xs) && !pb i))
  have Ht := Lib.hid (fun k => cntB_succ k (fun i => pb i && !decide ((i : Int) ∈ xs)))
  have Hd0 := Lib.hid (cntB_zero (fun i => decide ((i : Int) ∈ xs) && !pb i))
  have Ht0 := Lib.hid (cntB_zero (fun i => pb i && !decide ((i : Int) ∈ xs)))
  have Hdl := Lib.hid (fun k => cntB_le k (fun i => decide ((i : Int) ∈ xs) && !pb i))
  have Htl := Lib.hid (fun k => cntB_le k (fun i => pb i && !decide ((i : Int) ∈ xs)))
  obtain ⟨cd, hcd⟩ : ∃ cd : Nat → Nat, ∀ k, cntB k (fun i => decide ((i : Int) ∈ xs) && !pb i) = cd k := ⟨_, fun _ => rfl⟩
  obtain ⟨ct, hct⟩ : ∃ ct : Nat → Nat, ∀ k, cntB k (fun i => pb i && !decide ((i : Int) ∈ xs)) = ct k := ⟨_, fun _ => rfl⟩
  have Hcd := Lib.hid hcd
  have Hct := Lib.hid hct
  clear hcd hct hS
  go_enter Try.func27, Try.ntmps27
  go_wp2_with fail
  (with_reducible refine (CP.out _).mono ?_); rintro e w1 ⟨rfl, hb⟩
  have F := B1.trans (hb.mono B1.size)
  have G1 := G.below hb (by simp)
  have S2 := S1.below hb
  clear hb B1 S1 G
  obtain ⟨g1, g2, g3⟩ := G1
  go_wp2_with fail
  go_loopw [9, 10, 11] (fun dv tv i wr => ∃ k : Nat, k ≤ D ∧ i = .int .i64 k ∧ dv = .int .i64 ((cd k : Nat) : Int) ∧ tv = .int .i64 ((ct k : Nat) : Int) ∧ wr = w1) (fun _ _ i _ => D - (intOf i).toNat)
  case atStart =>
    refine ⟨0, Nat.zero_le _, rfl, ?_, ?_, rfl⟩
    · rw [← Hcd.out 0, Hd0.out]; rfl
    · rw [← Hct.out 0, Ht0.out]; rfl
  case round =>
    obtain ⟨k, hk, rfl, rfl, rfl, rfl⟩ := hrel
    by_cases hlt : k < D
    · have i0 : (0 : Int) ≤ (k : Int) := by omega
      have i1 : (k : Int) < (D : Int) := by omega
      have hlook := S2.look (k : Int) (by omega)
      have hd1 := Hd.out k
      have ht1 := Ht.out k
      have hdl := Hdl.out k
      have htl := Htl.out k
      rw [Hcd.out, Hcd.out] at hd1
      rw [Hct.out, Hct.out] at ht1
      rw [Hcd.out] at hdl
      rw [Hct.out] at htl
      have hpk := Hpar.out k
      have d0 : (0 : Int) ≤ ((cd k : Nat) : Int) := by omega
      have t0 : (0 : Int) ≤ ((ct k : Nat) : Int) := by omega
      generalize cd k = dk at hd1 hdl d0
      generalize ct k = tk at ht1 htl t0
      have Hcase : Hid (((((k : Int) == p) = true) ∨ (((k : Int) == p) = false ∧ ((k : Int) == q) = true)) ∨ (((k : Int) == p) = false ∧ ((k : Int) == q) = false)) := Lib.hid (by
        cases (k : Int) == p <;> cases (k : Int) == q <;> simp)
      generalize decide ((k : Int) ∈ xs) = gk at hlook hd1 ht1
      rcases Hcase.out with (e1 | ⟨e1, e2⟩) | ⟨e1, e2⟩
      · rw [e1, Bool.true_or] at hpk
        rw [hpk] at hd1 ht1
        clear hpk
        cases gk
        · have hd2 : cd (k + 1) = dk := by simpa using hd1
          have ht2 : ct (k + 1) = tk + 1 := by simpa using ht1
          have HD2 := Lib.hid hd2
          have HT2 := Lib.hid ht2
          clear hd1 ht1 hd2 ht2
          go_wp2
          go_roundw
          case rel => exact ⟨k + 1, by omega, by go_num, by rw [HD2.out], by rw [HT2.out]; go_num, trivial⟩
          case measure => simp [intOf]; omega
        · have hd2 : cd (k + 1) = dk := by simpa using hd1
          have ht2 : ct (k + 1) = tk := by simpa using ht1
          have HD2 := Lib.hid hd2
          have HT2 := Lib.hid ht2
          clear hd1 ht1 hd2 ht2
          go_wp2
          go_roundw
          case rel => exact ⟨k + 1, by omega, by go_num, by rw [HD2.out], by rw [HT2.out], trivial⟩
          case measure => simp [intOf]; omega
      · rw [e2, Bool.or_true] at hpk
        rw [hpk] at hd1 ht1
        clear hpk
        cases gk
        · have hd2 : cd (k + 1) = dk := by simpa using hd1
          have ht2 : ct (k + 1) = tk + 1 := by simpa using ht1
          have HD2 := Lib.hid hd2
          have HT2 := Lib.hid ht2
          clear hd1 ht1 hd2 ht2
          go_wp2
          go_roundw
          case rel => exact ⟨k + 1, by omega, by go_num, by rw [HD2.out], by rw [HT2.out]; go_num, trivial⟩
          case measure => simp [intOf]; omega
        · have hd2 : cd (k + 1) = dk := by simpa using hd1
          have ht2 : ct (k + 1) = tk := by simpa using ht1
          have HD2 := Lib.hid hd2
          have HT2 := Lib.hid ht2
          clear hd1 ht1 hd2 ht2
          go_wp2
          go_roundw
          case rel => exact ⟨k + 1, by omega, by go_num, by rw [HD2.out], by rw [HT2.out], trivial⟩
          case measure => simp [intOf]; omega
      · rw [e1, e2, Bool.or_false] at hpk
        rw [hpk] at hd1 ht1
        clear hpk
        cases gk
        · have hd2 : cd (k + 1) = dk := by simpa using hd1
          have ht2 : ct (k + 1) = tk := by simpa using ht1
          have HD2 := Lib.hid hd2
          have HT2 := Lib.hid ht2
          clear hd1 ht1 hd2 ht2
          go_wp2
          go_roundw
          case rel => exact ⟨k + 1, by omega, by go_num, by rw [HD2.out], by rw [HT2.out], trivial⟩
          case measure => simp [intOf]; omega
        · have hd2 : cd (k + 1) = dk + 1 := by simpa using hd1
          have ht2 : ct (k + 1) = tk := by simpa using ht1
          have HD2 := Lib.hid hd2
          have HT2 := Lib.hid ht2
          clear hd1 ht1 hd2 ht2
          go_wp2
          go_roundw
          case rel => exact ⟨k + 1, by omega, by go_num, by rw [HD2.out]; go_num, by rw [HT2.out], trivial⟩
          case measure => simp [intOf]; omega
    · obtain rfl : k = D := by omega
      have HR := Hres.out
      rw [Hcd.out, Hct.out] at HR
      have HR2 := Lib.hid HR
      clear HR
      generalize cd k = dk at HR2
      generalize ct k = tk at HR2
      go_wp2
      go_ret
      exact ⟨by rw [HR2.out]; rfl, F⟩
end Go.Proofs.Ytpaegibaikpikaa
end
