/- Texts put together: ScrKit, ScrWakes, RbdFr, RbdPut. -/
import Derived.Test.YtadmofpipfdedaaSfbd
import Derived.Test.YtadmofpipfdedaaSfbe
import Derived.Test.YtadmofpipfdedaaSfad
import Derived.Test.YtadmofpipfdedaaSfbb
section
set_option maxRecDepth 20000
set_option linter.unusedVariables false
set_option linter.unusedSimpArgs false
namespace Go.Proofs.Ytadmofpipfdedaa
open Go.RowKit

/-- The numbers below k of which something is so. -/
def fltN (P : Nat → Bool) (k : Nat) : List Nat := (List.range k).filter P
theorem fltN_yes {P : Nat → Bool} {k : Nat} (h : P k = true) : fltN P (k + 1) = fltN P k ++ [k] := by
  unfold fltN
  rw [List.range_succ, List.filter_append, List.filter_cons, if_pos h]; rfl
theorem fltN_no {P : Nat → Bool} {k : Nat} (h : P k = false) : fltN P (k + 1) = fltN P k := by
  unfold fltN
  rw [List.range_succ, List.filter_append, List.filter_cons, if_neg (by simp [h])]; simp
theorem fltN_len (P : Nat → Bool) (k : Nat) : (fltN P k).length ≤ k := by
  have := List.length_filter_le P (List.range k)
  rw [List.length_range] at this
  exact this
theorem fltN_congr {P Q : Nat → Bool} {k : Nat} (h : ∀ r, r < k → P r = Q r) : fltN P k = fltN Q k := by
  unfold fltN
  exact List.filter_congr fun r hr => h r (List.mem_range.1 hr)
section
variable {W w : World} {b : Nat} {H : BH} {N : Bch} {K : List (Nat × Obj)} {R : List (Option Addr × List (List UInt8))} {S : List (Option Addr × List UInt8)}
theorem ks_scrub (h : KS W w b H N K R S) (lv : List Bool) (A : Option Addr) (m cp : Nat) (hm : m = lv.length) (hv : RdOX (BF b H N.n) w A lv) (G : RG) (h64 : RG64 G) :
    Calls Try.prog 28 #[.pointer (some ⟨b, 0, none⟩), .slice A m cp, .agg #[.int .i64 G.l, .int .i64 G.d, .int .i64 G.c], .agg #[.int .i64 G.l', .int .i64 G.d', .int .i64 G.c'], .int .i64 G.s] w fun e w' => ∃ A' c', e = .returned (.tuple #[.slice A' (scL N lv G).length c', .int .i64 (scE N G)]) ∧ RdI w' w'.heap.size A' (scL N lv G) ∧ KS W w' b H N K R S ∧ Below w.heap.size w w' := by
  refine (scrub_any _ b H N w h.bp.at' lv A m cp hm hv.rdo G h64).mono ?_
  rintro e w' ⟨v, rfl, ho, hb⟩
  have hl : (scL N lv G).length ≤ 140737488355328 := by
    unfold scL
    split
    · have := scrTo_len N lv G 16; omega
    · simp
  obtain ⟨A', c', rfl, hr⟩ := ho.rdI hl
  exact ⟨A', c', rfl, hr, h.below hb, hb⟩
theorem ks_scrub_is (h : KS W w b H N K R S) (lv : List Bool) (A : Option Addr) (m cp : Nat) (hm : m = lv.length) (hv : RdOX (BF b H N.n) w A lv) (G : RG) (h64 : RG64 G) (hG : G.ok = true) (hd : N.down = false) {P : Nat → Bool} (hP : ∀ r, r < 16 → scB N lv G r = P r) :
    Calls Try.prog 28 #[.pointer (some ⟨b, 0, none⟩), .slice A m cp, .agg #[.int .i64 G.l, .int .i64 G.d, .int .i64 G.c], .agg #[.int .i64 G.l', .int .i64 G.d', .int .i64 G.c'], .int .i64 G.s] w fun e w' => ∃ A' c', e = .returned (.tuple #[.slice A' (fltN P 16).length c', .int .i64 0]) ∧ RdI w' w'.heap.size A' (fltN P 16) ∧ KS W w' b H N K R S ∧ Below w.heap.size w w' := by
  have := ks_scrub h lv A m cp hm hv G h64
  rw [scE_ok hG hd, scL_ok hG hd, show scrTo N lv G 16 = fltN P 16 from fltN_congr hP] at this
  exact this
end
/-- A row as it was filled but for one sector, which is as it was, or is not. -/
def Spo (N : Bch) (G : RG) (rs : Nat → List (List UInt8)) (r : Nat) (bad : Bool) : Prop :=
  ∃ d y, d < (G.D r).toNat ∧ y.length = 32 ∧ (bad = true → y ≠ (flR G rs r).getD d []) ∧ (bad = false → y = (flR G rs r).getD d []) ∧ ∀ i, i < (G.D r).toNat → secAt (N.D i).now (36 + r) = ((flR G rs r).set d y).getD i []
theorem flR_len (G : RG) (rs : Nat → List (List UInt8)) (t : Nat) : (flR G rs t).length = (G.D t).toNat := fillL_len _ _ _
section
variable {N : Bch} {G : RG} {rs : Nat → List (List UInt8)} {r : Nat}
theorem flR_32 (hG : G.ok = true) (hR : RowsOk G rs) (hr : r < 16) {i : Nat} (hi : i < (G.D r).toNat) : ((flR G rs r).getD i []).length = 32 := by
  obtain ⟨D, hD, gr⟩ := RG.gr hG hr
  have h := gr.fills (hR r hr).1 (hR r hr).2 (show i < D by omega)
  rw [flR_at hD, ← hD]
  exact h
theorem Spo.good (hG : G.ok = true) (hR : RowsOk G rs) (hr : r < 16) (h : ∀ i, i < (G.D r).toNat → secAt (N.D i).now (36 + r) = (flR G rs r).getD i []) : Spo N G rs r false := by
  obtain ⟨D, hD, gr⟩ := RG.gr hG hr
  have h0 : 0 < (G.D r).toNat := by have := gr.d3; omega
  refine ⟨0, (flR G rs r).getD 0 [], h0, flR_32 hG hR hr h0, fun e => (by cases e), fun _ => rfl, fun i hi => ?_⟩
  rw [set_self (by rw [flR_len]; exact h0)]
  exact h i hi
theorem Spo.bad {d : Nat} {y : List UInt8} (hd : d < (G.D r).toNat) (hy : y.length = 32) (hne : y ≠ (flR G rs r).getD d []) (h : ∀ i, i < (G.D r).toNat → secAt (N.D i).now (36 + r) = if i = d then y else (flR G rs r).getD i []) : Spo N G rs r true := by
  refine ⟨d, y, hd, hy, fun _ => hne, fun e => (by cases e), fun i hi => ?_⟩
  rw [h i hi]
  by_cases e : i = d
  · subst e; rw [if_pos rfl, getD_set_same (by rw [flR_len]; exact hd)]
  · rw [if_neg e, getD_set_other (fun q => e q.symm)]
theorem Spo.was (h : Spo N G rs r false) : ∀ i, i < (G.D r).toNat → secAt (N.D i).now (36 + r) = (flR G rs r).getD i [] := fun i hi => by
  obtain ⟨d, y, hd, hy, _, h2, h3⟩ := h
  rw [h3 i hi, h2 rfl, set_self (by rw [flR_len]; exact hd)]
/-- What a scrub tells of such a row. -/
theorem Spo.told {bad : Bool} (h : Spo N G rs r bad) (hG : G.ok = true) (hR : RowsOk G rs) (hr : r < 16) {lv : List Bool} (hs : ∀ i, i < (G.D r).toNat → srvD N lv i = true) : scB N lv G r = bad := by
  obtain ⟨d, y, hd, hy, h1, h2, h3⟩ := h
  obtain ⟨D, hD, gr⟩ := RG.gr hG hr
  have hf := gr.fok (rs := rs r) (hR r hr).1 (hR r hr).2
  rw [← hD] at hf
  have hX : ssL N lv (36 + r) (G.D r).toNat = (flR G rs r).set d y := ext_getD (by rw [ssL_len, List.length_set, flR_len]) fun i hi => by
    rw [ssL_len] at hi
    rw [ssL_get hi, if_pos (hs i hi), h3 i hi]
  have hRl : flR G rs r = fillL (roD (G.D r)) (roF (G.L r) (G.D r) (G.C r) (r : Int)) (rs r) := rfl
  unfold scB
  rw [scS_yes hs, hX, Bool.true_and]
  cases bad with
  | true =>
    have h1 := h1 rfl
    rw [hRl] at h1 ⊢
    rw [row_turned hf hd hy h1]; rfl
  | false =>
    rw [h2 rfl, set_self (by rw [flR_len]; exact hd), hRl, row_right hf]; rfl
theorem Spo.keep {M : Bch} {bad : Bool} (h : Spo N G rs r bad) (hD : ∀ i, i < (G.D r).toNat → secAt (M.D i).now (36 + r) = secAt (N.D i).now (36 + r)) : Spo M G rs r bad := by
  obtain ⟨d, y, hd, hy, h1, h2, h3⟩ := h
  exact ⟨d, y, hd, hy, h1, h2, fun i hi => (hD i hi).trans (h3 i hi)⟩
end
end Go.Proofs.Ytadmofpipfdedaa
end
section
set_option maxRecDepth 20000
set_option linter.unusedVariables false
set_option linter.unusedSimpArgs false
namespace Go.Proofs.Ytadmofpipfdedaa
open Go.RowKit

def wkB : Bch := (Bch.new 3).damage ((1 : Nat) : Int) ((38 : Nat) : Int) (sectorB 1)
theorem wk_gd : Gd wkB 3 := gd_damage (gd_new 3) (by omega) (by omega) (sectorB_len 1)
theorem wkG_D {r : Nat} : wkG.D r = 3 := by
  show rg 0 3 0 r = 3
  unfold rg
  rw [if_neg (by omega)]
theorem wk_sec (i j : Nat) (hj : j < 52) : secAt (wkB.D i).now j = if i = 1 ∧ j = 38 then sectorB 1 else zeroL 32 := by
  have h := sec_damage (gd_new 3) (d := 1) (k := 38) (x := sectorB 1) (by omega) (by omega) (sectorB_len 1) i j
  rw [new_zero (n := 3) hj] at h
  exact h
theorem wk_ne : sectorB 1 ≠ zeroL 32 := by decide +kernel
theorem wk_spo0 {r : Nat} (hr : r < 16) : Spo (Bch.new 3) wkG (zerR wkG) r false := Spo.good wkG_ok (rows_zer _) hr fun i hi => by
  rw [zerR_fl wkG_ok hr (by rw [wkG_D] at hi ⊢; omega)]
  exact new_zero (by omega)
theorem wk_spo1 {r : Nat} (hr : r < 16) : Spo wkB wkG (zerR wkG) r (decide (r = 2)) := by
  by_cases e : r = 2
  · subst e
    rw [decide_eq_true rfl]
    refine Spo.bad (d := 1) (y := sectorB 1) (by rw [wkG_D]; decide) (sectorB_len 1) (by rw [zerR_fl wkG_ok hr (by rw [wkG_D]; decide)]; exact wk_ne) fun i hi => ?_
    rw [wk_sec i _ (by omega), zerR_fl wkG_ok hr (by rw [wkG_D] at hi ⊢; omega)]
    by_cases h : i = 1
    · rw [if_pos h, if_pos ⟨h, rfl⟩]
    · rw [if_neg h, if_neg (fun q => h q.1)]
  · rw [decide_eq_false e]
    refine Spo.good wkG_ok (rows_zer _) hr fun i hi => ?_
    rw [wk_sec i _ (by omega), zerR_fl wkG_ok hr (by rw [wkG_D] at hi ⊢; omega), if_neg (by omega)]
theorem wk_all {N : Bch} (h : Gd N 3) {r : Nat} : ∀ i, i < (wkG.D r).toNat → srvD N [true, true, true] i = true := fun i hi => by
  have hi : i < 3 := by rw [wkG_D] at hi; exact hi
  refine srvD_mk (by rw [h.n]; exact hi) ?_ (h.f i hi)
  match i, hi with
  | 0, _ => rfl
  | 1, _ => rfl
  | 2, _ => rfl
set_option maxHeartbeats 1600000 in
theorem scrWakes_any (W : World) : Calls Try.prog 32 #[] W fun e w' => e = .returned (.bool true) ∧ Below W.heap.size W w' := by
  have hpn := ptr_eq
  have CN := Lib.hid (bp_new 3 W W (Below.refl _ _) (by omega))
  have h64 : RG64 wkG := rg64_3 ⟨⟨by omega, by omega, by omega⟩, ⟨by omega, by omega, by omega⟩, by omega⟩
  have C1 := Lib.hid (fun V H1 b K (k : KS W V b H1 (Bch.new 3) K [] []) (A : Option Addr) (hv : RdOX (BF b H1 3) V A [true, true, true]) => by
    have := ks_scrub_is k [true, true, true] A 3 3 rfl hv wkG h64 wkG_ok rfl (P := fun _ => false) (fun r hr => (wk_spo0 hr).told wkG_ok (rows_zer _) hr (wk_all (gd_new 3)))
    rw [show fltN (fun _ => false) 16 = [] from rfl, show ([] : List Nat).length = 0 from rfl] at this
    dsimp only [wkG] at this
    exact this)
  have C2 := Lib.hid (fun V H1 b K (k : KS W V b H1 wkB K [] []) (A : Option Addr) (hv : RdOX (BF b H1 3) V A [true, true, true]) => by
    have := ks_scrub_is k [true, true, true] A 3 3 rfl (by rw [wk_gd.n]; exact hv) wkG h64 wkG_ok wk_gd.dn (P := fun r => decide (r = 2)) (fun r hr => (wk_spo1 hr).told wkG_ok (rows_zer _) hr (wk_all wk_gd))
    rw [show fltN (fun r => decide (r = 2)) 16 = [2] from rfl, show ([2] : List Nat).length = 1 from rfl] at this
    dsimp only [wkG] at this
    exact this)
  have CS := Lib.hid (fun V => sector_any 1 V (by omega))
  clear h64
  go_enter Try.func32, Try.ntmps32
  go_wp2_with fail
  refine CN.out.mono ?_
  rintro e w ⟨b, H, rfl, hp, _, _⟩
  unfold ptr
  have k1 := ((KX.ks ⟨hp, fun p hp => absurd hp (by simp)⟩ : KS W w b H (Bch.new 3) [] [] []).add (.cells #[.int .i64 5, .int .i64 3, .int .i64 1] 25)).add (.cells #[.bool true, .bool true, .bool true] 4)
  rw [show (w.alloc (.cells #[.int .i64 5, .int .i64 3, .int .i64 1] 25)).heap.size = w.heap.size + 1 by simp] at k1
  have CA := Lib.hid (C1.out _ _ _ _ k1 (some ⟨w.heap.size + 1, 0, none⟩) (k1.lv (g := w.heap.size + 1) (lv := [true, true, true]) (List.mem_cons_self ..) rfl (by simp)))
  clear k1 hp C1
  go_wp2_with fail
  (with_reducible refine CA.out.mono ?_); rintro e w2 ⟨A2, c2, rfl, _, k2, _⟩
  have K2 := Lib.hid k2
  clear k2 CA
  go_wp2_with fail
  (with_reducible refine (CS.out _).mono ?_); rintro e w3 ⟨g, rfl, ho, hb3⟩
  have k3 := K2.out.below hb3
  obtain ⟨_, _, e3, _, hr3⟩ := ho.rd
  injection e3 with e4 e5 e6
  subst e4 e6
  have CDm := Lib.hid (ks_damage k3 1 38 (sectorB 1) _ 32 32 (sectorB_len 1).symm ⟨by omega, by omega⟩ ⟨by omega, by omega⟩ hr3 (fun i _ => Nat.zero_le _))
  clear k3 hr3 ho hb3 K2 CS e5
  go_wp2_with fail
  (with_reducible refine CDm.out.mono ?_); rintro e w4 ⟨rfl, H4, k4⟩
  have K4 := Lib.hid (show KS W w4 b H4 wkB _ _ _ from k4)
  clear k4 CDm
  have k5 := K4.out.add (.cells #[.bool true, .bool true, .bool true] 4)
  obtain ⟨g1, g2, g3⟩ := K4.out.gat (g := w.heap.size) (l := 5) (d := 3) (c := 1) (t := 25) (f := (0, 0)) (by simp)
  have hgz := (Array.getElem?_eq_some_iff.1 (K4.out.kx.kp (w.heap.size, .cells #[.int .i64 5, .int .i64 3, .int .i64 1] 25 (0, 0)) (by simp)).1).1
  have CB := Lib.hid (C2.out _ _ _ _ k5 (some ⟨w4.heap.size, 0, none⟩) (by have := k5.lv (g := w4.heap.size) (lv := [true, true, true]) (List.mem_cons_self ..) rfl (by simp); rw [wk_gd.n] at this; exact this))
  clear k5 K4 C2
  go_wp2_with fail
  (with_reducible refine CB.out.mono ?_); rintro e w6 ⟨A6, c6, rfl, hr6, k6, _⟩
  have F := Lib.hid k6.bp.bel
  have hs6 : Below w6.heap.size w6 (w6.alloc (.cells #[.int .i64 2] 3)) := below1 _ _
  have CM := Lib.hid (sameInt_any A6 (some ⟨w6.heap.size, 0, none⟩) [2] [2] 1 1 c6 1 (w6.alloc (.cells #[.int .i64 2] 3)) rfl rfl ((hr6.below hs6 (Nat.le_refl _)).more hs6.size) (rdi_lit (hp_new _ _ _ rfl) (by simp) rfl))
  rw [show decide (([2] : List Nat) = [2]) = true from rfl] at CM
  clear k6 hr6 hs6 CB g1 g2 g3 hgz
  go_wp2_with fail
  (with_reducible refine CM.out.mono ?_); rintro e w8 ⟨rfl, hb8⟩
  have F8 := F.out.trans (((below1 w6 (.cells #[.int .i64 2] 3)).trans (hb8.mono (below1 w6 _).size)).mono F.out.size)
  clear hb8 CM
  go_wp2_with fail
  go_ret
  exact ⟨rfl, F8⟩
end Go.Proofs.Ytadmofpipfdedaa
end
section
set_option linter.unusedVariables false
set_option linter.unusedSimpArgs false
namespace Go.Proofs.Ytadmofpipfdedaa
open Go.RowKit

section
variable {W w : World} {b : Nat} {H : BH} {N : Bch} {K : List (Nat × Obj)} {R : List (Option Addr × List (List UInt8))} {S : List (Option Addr × List UInt8)}
end
section
variable {N : Bch} {m k : Nat} {G : RG} {zs : List Int}
/-- The rows by numbers. -/
def rsZ (G : RG) (zs : List Int) (t : Nat) : List (List UInt8) := datL zs t (roW (G.L t) (G.D t))
theorem Fb.st (h : Fb N m (rowG G zs) 16 0) (hle : ∀ t, t < 16 → G.D t ≤ (m : Int)) (hG : G.ok = true) {t i : Nat} (ht : t < 16) (hi : (i : Int) < G.D t) : secAt (N.D i).now (36 + t) = (flR G (rsZ G zs) t).getD i [] := by
  have hD := hle t ht
  rw [h.row (by omega) ht, rowG_len, if_pos (by omega)]
  rfl
end
end Go.Proofs.Ytadmofpipfdedaa
end
section
set_option linter.unusedVariables false
set_option linter.unusedSimpArgs false
namespace Go.Proofs.Ytadmofpipfdedaa
open Go.RowKit

theorem bool_cell {w : World} {p : Nat} {lv : List Bool} {t : TypeId} {f : Nat × Nat} (h : w.heap[p]? = some (.cells (lv.map Value.bool).toArray t f)) {o : Nat} {v : Value} (hc : w.cell? ⟨p, o, none⟩ = some v) : ∃ x : Bool, v = .bool x := by
  rw [cell_of_row w p o _ t f h, List.getElem?_toArray, List.getElem?_map] at hc
  cases hx : lv[o]? with
  | none => rw [hx] at hc; cases hc
  | some x => rw [hx] at hc; injection hc with hc; exact ⟨x, hc.symm⟩
theorem KS.putB {W w w' : World} {b : Nat} {H : BH} {N : Bch} {p : Nat} {lv : List Bool} {t : TypeId} {f : Nat × Nat} {o' : Obj} {K : List (Nat × Obj)} {R : List (Option Addr × List (List UInt8))} {S : List (Option Addr × List UInt8)} (h : KS W w b H N ((p, .cells (lv.map Value.bool).toArray t f) :: K) R S) (hg : w.grownBy w' (some p)) (hb : w'.heap[p]? = some o') (hne : ∀ r ∈ K, r.1 ≠ p) : KS W w' b H N ((p, o') :: K) R S := by
  have hp := (h.kx.kp _ (List.mem_cons_self ..)).1
  dsimp only at hp
  have hcell : ∀ q : Addr, q.block ≠ p → q.block < w.heap.size → w'.cell? q = w.cell? q := fun q h1 h2 => World.cell?_of_block (hg.block q.block h2 fun e => h1 (by injection e))
  have hB : ∀ {A : Option Addr} {bs : List UInt8}, RdBX (BF b H N.n) w A bs → RdBX (BF b H N.n) w' A bs := fun {A bs} h0 => ⟨h0.1, fun hn => by
    obtain ⟨b', off, e, hl, hF, hc⟩ := h0.2 hn
    have hbp : b' ≠ p := fun e2 => by
      subst e2
      obtain ⟨x, hx⟩ := bool_cell hp (hc 0 hn)
      cases hx
    exact ⟨b', off, e, Nat.lt_of_lt_of_le hl hg.size, hF, fun k hk => (hcell ⟨b', off + k, none⟩ hbp hl).trans (hc k hk)⟩⟩
  refine ⟨h.kx.put (K1 := []) rfl hg hb (by simpa using hne), fun q hq => ?_, fun q hq => hB (h.sx q hq)⟩
  have h0 := h.rx q hq
  refine ⟨h0.1, fun hn => ?_⟩
  obtain ⟨b', off, e, hl, hF, hc⟩ := h0.2 hn
  have hbp : b' ≠ p := fun e2 => by
    subst e2
    obtain ⟨A', c, h1, _⟩ := hc 0 hn
    obtain ⟨x, hx⟩ := bool_cell hp h1
    cases hx
  refine ⟨b', off, e, Nat.lt_of_lt_of_le hl hg.size, hF, fun k hk => ?_⟩
  obtain ⟨A', c, h1, h2⟩ := hc k hk
  exact ⟨A', c, (hcell ⟨b', off + k, none⟩ hbp hl).trans h1, hB h2⟩
/-- Blocks of yes and no, and geometries, are unlike. -/
theorem live_ne {w : World} {g p : Nat} {lv : List Bool} {x y z : Int} (h : w.heap[g]? = some (.cells (lv.map Value.bool).toArray 4 (0, 0))) (h2 : w.heap[p]? = some (.cells #[.int .i64 x, .int .i64 y, .int .i64 z] 25 (0, 0))) : g ≠ p := fun e => by
  subst e
  rw [h2] at h
  injection h with e2
  injection e2 with _ e3 _
  exact absurd e3 (by decide)
end Go.Proofs.Ytadmofpipfdedaa
end
