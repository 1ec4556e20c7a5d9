/- Texts put together: RbdTwo, RebuildTwoLoops. -/
import Derived.Test.YtadmofpipfdedaaRtbi
import Derived.Test.YtadmofpipfdedaaRtbf
section
set_option linter.unusedVariables false
set_option linter.unusedSimpArgs false
namespace Go.Proofs.Ytadmofpipfdedaa
open Go.RowKit

theorem lvset_same {lv : List Bool} {z : Nat} (v : Bool) (h : z < lv.length) : (lv.set z v).getD z false = v := by
  rw [List.getD_eq_getElem?_getD, List.getElem?_set_self h]; rfl
theorem lvset_other {lv : List Bool} {z i : Nat} (v : Bool) (h : i ≠ z) : (lv.set z v).getD i false = lv.getD i false := by
  rw [List.getD_eq_getElem?_getD, List.getElem?_set_ne (by omega), ← List.getD_eq_getElem?_getD]
/-- The first ones of two are lost, and replaced. -/
structure T1 (N M : Bch) (lv : List Bool) (D : Nat) (xs : Nat → Nat) (j : Nat) : Prop where
  n : M.n = D
  dn : M.down = false
  lf : M.left = -1
  done : M.done = 0
  o : ∀ i, i < D → (∀ t, t < j → i ≠ xs t) → M.D i = N.D i ∧ lv.getD i false = true
  g : ∀ t, t < j → M.D (xs t) = Dsk.new ∧ lv.getD (xs t) false = false
  len : lv.length = D
theorem T1.next {N M : Bch} {lv : List Bool} {D : Nat} {xs : Nat → Nat} {j : Nat} (h : T1 N M lv D xs j) (hx : xs j < D) : T1 N (frB M (xs j)) (lv.set (xs j) false) D xs (j + 1) := by
  obtain ⟨_, _, hD, hn, hd, hl, ho⟩ := fr_ok (N := M) (k := xs j) (by rw [h.n]; exact hx)
  refine ⟨hn.trans h.n, hd.trans h.dn, hl.trans h.lf, ho.trans h.done, fun i hi hne => ?_, fun t ht => ?_, by rw [List.length_set]; exact h.len⟩
  · have h1 := hne j (by omega)
    obtain ⟨a, b⟩ := h.o i hi (fun t ht => hne t (by omega))
    rw [hD, if_neg h1, lvset_other _ h1]
    exact ⟨a, b⟩
  · by_cases e : xs t = xs j
    · rw [e, hD, if_pos rfl, lvset_same _ (by rw [h.len]; exact hx)]
      exact ⟨rfl, rfl⟩
    · have htj : t < j := by
        by_cases e2 : t = j
        · subst e2; exact absurd rfl e
        · omega
      rw [hD, if_neg e, lvset_other _ e]
      exact h.g t htj
/-- The first ones of two are as they were. -/
structure T2 (N M : Bch) (lv : List Bool) (D : Nat) (zs : Nat → Nat) (j : Nat) : Prop where
  n : M.n = D
  dn : M.down = false
  lf : M.left = -1
  done : M.done ≤ 16 * j
  o : ∀ i, i < D → (∀ t, j ≤ t → t < 2 → i ≠ zs t) → (∀ a, a < 52 → secAt (M.D i).now a = secAt (N.D i).now a) ∧ lv.getD i false = true ∧ (M.D i).f = false ∧ (M.D i).ps = []
  g : ∀ t, j ≤ t → t < 2 → M.D (zs t) = Dsk.new ∧ lv.getD (zs t) false = false
  len : lv.length = D
section
variable {N M : Bch} {lv : List Bool} {D m : Nat} {zs : Nat → Nat} {j : Nat} {c : Int} {zl : List Int}
theorem T1.two {xs : Nat → Nat} {fl : Nat → List (List UInt8)} (h : T1 N M lv D xs 2) (hf : Fb N D fl 16 0) (hz : zs 0 = xs 1 ∧ zs 1 = xs 0) : T2 N M lv D zs 0 := by
  refine ⟨h.n, h.dn, h.lf, by rw [h.done]; exact Nat.zero_le _, fun i hi hne => ?_, fun t _ ht => ?_, h.len⟩
  · obtain ⟨a, b⟩ := h.o i hi (fun t ht e => by
      match t, ht with
      | 0, _ => exact hne 1 (by omega) (by omega) (by rw [hz.2]; exact e)
      | 1, _ => exact hne 0 (by omega) (by omega) (by rw [hz.1]; exact e))
    rw [a]
    exact ⟨fun _ _ => rfl, b, hf.gd.f i hi, hf.gd.ps i hi⟩
  · match t, ht with
    | 0, _ => rw [hz.1]; exact h.g 1 (by omega)
    | 1, _ => rw [hz.2]; exact h.g 0 (by omega)
def G6 (D : Nat) (c : Int) : RG := ⟨6, (D : Int), c, 0, 0, 0, 0⟩
theorem G6_at (D : Nat) (c : Int) (t : Nat) : ((G6 D c).L t = 6 ∧ (G6 D c).D t = (D : Int)) ∧ (G6 D c).C t = c := by
  have h : ∀ x x' : Int, rg 0 x x' t = x := fun x x' => if_neg (by omega)
  exact ⟨⟨h _ _, h _ _⟩, h _ _⟩
theorem rowG_6 (D : Nat) (c : Int) (zl : List Int) : rowG ⟨6, (D : Int), c, 6, (D : Int), c, 0⟩ zl = rowG (G6 D c) zl := by
  funext t
  have h : ∀ x x' : Int, rg 0 x x' t = x := fun x x' => if_neg (by omega)
  unfold rowG RG.L RG.D RG.C G6
  simp only [h]
theorem T2.f (h : T2 N M lv D zs j) : ∀ i, i < D → (M.D i).f = false ∧ (M.D i).ps = [] := fun i hi => by
  by_cases e : ∀ t, j ≤ t → t < 2 → i ≠ zs t
  · exact (h.o i hi e).2.2
  · have : ∃ t, j ≤ t ∧ t < 2 ∧ i = zs t := by
      by_cases e0 : j ≤ 0 ∧ i = zs 0
      · exact ⟨0, e0.1, by omega, e0.2⟩
      · by_cases e1 : j ≤ 1 ∧ i = zs 1
        · exact ⟨1, e1.1, by omega, e1.2⟩
        · refine absurd (fun t h1 h2 h3 => ?_) e
          match t, h2 with
          | 0, _ => exact e0 ⟨h1, h3⟩
          | 1, _ => exact e1 ⟨h1, h3⟩
    obtain ⟨t, h1, h2, rfl⟩ := this
    rw [(h.g t h1 h2).1]; exact ⟨rfl, rfl⟩
theorem T2.rbh (h : T2 N M lv D zs j) (hc : gOk 6 (D : Int) c = true) (hf : Fb N D (rowG (G6 D c) zl) 16 0) (hj : j < 2) (hz : zs j < D) : RbH M lv (G6 D c) (zs j) (rsZ (G6 D c) zl) ∧ (rbS M lv ((zs j : Nat) : Int) (G6 D c)).1 = 0 := by
  have hG : (G6 D c).ok = true := RG.ok_mk hc (show (0 : Int) ≤ 0 by omega) (show (0 : Int) ≤ 16 by omega) (.inl rfl)
  have hle : ∀ t, t < 16 → (G6 D c).D t ≤ (D : Int) := fun t _ => by rw [(G6_at D c t).1.2]; omega
  obtain ⟨hk, hl⟩ := h.g j (Nat.le_refl _) hj
  have hs : StR M lv (G6 D c) (rsZ (G6 D c) zl) := fun t ht i hi hs => by
    have hiD : i < D := by rw [(G6_at D c t).1.2] at hi; omega
    obtain ⟨_, h2, _⟩ := srvD_yes hs
    rw [(h.o i hiD (fun t' h1 h3 e => by rw [e, (h.g t' h1 h3).2] at h2; cases h2)).1 _ (by omega)]
    exact hf.st hle hG ht hi
  have hh : RbH M lv (G6 D c) (zs j) (rsZ (G6 D c) zl) := rbh_of hG (by rw [h.n]; exact hz) h.dn (by rw [hk]; rfl) hl (rows_dat _ zl) hs (by rw [hk]; exact OutK.new)
  refine ⟨hh, ?_⟩
  obtain ⟨_, h3⟩ := rb_all hh hG
  rcases h3 with h3 | h3 | h3
  · exact h3.1
  · exact absurd h.lf h3.2.2
  · obtain ⟨t, ht, _, e7⟩ := h3.2.2
    have hc2 := cnt_two (N := M) (lv := lv) (D := D) (d := zs 0) (e := zs 1) (by rw [h.n]; exact Nat.le_refl _) (fun i hi => (h.f i hi).1) (fun i hi h0 h1 => (h.o i hi (fun t _ ht e => by
      match t, ht with
      | 0, _ => exact h0 e
      | 1, _ => exact h1 e)).2.1)
    have := rb_told hG h.dn (rows_dat _ zl) hs ht (by
      rw [(G6_at D c t).1.1, (G6_at D c t).1.2, Int.toNat_natCast]
      omega)
    rw [this] at e7; cases e7
theorem T2.next (h : T2 N M lv D zs j) (hc : gOk 6 (D : Int) c = true) (hf : Fb N D (rowG (G6 D c) zl) 16 0) (hj : j < 2) (hz : zs j < D) (hne : zs 0 ≠ zs 1) : T2 N (rbS M lv ((zs j : Nat) : Int) (G6 D c)).2 (lv.set (zs j) true) D zs (j + 1) := by
  have hG : (G6 D c).ok = true := RG.ok_mk hc (show (0 : Int) ≤ 0 by omega) (show (0 : Int) ≤ 16 by omega) (.inl rfl)
  have hle : ∀ t, t < 16 → (G6 D c).D t ≤ (D : Int) := fun t _ => by rw [(G6_at D c t).1.2]; omega
  obtain ⟨hh, h0⟩ := h.rbh hc hf hj hz
  obtain ⟨I, h3⟩ := rb_all hh hG
  have hdone := rbS_done M lv ((zs j : Nat) : Int) (G6 D c)
  generalize rbS M lv ((zs j : Nat) : Int) (G6 D c) = p at h0 I h3 hdone
  rcases h3 with ⟨_, hz3, hp3⟩ | h3 | h3
  · have hd := h.done
    refine ⟨I.n.trans h.n, hz3.1, I.lf h.lf, by omega, fun i hi hno => ?_, fun t h1 h2 => ?_, by rw [List.length_set]; exact h.len⟩
    · by_cases e : i = zs j
      · subst e
        refine ⟨rb_same hf hle hG hz I hz3, lvset_same _ (by rw [h.len]; exact hz), I.f, hp3⟩
      · rw [I.o i e, lvset_other _ e]
        refine h.o i hi (fun t h1 h2 => ?_)
        by_cases e2 : t = j
        · subst e2; exact e
        · exact hno t (by omega) h2
    · have e : zs t ≠ zs j := fun e => by
        obtain rfl : j = 0 := by omega
        obtain rfl : t = 1 := by omega
        exact hne e.symm
      rw [I.o _ e, lvset_other _ e]
      exact h.g t (by omega) h2
  · rw [h0] at h3; cases h3.1
  · rw [h0] at h3; cases h3.1
end
end Go.Proofs.Ytadmofpipfdedaa
end
section
set_option linter.unusedVariables false
set_option linter.unusedSimpArgs false
namespace Go.Proofs.Ytadmofpipfdedaa
open Go.RowKit

noncomputable def codeRT : Code := Try.f6.body.getD .skip
set_option maxRecDepth 100000 in
set_option maxHeartbeats 3200000 in
theorem rtAb {W0 : World} {b gl gs D : Nat} {N : Bch} {xs : Nat → Nat} {LK : List (Nat × Obj)} {j : Nat} {H : BH} {M : Bch} {lv : List Bool} {w : World} (u0 u1 u2 u3 u4 u5 u6 u7 u8 u9 u11 u13 u14 u15 u16 u17 u18 u19 u20 u21 u22 u23 u24 u25 u26 u27 u28 u29 u30 u31 u32 u33 u34 u35 u36 u37 u38 u39 u40 u41 u42 u43 u44 u45 u46 u47 u48 u49 u50 u51 u52 u53 u54 u55 u56 u57 u58 u59 u60 u61 u65 u66 u67 u68 u69 u70 u71 u72 u73 u74 u75 u76 u77 u78 u79 u80 u81 u82 u83 u84 u85 u86 u87 u88 u89 u90 u91 u92 u93 u94 u95 u96 u97 u98 u99 u100 u101 u102 u103 u104 u105 u106 u107 u108 u109 u110 u111 u112 u113 u114 u115 u116 u117 u118 u119 u120 u121 u122 u123 u124 u125 u126 u127 u128 u129 u130 u131 : Value) (K : Act → World → Prop) (Q0 : Exit → Act → World → Prop) (hD8 : D ≤ 8) (hx : ∀ j, j < 2 → xs j < D) (hgs : (gs, Obj.cells #[.int .i64 ((xs 0 : Nat) : Int), .int .i64 ((xs 1 : Nat) : Int)] 3 (0, 0)) ∈ LK) (hne : ∀ r ∈ LK, r.1 ≠ gl) (hI : (j ≤ 2 ∧ KS W0 w b H M ((gl, Obj.cells (lv.map Value.bool).toArray 4 (0, 0)) :: LK) [] [] ∧ T1 N M lv D xs j))
    (hK : ∀ (v14 v65 v66 v67 v68 v69 v70 v71 v72 v73 v74 v75 v76 v77 : Value) (H2 : BH) (M2 : Bch) (lv2 : List Bool) (V : World), ((j + 1) ≤ 2 ∧ KS W0 V b H2 M2 ((gl, Obj.cells (lv2.map Value.bool).toArray 4 (0, 0)) :: LK) [] [] ∧ T1 N M2 lv2 D xs (j + 1)) → 2 - (j + 1) < 2 - j → K ⟨List.toArray (u0 :: u1 :: u2 :: u3 :: u4 :: u5 :: u6 :: u7 :: u8 :: u9 :: (.pointer (some ⟨b, 0, none⟩)) :: u11 :: (.slice (some ⟨gl, 0, none⟩) D D) :: u13 :: v14 :: u15 :: u16 :: u17 :: u18 :: u19 :: u20 :: u21 :: u22 :: u23 :: u24 :: u25 :: u26 :: u27 :: u28 :: u29 :: u30 :: u31 :: u32 :: u33 :: u34 :: u35 :: u36 :: u37 :: u38 :: u39 :: u40 :: u41 :: u42 :: u43 :: u44 :: u45 :: u46 :: u47 :: u48 :: u49 :: u50 :: u51 :: u52 :: u53 :: u54 :: u55 :: u56 :: u57 :: u58 :: u59 :: u60 :: u61 :: (.slice (some ⟨gs, 0, none⟩) 2 2) :: (.int .i64 2) :: (.int .i64 (((j + 1) : Nat) : Int)) :: v65 :: v66 :: v67 :: v68 :: v69 :: v70 :: v71 :: v72 :: v73 :: v74 :: v75 :: v76 :: v77 :: u78 :: u79 :: u80 :: u81 :: u82 :: u83 :: u84 :: u85 :: u86 :: u87 :: u88 :: u89 :: u90 :: u91 :: u92 :: u93 :: u94 :: u95 :: u96 :: u97 :: u98 :: u99 :: u100 :: u101 :: u102 :: u103 :: u104 :: u105 :: u106 :: u107 :: u108 :: u109 :: u110 :: u111 :: u112 :: u113 :: u114 :: u115 :: u116 :: u117 :: u118 :: u119 :: u120 :: u121 :: u122 :: u123 :: u124 :: u125 :: u126 :: u127 :: u128 :: u129 :: u130 :: u131 :: []), []⟩ V)
    (hX : ∀ (v14 v65 v66 v67 v68 v69 v70 v71 v72 v73 v74 v75 v76 v77 : Value), (j = 2) → Q0 (.exit 0) ⟨List.toArray (u0 :: u1 :: u2 :: u3 :: u4 :: u5 :: u6 :: u7 :: u8 :: u9 :: (.pointer (some ⟨b, 0, none⟩)) :: u11 :: (.slice (some ⟨gl, 0, none⟩) D D) :: u13 :: v14 :: u15 :: u16 :: u17 :: u18 :: u19 :: u20 :: u21 :: u22 :: u23 :: u24 :: u25 :: u26 :: u27 :: u28 :: u29 :: u30 :: u31 :: u32 :: u33 :: u34 :: u35 :: u36 :: u37 :: u38 :: u39 :: u40 :: u41 :: u42 :: u43 :: u44 :: u45 :: u46 :: u47 :: u48 :: u49 :: u50 :: u51 :: u52 :: u53 :: u54 :: u55 :: u56 :: u57 :: u58 :: u59 :: u60 :: u61 :: (.slice (some ⟨gs, 0, none⟩) 2 2) :: (.int .i64 2) :: (.int .i64 ((j : Nat) : Int)) :: v65 :: v66 :: v67 :: v68 :: v69 :: v70 :: v71 :: v72 :: v73 :: v74 :: v75 :: v76 :: v77 :: u78 :: u79 :: u80 :: u81 :: u82 :: u83 :: u84 :: u85 :: u86 :: u87 :: u88 :: u89 :: u90 :: u91 :: u92 :: u93 :: u94 :: u95 :: u96 :: u97 :: u98 :: u99 :: u100 :: u101 :: u102 :: u103 :: u104 :: u105 :: u106 :: u107 :: u108 :: u109 :: u110 :: u111 :: u112 :: u113 :: u114 :: u115 :: u116 :: u117 :: u118 :: u119 :: u120 :: u121 :: u122 :: u123 :: u124 :: u125 :: u126 :: u127 :: u128 :: u129 :: u130 :: u131 :: []), []⟩ w) :
    Code.wp Try.prog (sub [1, 1, 1, 1, 1, 1, 1, 1, 1, 1, 0, 1, 0, 0] codeRT) (Exit.then K Q0) ⟨List.toArray (u0 :: u1 :: u2 :: u3 :: u4 :: u5 :: u6 :: u7 :: u8 :: u9 :: (.pointer (some ⟨b, 0, none⟩)) :: u11 :: (.slice (some ⟨gl, 0, none⟩) D D) :: u13 :: u14 :: u15 :: u16 :: u17 :: u18 :: u19 :: u20 :: u21 :: u22 :: u23 :: u24 :: u25 :: u26 :: u27 :: u28 :: u29 :: u30 :: u31 :: u32 :: u33 :: u34 :: u35 :: u36 :: u37 :: u38 :: u39 :: u40 :: u41 :: u42 :: u43 :: u44 :: u45 :: u46 :: u47 :: u48 :: u49 :: u50 :: u51 :: u52 :: u53 :: u54 :: u55 :: u56 :: u57 :: u58 :: u59 :: u60 :: u61 :: (.slice (some ⟨gs, 0, none⟩) 2 2) :: (.int .i64 2) :: (.int .i64 ((j : Nat) : Int)) :: u65 :: u66 :: u67 :: u68 :: u69 :: u70 :: u71 :: u72 :: u73 :: u74 :: u75 :: u76 :: u77 :: u78 :: u79 :: u80 :: u81 :: u82 :: u83 :: u84 :: u85 :: u86 :: u87 :: u88 :: u89 :: u90 :: u91 :: u92 :: u93 :: u94 :: u95 :: u96 :: u97 :: u98 :: u99 :: u100 :: u101 :: u102 :: u103 :: u104 :: u105 :: u106 :: u107 :: u108 :: u109 :: u110 :: u111 :: u112 :: u113 :: u114 :: u115 :: u116 :: u117 :: u118 :: u119 :: u120 :: u121 :: u122 :: u123 :: u124 :: u125 :: u126 :: u127 :: u128 :: u129 :: u130 :: u131 :: []), []⟩ w := by
  have HK := Lib.hid hK
  have HX := Lib.hid hX
  clear hK hX
  conv => arg 2; whnf
  obtain ⟨hj, hk, ht⟩ := hI
  by_cases hlt : j < 2
  · have i0 : (0 : Int) ≤ (j : Int) := by omega
    have i1 : (j : Int) < 2 := by omega
    have hz := hx j hlt
    have hcl : w.cell? ⟨gs, j, none⟩ = some (.int .i64 ((xs j : Nat) : Int)) := by
      have h := (hk.kx.kp _ (List.mem_cons_of_mem _ hgs)).1
      rw [cell_of_row w gs j _ _ _ h]
      match j, hlt with
      | 0, _ => rfl
      | 1, _ => rfl
    have Ht := Lib.hid (ht.next hz)
    have hlen := ht.len
    have hMn := ht.n
    generalize xs j = z at hz hcl Ht
    have z0 : (0 : Int) ≤ (z : Int) := by omega
    have z1 : (z : Int) < (D : Int) := by omega
    have hfr := fr_ok (N := M) (k := z) (by omega)
    have CF := Lib.hid (ks_fail hk (z : Int) ⟨by omega, by omega⟩)
    clear hk ht HX
    go_wp2_with fail
    (with_reducible refine CF.out.mono ?_); rintro e w4 ⟨rfl, H4, k4⟩
    have CRp := Lib.hid (ks_replace k4 (z : Int) ⟨by omega, by omega⟩)
    clear k4 CF hcl
    go_wp2_with fail
    (with_reducible refine CRp.out.mono ?_); rintro e w5 ⟨rfl, H5, k5⟩
    have K5 := Lib.hid (show KS W0 w5 b H5 (frB M z) ((gl, Obj.cells (lv.map Value.bool).toArray 4 (0, 0)) :: LK) [] [] from k5)
    have hblk := (K5.out.kx.kp _ (List.mem_cons_self ..)).1
    dsimp only at hblk
    obtain ⟨hc0, hf0, hb0, gg0⟩ := lv_setCell hblk (d := z) (by omega) false
    have K6 := Lib.hid (K5.out.putB gg0 hb0 hne)
    generalize lv.set z false = lv2 at K6 Ht
    generalize frB M z = M2 at K6 Ht
    clear hblk hb0 gg0 K5 k5 CRp hfr
    go_upto_region 18 with fail
    generalize w5.setCell ⟨gl, z, none⟩ (.bool false) = w6 at K6 ⊢
    clear hc0 hf0
    go_wp2_with fail
    exact HK.out _ _ _ _ _ _ _ _ _ _ _ _ _ _ H5 M2 lv2 _ ⟨by omega, K6.out, Ht.out⟩ (by omega)
  · have i1 : ¬ (j : Int) < 2 := by omega
    have Hin := Lib.hid (show j = 2 by omega)
    clear HK hk
    go_wp2_with fail
    exact HX.out _ _ _ _ _ _ _ _ _ _ _ _ _ _ Hin.out
set_option maxRecDepth 100000 in
set_option maxHeartbeats 3200000 in
theorem rtA {W0 : World} {b gl gs D : Nat} {N : Bch} {xs : Nat → Nat} {LK : List (Nat × Obj)} {H0 : BH} {M0 : Bch} {lv0 : List Bool} {w : World} (u0 u1 u2 u3 u4 u5 u6 u7 u8 u9 u11 u13 u14 u15 u16 u17 u18 u19 u20 u21 u22 u23 u24 u25 u26 u27 u28 u29 u30 u31 u32 u33 u34 u35 u36 u37 u38 u39 u40 u41 u42 u43 u44 u45 u46 u47 u48 u49 u50 u51 u52 u53 u54 u55 u56 u57 u58 u59 u60 u61 u65 u66 u67 u68 u69 u70 u71 u72 u73 u74 u75 u76 u77 u78 u79 u80 u81 u82 u83 u84 u85 u86 u87 u88 u89 u90 u91 u92 u93 u94 u95 u96 u97 u98 u99 u100 u101 u102 u103 u104 u105 u106 u107 u108 u109 u110 u111 u112 u113 u114 u115 u116 u117 u118 u119 u120 u121 u122 u123 u124 u125 u126 u127 u128 u129 u130 u131 : Value) (Q : Exit → Act → World → Prop) (hD8 : D ≤ 8) (hx : ∀ j, j < 2 → xs j < D) (hgs : (gs, Obj.cells #[.int .i64 ((xs 0 : Nat) : Int), .int .i64 ((xs 1 : Nat) : Int)] 3 (0, 0)) ∈ LK) (hne : ∀ r ∈ LK, r.1 ≠ gl) (hI : (0 ≤ 2 ∧ KS W0 w b H0 M0 ((gl, Obj.cells (lv0.map Value.bool).toArray 4 (0, 0)) :: LK) [] [] ∧ T1 N M0 lv0 D xs 0))
    (hX : ∀ (v14 v65 v66 v67 v68 v69 v70 v71 v72 v73 v74 v75 v76 v77 : Value) (j : Nat) (H : BH) (M : Bch) (lv : List Bool) (V : World), (j ≤ 2 ∧ KS W0 V b H M ((gl, Obj.cells (lv.map Value.bool).toArray 4 (0, 0)) :: LK) [] [] ∧ T1 N M lv D xs j) → (j = 2) → Q (.exit 0) ⟨List.toArray (u0 :: u1 :: u2 :: u3 :: u4 :: u5 :: u6 :: u7 :: u8 :: u9 :: (.pointer (some ⟨b, 0, none⟩)) :: u11 :: (.slice (some ⟨gl, 0, none⟩) D D) :: u13 :: v14 :: u15 :: u16 :: u17 :: u18 :: u19 :: u20 :: u21 :: u22 :: u23 :: u24 :: u25 :: u26 :: u27 :: u28 :: u29 :: u30 :: u31 :: u32 :: u33 :: u34 :: u35 :: u36 :: u37 :: u38 :: u39 :: u40 :: u41 :: u42 :: u43 :: u44 :: u45 :: u46 :: u47 :: u48 :: u49 :: u50 :: u51 :: u52 :: u53 :: u54 :: u55 :: u56 :: u57 :: u58 :: u59 :: u60 :: u61 :: (.slice (some ⟨gs, 0, none⟩) 2 2) :: (.int .i64 2) :: (.int .i64 ((j : Nat) : Int)) :: v65 :: v66 :: v67 :: v68 :: v69 :: v70 :: v71 :: v72 :: v73 :: v74 :: v75 :: v76 :: v77 :: u78 :: u79 :: u80 :: u81 :: u82 :: u83 :: u84 :: u85 :: u86 :: u87 :: u88 :: u89 :: u90 :: u91 :: u92 :: u93 :: u94 :: u95 :: u96 :: u97 :: u98 :: u99 :: u100 :: u101 :: u102 :: u103 :: u104 :: u105 :: u106 :: u107 :: u108 :: u109 :: u110 :: u111 :: u112 :: u113 :: u114 :: u115 :: u116 :: u117 :: u118 :: u119 :: u120 :: u121 :: u122 :: u123 :: u124 :: u125 :: u126 :: u127 :: u128 :: u129 :: u130 :: u131 :: []), []⟩ V) :
    Code.wp Try.prog (.loop (sub [1, 1, 1, 1, 1, 1, 1, 1, 1, 1, 0, 1, 0, 0] codeRT)) Q ⟨List.toArray (u0 :: u1 :: u2 :: u3 :: u4 :: u5 :: u6 :: u7 :: u8 :: u9 :: (.pointer (some ⟨b, 0, none⟩)) :: u11 :: (.slice (some ⟨gl, 0, none⟩) D D) :: u13 :: u14 :: u15 :: u16 :: u17 :: u18 :: u19 :: u20 :: u21 :: u22 :: u23 :: u24 :: u25 :: u26 :: u27 :: u28 :: u29 :: u30 :: u31 :: u32 :: u33 :: u34 :: u35 :: u36 :: u37 :: u38 :: u39 :: u40 :: u41 :: u42 :: u43 :: u44 :: u45 :: u46 :: u47 :: u48 :: u49 :: u50 :: u51 :: u52 :: u53 :: u54 :: u55 :: u56 :: u57 :: u58 :: u59 :: u60 :: u61 :: (.slice (some ⟨gs, 0, none⟩) 2 2) :: (.int .i64 2) :: (.int .i64 ((0 : Nat) : Int)) :: u65 :: u66 :: u67 :: u68 :: u69 :: u70 :: u71 :: u72 :: u73 :: u74 :: u75 :: u76 :: u77 :: u78 :: u79 :: u80 :: u81 :: u82 :: u83 :: u84 :: u85 :: u86 :: u87 :: u88 :: u89 :: u90 :: u91 :: u92 :: u93 :: u94 :: u95 :: u96 :: u97 :: u98 :: u99 :: u100 :: u101 :: u102 :: u103 :: u104 :: u105 :: u106 :: u107 :: u108 :: u109 :: u110 :: u111 :: u112 :: u113 :: u114 :: u115 :: u116 :: u117 :: u118 :: u119 :: u120 :: u121 :: u122 :: u123 :: u124 :: u125 :: u126 :: u127 :: u128 :: u129 :: u130 :: u131 :: []), []⟩ w := by
  refine wp_loop_ghost (fun gk a V => ∀ C : Prop, (∀ (u14 u65 u66 u67 u68 u69 u70 u71 u72 u73 u74 u75 u76 u77 : Value) (j : Nat) (H : BH) (M : Bch) (lv : List Bool), gk = 2 - j → (j ≤ 2 ∧ KS W0 V b H M ((gl, Obj.cells (lv.map Value.bool).toArray 4 (0, 0)) :: LK) [] [] ∧ T1 N M lv D xs j) → a = ⟨List.toArray (u0 :: u1 :: u2 :: u3 :: u4 :: u5 :: u6 :: u7 :: u8 :: u9 :: (.pointer (some ⟨b, 0, none⟩)) :: u11 :: (.slice (some ⟨gl, 0, none⟩) D D) :: u13 :: u14 :: u15 :: u16 :: u17 :: u18 :: u19 :: u20 :: u21 :: u22 :: u23 :: u24 :: u25 :: u26 :: u27 :: u28 :: u29 :: u30 :: u31 :: u32 :: u33 :: u34 :: u35 :: u36 :: u37 :: u38 :: u39 :: u40 :: u41 :: u42 :: u43 :: u44 :: u45 :: u46 :: u47 :: u48 :: u49 :: u50 :: u51 :: u52 :: u53 :: u54 :: u55 :: u56 :: u57 :: u58 :: u59 :: u60 :: u61 :: (.slice (some ⟨gs, 0, none⟩) 2 2) :: (.int .i64 2) :: (.int .i64 ((j : Nat) : Int)) :: u65 :: u66 :: u67 :: u68 :: u69 :: u70 :: u71 :: u72 :: u73 :: u74 :: u75 :: u76 :: u77 :: u78 :: u79 :: u80 :: u81 :: u82 :: u83 :: u84 :: u85 :: u86 :: u87 :: u88 :: u89 :: u90 :: u91 :: u92 :: u93 :: u94 :: u95 :: u96 :: u97 :: u98 :: u99 :: u100 :: u101 :: u102 :: u103 :: u104 :: u105 :: u106 :: u107 :: u108 :: u109 :: u110 :: u111 :: u112 :: u113 :: u114 :: u115 :: u116 :: u117 :: u118 :: u119 :: u120 :: u121 :: u122 :: u123 :: u124 :: u125 :: u126 :: u127 :: u128 :: u129 :: u130 :: u131 :: []), []⟩ → C) → C) (2 - 0) ?_ ?_
  · intro C hC
    exact hC _ _ _ _ _ _ _ _ _ _ _ _ _ _ (0) (H0) (M0) (lv0) rfl hI rfl
  · intro gk a V hI'
    refine hI' _ ?_
    intro u14 u65 u66 u67 u68 u69 u70 u71 u72 u73 u74 u75 u76 u77 j H M lv hk hinv ha
    subst ha
    subst hk
    refine rtAb _ _ _ _ _ _ _ _ _ _ _ _ _ _ _ _ _ _ _ _ _ _ _ _ _ _ _ _ _ _ _ _ _ _ _ _ _ _ _ _ _ _ _ _ _ _ _ _ _ _ _ _ _ _ _ _ _ _ _ _ _ _ _ _ _ _ _ _ _ _ _ _ _ _ _ _ _ _ _ _ _ _ _ _ _ _ _ _ _ _ _ _ _ _ _ _ _ _ _ _ _ _ _ _ _ _ _ _ _ _ _ _ _ _ _ _ _ _ _ _ _ _ _ _ _ _ _ _ _ hD8 hx hgs hne hinv (fun v14 v65 v66 v67 v68 v69 v70 v71 v72 v73 v74 v75 v76 v77 H2 M2 lv2 V2 h2 hm => ?_) (fun v14 v65 v66 v67 v68 v69 v70 v71 v72 v73 v74 v75 v76 v77 hx => hX v14 v65 v66 v67 v68 v69 v70 v71 v72 v73 v74 v75 v76 v77 j H M lv V hinv hx)
    refine ⟨_, hm, fun C hC => ?_⟩
    exact hC v14 v65 v66 v67 v68 v69 v70 v71 v72 v73 v74 v75 v76 v77 ((j + 1)) (H2) (M2) (lv2) rfl h2 rfl
set_option maxRecDepth 100000 in
set_option maxHeartbeats 3200000 in
theorem rtBb {W0 : World} {b gl gs gb D : Nat} {c : Int} {N : Bch} {zs : Nat → Nat} {zl : List Int} {LK : List (Nat × Obj)} {j : Nat} {H : BH} {M : Bch} {lv : List Bool} {w : World} (u0 u1 u2 u3 u4 u5 u6 u7 u8 u11 u13 u14 u15 u16 u17 u18 u19 u20 u21 u22 u23 u24 u25 u26 u27 u28 u29 u30 u31 u32 u33 u34 u35 u36 u37 u38 u39 u40 u41 u42 u43 u44 u45 u46 u47 u48 u49 u50 u51 u52 u53 u54 u55 u56 u57 u58 u59 u60 u61 u62 u63 u64 u65 u66 u67 u68 u69 u70 u71 u72 u73 u74 u75 u76 u77 u78 u79 u83 u84 u85 u86 u87 u88 u89 u90 u91 u92 u93 u94 u95 u96 u97 u98 u99 u100 u101 u102 u103 u104 u105 u106 u107 u108 u109 u110 u111 u112 u113 u114 u115 u116 u117 u118 u119 u120 u121 u122 u123 u124 u125 u126 u127 u128 u129 u130 u131 : Value) (K : Act → World → Prop) (Q0 : Exit → Act → World → Prop) (hD8 : D ≤ 8) (hc : gOk 6 (D : Int) c = true) (hfb : Fb N D (rowG (G6 D c) zl) 16 0) (hx : ∀ j, j < 2 → zs j < D) (h01 : zs 0 ≠ zs 1) (hgs : (gs, Obj.cells #[.int .i64 ((zs 0 : Nat) : Int), .int .i64 ((zs 1 : Nat) : Int)] 3 (0, 0)) ∈ LK) (hgb : (gb, Obj.cells #[.int .i64 6, .int .i64 (D : Int), .int .i64 c] 25 (0, 0)) ∈ LK) (hne : ∀ r ∈ LK, r.1 ≠ gl) (hI : (j ≤ 2 ∧ KS W0 w b H M ((gl, Obj.cells (lv.map Value.bool).toArray 4 (0, 0)) :: LK) [] [] ∧ T2 N M lv D zs j))
    (hK : ∀ (v8 v16 v83 v84 v85 v86 v87 v88 v89 v90 v91 v92 v93 v94 v95 v96 : Value) (H2 : BH) (M2 : Bch) (lv2 : List Bool) (V : World), ((j + 1) ≤ 2 ∧ KS W0 V b H2 M2 ((gl, Obj.cells (lv2.map Value.bool).toArray 4 (0, 0)) :: LK) [] [] ∧ T2 N M2 lv2 D zs (j + 1)) → 2 - (j + 1) < 2 - j → K ⟨List.toArray (u0 :: u1 :: u2 :: u3 :: u4 :: u5 :: u6 :: u7 :: v8 :: (.pointer (some ⟨gb, 0, none⟩)) :: (.pointer (some ⟨b, 0, none⟩)) :: u11 :: (.slice (some ⟨gl, 0, none⟩) D D) :: u13 :: u14 :: u15 :: v16 :: u17 :: u18 :: u19 :: u20 :: u21 :: u22 :: u23 :: u24 :: u25 :: u26 :: u27 :: u28 :: u29 :: u30 :: u31 :: u32 :: u33 :: u34 :: u35 :: u36 :: u37 :: u38 :: u39 :: u40 :: u41 :: u42 :: u43 :: u44 :: u45 :: u46 :: u47 :: u48 :: u49 :: u50 :: u51 :: u52 :: u53 :: u54 :: u55 :: u56 :: u57 :: u58 :: u59 :: u60 :: u61 :: u62 :: u63 :: u64 :: u65 :: u66 :: u67 :: u68 :: u69 :: u70 :: u71 :: u72 :: u73 :: u74 :: u75 :: u76 :: u77 :: u78 :: u79 :: (.slice (some ⟨gs, 0, none⟩) 2 2) :: (.int .i64 2) :: (.int .i64 (((j + 1) : Nat) : Int)) :: v83 :: v84 :: v85 :: v86 :: v87 :: v88 :: v89 :: v90 :: v91 :: v92 :: v93 :: v94 :: v95 :: v96 :: u97 :: u98 :: u99 :: u100 :: u101 :: u102 :: u103 :: u104 :: u105 :: u106 :: u107 :: u108 :: u109 :: u110 :: u111 :: u112 :: u113 :: u114 :: u115 :: u116 :: u117 :: u118 :: u119 :: u120 :: u121 :: u122 :: u123 :: u124 :: u125 :: u126 :: u127 :: u128 :: u129 :: u130 :: u131 :: []), []⟩ V)
    (hX : ∀ (v8 v16 v83 v84 v85 v86 v87 v88 v89 v90 v91 v92 v93 v94 v95 v96 : Value), (j = 2) → Q0 (.exit 2) ⟨List.toArray (u0 :: u1 :: u2 :: u3 :: u4 :: u5 :: u6 :: u7 :: v8 :: (.pointer (some ⟨gb, 0, none⟩)) :: (.pointer (some ⟨b, 0, none⟩)) :: u11 :: (.slice (some ⟨gl, 0, none⟩) D D) :: u13 :: u14 :: u15 :: v16 :: u17 :: u18 :: u19 :: u20 :: u21 :: u22 :: u23 :: u24 :: u25 :: u26 :: u27 :: u28 :: u29 :: u30 :: u31 :: u32 :: u33 :: u34 :: u35 :: u36 :: u37 :: u38 :: u39 :: u40 :: u41 :: u42 :: u43 :: u44 :: u45 :: u46 :: u47 :: u48 :: u49 :: u50 :: u51 :: u52 :: u53 :: u54 :: u55 :: u56 :: u57 :: u58 :: u59 :: u60 :: u61 :: u62 :: u63 :: u64 :: u65 :: u66 :: u67 :: u68 :: u69 :: u70 :: u71 :: u72 :: u73 :: u74 :: u75 :: u76 :: u77 :: u78 :: u79 :: (.slice (some ⟨gs, 0, none⟩) 2 2) :: (.int .i64 2) :: (.int .i64 ((j : Nat) : Int)) :: v83 :: v84 :: v85 :: v86 :: v87 :: v88 :: v89 :: v90 :: v91 :: v92 :: v93 :: v94 :: v95 :: v96 :: u97 :: u98 :: u99 :: u100 :: u101 :: u102 :: u103 :: u104 :: u105 :: u106 :: u107 :: u108 :: u109 :: u110 :: u111 :: u112 :: u113 :: u114 :: u115 :: u116 :: u117 :: u118 :: u119 :: u120 :: u121 :: u122 :: u123 :: u124 :: u125 :: u126 :: u127 :: u128 :: u129 :: u130 :: u131 :: []), []⟩ w) :
    Code.wp Try.prog (sub [1, 1, 1, 1, 1, 1, 1, 1, 1, 1, 1, 0, 1, 0, 0] codeRT) (Exit.then K Q0) ⟨List.toArray (u0 :: u1 :: u2 :: u3 :: u4 :: u5 :: u6 :: u7 :: u8 :: (.pointer (some ⟨gb, 0, none⟩)) :: (.pointer (some ⟨b, 0, none⟩)) :: u11 :: (.slice (some ⟨gl, 0, none⟩) D D) :: u13 :: u14 :: u15 :: u16 :: u17 :: u18 :: u19 :: u20 :: u21 :: u22 :: u23 :: u24 :: u25 :: u26 :: u27 :: u28 :: u29 :: u30 :: u31 :: u32 :: u33 :: u34 :: u35 :: u36 :: u37 :: u38 :: u39 :: u40 :: u41 :: u42 :: u43 :: u44 :: u45 :: u46 :: u47 :: u48 :: u49 :: u50 :: u51 :: u52 :: u53 :: u54 :: u55 :: u56 :: u57 :: u58 :: u59 :: u60 :: u61 :: u62 :: u63 :: u64 :: u65 :: u66 :: u67 :: u68 :: u69 :: u70 :: u71 :: u72 :: u73 :: u74 :: u75 :: u76 :: u77 :: u78 :: u79 :: (.slice (some ⟨gs, 0, none⟩) 2 2) :: (.int .i64 2) :: (.int .i64 ((j : Nat) : Int)) :: u83 :: u84 :: u85 :: u86 :: u87 :: u88 :: u89 :: u90 :: u91 :: u92 :: u93 :: u94 :: u95 :: u96 :: u97 :: u98 :: u99 :: u100 :: u101 :: u102 :: u103 :: u104 :: u105 :: u106 :: u107 :: u108 :: u109 :: u110 :: u111 :: u112 :: u113 :: u114 :: u115 :: u116 :: u117 :: u118 :: u119 :: u120 :: u121 :: u122 :: u123 :: u124 :: u125 :: u126 :: u127 :: u128 :: u129 :: u130 :: u131 :: []), []⟩ w := by
  have HK := Lib.hid hK
  have HX := Lib.hid hX
  clear hK hX
  conv => arg 2; whnf
  obtain ⟨hj, hk, ht⟩ := hI
  by_cases hlt : j < 2
  · have i0 : (0 : Int) ≤ (j : Int) := by omega
    have i1 : (j : Int) < 2 := by omega
    have hz := hx j hlt
    have hcl : w.cell? ⟨gs, j, none⟩ = some (.int .i64 ((zs j : Nat) : Int)) := by
      have h := (hk.kx.kp _ (List.mem_cons_of_mem _ hgs)).1
      rw [cell_of_row w gs j _ _ _ h]
      match j, hlt with
      | 0, _ => rfl
      | 1, _ => rfl
    have hlen := ht.len
    have hb6 := gOk_bd hc
    have hd16 := ht.done
    have hMn := ht.n
    obtain ⟨hh, h0⟩ := ht.rbh hc hfb hlt hz
    have CDk := ks_disk_fok hk lv (some ⟨gl, 0, none⟩) D D hlen.symm (hk.lv (g := gl) (lv := lv) (t := 4) (f := (0, 0)) (List.mem_cons_self ..) rfl (by omega)) (zs j) (G6 D c) (rg64_3 ⟨⟨by omega, by omega, by omega⟩, ⟨by omega, by omega, by omega⟩, by omega⟩) hh (fun i hi => by rw [(ht.f i (by omega)).2]; exact Nat.zero_le _) (by omega)
    rw [h0] at CDk
    dsimp only [G6] at CDk
    have Ht := Lib.hid (ht.next hc hfb hlt hz h01)
    dsimp only [G6] at Ht
    generalize zs j = z at hz hcl Ht CDk
    have z0 : (0 : Int) ≤ (z : Int) := by omega
    have z1 : (z : Int) < (D : Int) := by omega
    generalize (rbS M lv (z : Int) _).2 = M2 at Ht CDk
    have CDk := Lib.hid CDk
    obtain ⟨g1, g2, g3⟩ := hk.gat (g := gb) (l := 6) (d := (D : Int)) (c := c) (t := 25) (f := (0, 0)) (List.mem_cons_of_mem _ hgb)
    clear hk ht HX hh h0 hfb
    go_wp2_with fail
    (with_reducible refine CDk.out.mono ?_); rintro e w5 ⟨rfl, H5, k5⟩
    have K5 := Lib.hid k5
    clear k5 g1 g2 g3 CDk hcl
    have hblk := (K5.out.kx.kp _ (List.mem_cons_self ..)).1
    dsimp only at hblk
    obtain ⟨hc0, hf0, hb0, gg0⟩ := lv_setCell hblk (d := z) (by omega) true
    have K6 := Lib.hid (K5.out.putB gg0 hb0 hne)
    generalize lv.set z true = lv2 at K6 Ht
    clear hblk hb0 gg0 K5
    go_upto_region 25 with fail
    generalize w5.setCell ⟨gl, z, none⟩ (.bool true) = w6 at K6 ⊢
    clear hc0 hf0
    go_wp2_with fail
    exact HK.out _ _ _ _ _ _ _ _ _ _ _ _ _ _ _ _ H5 M2 lv2 _ ⟨by omega, K6.out, Ht.out⟩ (by omega)
  · have i1 : ¬ (j : Int) < 2 := by omega
    have Hin := Lib.hid (show j = 2 by omega)
    clear HK hk
    go_wp2_with fail
    exact HX.out _ _ _ _ _ _ _ _ _ _ _ _ _ _ _ _ Hin.out
set_option maxRecDepth 100000 in
set_option maxHeartbeats 3200000 in
theorem rtB {W0 : World} {b gl gs gb D : Nat} {c : Int} {N : Bch} {zs : Nat → Nat} {zl : List Int} {LK : List (Nat × Obj)} {H0 : BH} {M0 : Bch} {lv0 : List Bool} {w : World} (u0 u1 u2 u3 u4 u5 u6 u7 u8 u11 u13 u14 u15 u16 u17 u18 u19 u20 u21 u22 u23 u24 u25 u26 u27 u28 u29 u30 u31 u32 u33 u34 u35 u36 u37 u38 u39 u40 u41 u42 u43 u44 u45 u46 u47 u48 u49 u50 u51 u52 u53 u54 u55 u56 u57 u58 u59 u60 u61 u62 u63 u64 u65 u66 u67 u68 u69 u70 u71 u72 u73 u74 u75 u76 u77 u78 u79 u83 u84 u85 u86 u87 u88 u89 u90 u91 u92 u93 u94 u95 u96 u97 u98 u99 u100 u101 u102 u103 u104 u105 u106 u107 u108 u109 u110 u111 u112 u113 u114 u115 u116 u117 u118 u119 u120 u121 u122 u123 u124 u125 u126 u127 u128 u129 u130 u131 : Value) (Q : Exit → Act → World → Prop) (hD8 : D ≤ 8) (hc : gOk 6 (D : Int) c = true) (hfb : Fb N D (rowG (G6 D c) zl) 16 0) (hx : ∀ j, j < 2 → zs j < D) (h01 : zs 0 ≠ zs 1) (hgs : (gs, Obj.cells #[.int .i64 ((zs 0 : Nat) : Int), .int .i64 ((zs 1 : Nat) : Int)] 3 (0, 0)) ∈ LK) (hgb : (gb, Obj.cells #[.int .i64 6, .int .i64 (D : Int), .int .i64 c] 25 (0, 0)) ∈ LK) (hne : ∀ r ∈ LK, r.1 ≠ gl) (hI : (0 ≤ 2 ∧ KS W0 w b H0 M0 ((gl, Obj.cells (lv0.map Value.bool).toArray 4 (0, 0)) :: LK) [] [] ∧ T2 N M0 lv0 D zs 0))
    (hX : ∀ (v8 v16 v83 v84 v85 v86 v87 v88 v89 v90 v91 v92 v93 v94 v95 v96 : Value) (j : Nat) (H : BH) (M : Bch) (lv : List Bool) (V : World), (j ≤ 2 ∧ KS W0 V b H M ((gl, Obj.cells (lv.map Value.bool).toArray 4 (0, 0)) :: LK) [] [] ∧ T2 N M lv D zs j) → (j = 2) → Q (.exit 2) ⟨List.toArray (u0 :: u1 :: u2 :: u3 :: u4 :: u5 :: u6 :: u7 :: v8 :: (.pointer (some ⟨gb, 0, none⟩)) :: (.pointer (some ⟨b, 0, none⟩)) :: u11 :: (.slice (some ⟨gl, 0, none⟩) D D) :: u13 :: u14 :: u15 :: v16 :: u17 :: u18 :: u19 :: u20 :: u21 :: u22 :: u23 :: u24 :: u25 :: u26 :: u27 :: u28 :: u29 :: u30 :: u31 :: u32 :: u33 :: u34 :: u35 :: u36 :: u37 :: u38 :: u39 :: u40 :: u41 :: u42 :: u43 :: u44 :: u45 :: u46 :: u47 :: u48 :: u49 :: u50 :: u51 :: u52 :: u53 :: u54 :: u55 :: u56 :: u57 :: u58 :: u59 :: u60 :: u61 :: u62 :: u63 :: u64 :: u65 :: u66 :: u67 :: u68 :: u69 :: u70 :: u71 :: u72 :: u73 :: u74 :: u75 :: u76 :: u77 :: u78 :: u79 :: (.slice (some ⟨gs, 0, none⟩) 2 2) :: (.int .i64 2) :: (.int .i64 ((j : Nat) : Int)) :: v83 :: v84 :: v85 :: v86 :: v87 :: v88 :: v89 :: v90 :: v91 :: v92 :: v93 :: v94 :: v95 :: v96 :: u97 :: u98 :: u99 :: u100 :: u101 :: u102 :: u103 :: u104 :: u105 :: u106 :: u107 :: u108 :: u109 :: u110 :: u111 :: u112 :: u113 :: u114 :: u115 :: u116 :: u117 :: u118 :: u119 :: u120 :: u121 :: u122 :: u123 :: u124 :: u125 :: u126 :: u127 :: u128 :: u129 :: u130 :: u131 :: []), []⟩ V) :
    Code.wp Try.prog (.loop (sub [1, 1, 1, 1, 1, 1, 1, 1, 1, 1, 1, 0, 1, 0, 0] codeRT)) Q ⟨List.toArray (u0 :: u1 :: u2 :: u3 :: u4 :: u5 :: u6 :: u7 :: u8 :: (.pointer (some ⟨gb, 0, none⟩)) :: (.pointer (some ⟨b, 0, none⟩)) :: u11 :: (.slice (some ⟨gl, 0, none⟩) D D) :: u13 :: u14 :: u15 :: u16 :: u17 :: u18 :: u19 :: u20 :: u21 :: u22 :: u23 :: u24 :: u25 :: u26 :: u27 :: u28 :: u29 :: u30 :: u31 :: u32 :: u33 :: u34 :: u35 :: u36 :: u37 :: u38 :: u39 :: u40 :: u41 :: u42 :: u43 :: u44 :: u45 :: u46 :: u47 :: u48 :: u49 :: u50 :: u51 :: u52 :: u53 :: u54 :: u55 :: u56 :: u57 :: u58 :: u59 :: u60 :: u61 :: u62 :: u63 :: u64 :: u65 :: u66 :: u67 :: u68 :: u69 :: u70 :: u71 :: u72 :: u73 :: u74 :: u75 :: u76 :: u77 :: u78 :: u79 :: (.slice (some ⟨gs, 0, none⟩) 2 2) :: (.int .i64 2) :: (.int .i64 ((0 : Nat) : Int)) :: u83 :: u84 :: u85 :: u86 :: u87 :: u88 :: u89 :: u90 :: u91 :: u92 :: u93 :: u94 :: u95 :: u96 :: u97 :: u98 :: u99 :: u100 :: u101 :: u102 :: u103 :: u104 :: u105 :: u106 :: u107 :: u108 :: u109 :: u110 :: u111 :: u112 :: u113 :: u114 :: u115 :: u116 :: u117 :: u118 :: u119 :: u120 :: u121 :: u122 :: u123 :: u124 :: u125 :: u126 :: u127 :: u128 :: u129 :: u130 :: u131 :: []), []⟩ w := by
  refine wp_loop_ghost (fun gk a V => ∀ C : Prop, (∀ (u8 u16 u83 u84 u85 u86 u87 u88 u89 u90 u91 u92 u93 u94 u95 u96 : Value) (j : Nat) (H : BH) (M : Bch) (lv : List Bool), gk = 2 - j → (j ≤ 2 ∧ KS W0 V b H M ((gl, Obj.cells (lv.map Value.bool).toArray 4 (0, 0)) :: LK) [] [] ∧ T2 N M lv D zs j) → a = ⟨List.toArray (u0 :: u1 :: u2 :: u3 :: u4 :: u5 :: u6 :: u7 :: u8 :: (.pointer (some ⟨gb, 0, none⟩)) :: (.pointer (some ⟨b, 0, none⟩)) :: u11 :: (.slice (some ⟨gl, 0, none⟩) D D) :: u13 :: u14 :: u15 :: u16 :: u17 :: u18 :: u19 :: u20 :: u21 :: u22 :: u23 :: u24 :: u25 :: u26 :: u27 :: u28 :: u29 :: u30 :: u31 :: u32 :: u33 :: u34 :: u35 :: u36 :: u37 :: u38 :: u39 :: u40 :: u41 :: u42 :: u43 :: u44 :: u45 :: u46 :: u47 :: u48 :: u49 :: u50 :: u51 :: u52 :: u53 :: u54 :: u55 :: u56 :: u57 :: u58 :: u59 :: u60 :: u61 :: u62 :: u63 :: u64 :: u65 :: u66 :: u67 :: u68 :: u69 :: u70 :: u71 :: u72 :: u73 :: u74 :: u75 :: u76 :: u77 :: u78 :: u79 :: (.slice (some ⟨gs, 0, none⟩) 2 2) :: (.int .i64 2) :: (.int .i64 ((j : Nat) : Int)) :: u83 :: u84 :: u85 :: u86 :: u87 :: u88 :: u89 :: u90 :: u91 :: u92 :: u93 :: u94 :: u95 :: u96 :: u97 :: u98 :: u99 :: u100 :: u101 :: u102 :: u103 :: u104 :: u105 :: u106 :: u107 :: u108 :: u109 :: u110 :: u111 :: u112 :: u113 :: u114 :: u115 :: u116 :: u117 :: u118 :: u119 :: u120 :: u121 :: u122 :: u123 :: u124 :: u125 :: u126 :: u127 :: u128 :: u129 :: u130 :: u131 :: []), []⟩ → C) → C) (2 - 0) ?_ ?_
  · intro C hC
    exact hC _ _ _ _ _ _ _ _ _ _ _ _ _ _ _ _ (0) (H0) (M0) (lv0) rfl hI rfl
  · intro gk a V hI'
    refine hI' _ ?_
    intro u8 u16 u83 u84 u85 u86 u87 u88 u89 u90 u91 u92 u93 u94 u95 u96 j H M lv hk hinv ha
    subst ha
    subst hk
    refine rtBb _ _ _ _ _ _ _ _ _ _ _ _ _ _ _ _ _ _ _ _ _ _ _ _ _ _ _ _ _ _ _ _ _ _ _ _ _ _ _ _ _ _ _ _ _ _ _ _ _ _ _ _ _ _ _ _ _ _ _ _ _ _ _ _ _ _ _ _ _ _ _ _ _ _ _ _ _ _ _ _ _ _ _ _ _ _ _ _ _ _ _ _ _ _ _ _ _ _ _ _ _ _ _ _ _ _ _ _ _ _ _ _ _ _ _ _ _ _ _ _ _ _ _ _ _ _ _ _ hD8 hc hfb hx h01 hgs hgb hne hinv (fun v8 v16 v83 v84 v85 v86 v87 v88 v89 v90 v91 v92 v93 v94 v95 v96 H2 M2 lv2 V2 h2 hm => ?_) (fun v8 v16 v83 v84 v85 v86 v87 v88 v89 v90 v91 v92 v93 v94 v95 v96 hx => hX v8 v16 v83 v84 v85 v86 v87 v88 v89 v90 v91 v92 v93 v94 v95 v96 j H M lv V hinv hx)
    refine ⟨_, hm, fun C hC => ?_⟩
    exact hC v8 v16 v83 v84 v85 v86 v87 v88 v89 v90 v91 v92 v93 v94 v95 v96 ((j + 1)) (H2) (M2) (lv2) rfl h2 rfl
set_option maxRecDepth 100000 in
set_option maxHeartbeats 3200000 in
theorem rtDb {W0 : World} {b b2 d : Nat} {H H2 : BH} {M N : Bch} {LK : List (Nat × Obj)} {r : Nat} {w : World} (u0 u1 u2 u3 u4 u5 u6 u7 u8 u9 u12 u13 u14 u15 u16 u19 u20 u21 u22 u23 u24 u25 u26 u27 u28 u29 u30 u31 u32 u33 u34 u35 u36 u37 u38 u39 u40 u41 u42 u43 u44 u45 u46 u47 u48 u49 u50 u51 u52 u53 u54 u55 u56 u57 u58 u59 u60 u61 u62 u63 u64 u65 u66 u67 u68 u69 u70 u71 u72 u73 u74 u75 u76 u77 u78 u79 u80 u81 u82 u83 u84 u85 u86 u87 u88 u89 u90 u91 u92 u93 u94 u95 u96 u97 u98 u99 u100 u101 u102 u103 u104 u105 u106 u107 u108 u109 u110 u111 u112 u113 u114 u115 u116 u117 u118 u119 u120 u121 u122 u123 u124 u125 u126 u127 u128 u129 u130 u131 : Value) (K : Act → World → Prop) (Q0 : Exit → Act → World → Prop) (hd8 : d ≤ 8) (hdM : d < M.n) (hdN : d < N.n) (hMd : M.down = false) (hNd : N.down = false) (hMf : (M.D d).f = false) (hNf : (N.D d).f = false) (h32 : ∀ r, r < 16 → (secAt (N.D d).now (36 + r)).length = 32) (hsame : ∀ r, r < 16 → secAt (M.D d).now (36 + r) = secAt (N.D d).now (36 + r)) (hwas : ∀ V : World, (∀ p ∈ LK, V.heap[p.1]? = some p.2) → BAt V W0.heap.size b2 H2 N) (hI : (r ≤ 16 ∧ KS W0 w b H M LK [] []))
    (hK : ∀ (v8 v19 v20 v21 v22 v103 v104 v105 v106 v107 v108 v109 v110 v111 v112 v113 v114 v115 v116 v117 v118 v119 v120 v121 v122 v123 v124 v125 v126 : Value)  (V : World), ((r + 1) ≤ 16 ∧ KS W0 V b H M LK [] []) → 16 - (r + 1) < 16 - r → K ⟨List.toArray (u0 :: u1 :: u2 :: u3 :: u4 :: u5 :: u6 :: u7 :: v8 :: u9 :: (.pointer (some ⟨b, 0, none⟩)) :: (.pointer (some ⟨b2, 0, none⟩)) :: u12 :: u13 :: u14 :: u15 :: u16 :: (.int .i64 (d : Int)) :: (.int .i64 (((r + 1) : Nat) : Int)) :: v19 :: v20 :: v21 :: v22 :: u23 :: u24 :: u25 :: u26 :: u27 :: u28 :: u29 :: u30 :: u31 :: u32 :: u33 :: u34 :: u35 :: u36 :: u37 :: u38 :: u39 :: u40 :: u41 :: u42 :: u43 :: u44 :: u45 :: u46 :: u47 :: u48 :: u49 :: u50 :: u51 :: u52 :: u53 :: u54 :: u55 :: u56 :: u57 :: u58 :: u59 :: u60 :: u61 :: u62 :: u63 :: u64 :: u65 :: u66 :: u67 :: u68 :: u69 :: u70 :: u71 :: u72 :: u73 :: u74 :: u75 :: u76 :: u77 :: u78 :: u79 :: u80 :: u81 :: u82 :: u83 :: u84 :: u85 :: u86 :: u87 :: u88 :: u89 :: u90 :: u91 :: u92 :: u93 :: u94 :: u95 :: u96 :: u97 :: u98 :: u99 :: u100 :: u101 :: u102 :: v103 :: v104 :: v105 :: v106 :: v107 :: v108 :: v109 :: v110 :: v111 :: v112 :: v113 :: v114 :: v115 :: v116 :: v117 :: v118 :: v119 :: v120 :: v121 :: v122 :: v123 :: v124 :: v125 :: v126 :: u127 :: u128 :: u129 :: u130 :: u131 :: []), []⟩ V)
    (hX : ∀ (v8 v19 v20 v21 v22 v103 v104 v105 v106 v107 v108 v109 v110 v111 v112 v113 v114 v115 v116 v117 v118 v119 v120 v121 v122 v123 v124 v125 v126 : Value), (r = 16) → Q0 (.exit 6) ⟨List.toArray (u0 :: u1 :: u2 :: u3 :: u4 :: u5 :: u6 :: u7 :: v8 :: u9 :: (.pointer (some ⟨b, 0, none⟩)) :: (.pointer (some ⟨b2, 0, none⟩)) :: u12 :: u13 :: u14 :: u15 :: u16 :: (.int .i64 (d : Int)) :: (.int .i64 ((r : Nat) : Int)) :: v19 :: v20 :: v21 :: v22 :: u23 :: u24 :: u25 :: u26 :: u27 :: u28 :: u29 :: u30 :: u31 :: u32 :: u33 :: u34 :: u35 :: u36 :: u37 :: u38 :: u39 :: u40 :: u41 :: u42 :: u43 :: u44 :: u45 :: u46 :: u47 :: u48 :: u49 :: u50 :: u51 :: u52 :: u53 :: u54 :: u55 :: u56 :: u57 :: u58 :: u59 :: u60 :: u61 :: u62 :: u63 :: u64 :: u65 :: u66 :: u67 :: u68 :: u69 :: u70 :: u71 :: u72 :: u73 :: u74 :: u75 :: u76 :: u77 :: u78 :: u79 :: u80 :: u81 :: u82 :: u83 :: u84 :: u85 :: u86 :: u87 :: u88 :: u89 :: u90 :: u91 :: u92 :: u93 :: u94 :: u95 :: u96 :: u97 :: u98 :: u99 :: u100 :: u101 :: u102 :: v103 :: v104 :: v105 :: v106 :: v107 :: v108 :: v109 :: v110 :: v111 :: v112 :: v113 :: v114 :: v115 :: v116 :: v117 :: v118 :: v119 :: v120 :: v121 :: v122 :: v123 :: v124 :: v125 :: v126 :: u127 :: u128 :: u129 :: u130 :: u131 :: []), []⟩ w) :
    Code.wp Try.prog (sub [1, 1, 1, 1, 1, 1, 1, 1, 1, 1, 1, 1, 0, 1, 0, 0, 1, 0, 0, 1, 0, 0] codeRT) (Exit.then K Q0) ⟨List.toArray (u0 :: u1 :: u2 :: u3 :: u4 :: u5 :: u6 :: u7 :: u8 :: u9 :: (.pointer (some ⟨b, 0, none⟩)) :: (.pointer (some ⟨b2, 0, none⟩)) :: u12 :: u13 :: u14 :: u15 :: u16 :: (.int .i64 (d : Int)) :: (.int .i64 ((r : Nat) : Int)) :: u19 :: u20 :: u21 :: u22 :: u23 :: u24 :: u25 :: u26 :: u27 :: u28 :: u29 :: u30 :: u31 :: u32 :: u33 :: u34 :: u35 :: u36 :: u37 :: u38 :: u39 :: u40 :: u41 :: u42 :: u43 :: u44 :: u45 :: u46 :: u47 :: u48 :: u49 :: u50 :: u51 :: u52 :: u53 :: u54 :: u55 :: u56 :: u57 :: u58 :: u59 :: u60 :: u61 :: u62 :: u63 :: u64 :: u65 :: u66 :: u67 :: u68 :: u69 :: u70 :: u71 :: u72 :: u73 :: u74 :: u75 :: u76 :: u77 :: u78 :: u79 :: u80 :: u81 :: u82 :: u83 :: u84 :: u85 :: u86 :: u87 :: u88 :: u89 :: u90 :: u91 :: u92 :: u93 :: u94 :: u95 :: u96 :: u97 :: u98 :: u99 :: u100 :: u101 :: u102 :: u103 :: u104 :: u105 :: u106 :: u107 :: u108 :: u109 :: u110 :: u111 :: u112 :: u113 :: u114 :: u115 :: u116 :: u117 :: u118 :: u119 :: u120 :: u121 :: u122 :: u123 :: u124 :: u125 :: u126 :: u127 :: u128 :: u129 :: u130 :: u131 :: []), []⟩ w := by
  have HK := Lib.hid hK
  have HX := Lib.hid hX
  clear hK hX
  conv => arg 2; whnf
  obtain ⟨hr, hk⟩ := hI
  by_cases hlt : r < 16
  · have i0 : (0 : Int) ≤ (r : Int) := by omega
    have i1 : (r : Int) < 16 := by omega
    have j0 : (0 : Int) ≤ (d : Int) := by omega
    have hro := Bch.read_ok (N := M) (d := d) (k := 36 + r) hdM (by omega) hMf hMd
    have hro2 := Bch.read_ok (N := N) (d := d) (k := 36 + r) hdN (by omega) hNf hNd
    rw [show ((36 + r : Nat) : Int) = 36 + (r : Int) by omega] at hro hro2
    rw [hsame r hlt] at hro
    have CR := bp_read W0 w b H M hk.bp (d : Int) (36 + (r : Int)) ⟨by omega, by omega⟩ ⟨by omega, by omega⟩
    rw [hro.1, hro.2] at CR
    have CR := Lib.hid CR
    have CRw := (fun V (k : KS W0 V b H M LK [] []) => bch_read_any W0.heap.size b2 H2 N V (hwas V fun p hp => (k.kx.kp p hp).1) (d : Int) (36 + (r : Int)) ⟨by omega, by omega⟩ ⟨by omega, by omega⟩)
    simp only [hro2.1, hro2.2] at CRw
    unfold ptr at CRw
    have CRw := Lib.hid CRw
    have hy32 := h32 r hlt
    generalize secAt (N.D d).now (36 + r) = y at CR CRw hy32
    have Hk := Lib.hid hk
    clear hk HX h32 hsame hwas hro hro2
    go_wp2_with fail
    (with_reducible refine CR.out.mono ?_); rintro e w1 ⟨v, rfl, hy, hb1⟩
    obtain ⟨Ay, cy, rfl, _, _⟩ := hy.rd
    have hyr := hy.rdS.1
    rw [hy32]
    have K1 := Lib.hid (Hk.out.below hb1)
    have CW := Lib.hid (CRw.out _ K1.out)
    clear CR CRw hy hb1 Hk
    go_wp2_with fail
    (with_reducible refine CW.out.mono ?_); rintro e w2 ⟨v, rfl, hz, hb2⟩
    obtain ⟨Az, cz, rfl, _, _⟩ := hz.rd
    have hzr := hz.rdS.1
    rw [hy32]
    have CS := Lib.hid (sameT_any (c := cy) (c' := cz) hy32.symm hy32.symm ((hyr.below hb2 (Nat.le_refl _)).more hb2.size) hzr)
    have K2 := Lib.hid (K1.out.below hb2)
    clear CW hyr hzr hz hb2 K1
    go_wp2_with fail
    (with_reducible refine CS.out.mono ?_); rintro e w4 ⟨rfl, m, rfl⟩
    go_wp2_with fail
    exact HK.out _ _ _ _ _ _ _ _ _ _ _ _ _ _ _ _ _ _ _ _ _ _ _ _ _ _ _ _ _ _ ⟨by omega, K2.out.below (belowN _ _ m)⟩ (by omega)
  · have i1 : ¬ (r : Int) < 16 := by omega
    have Hin := Lib.hid (show r = 16 by omega)
    clear HK hk
    go_wp2_with fail
    exact HX.out _ _ _ _ _ _ _ _ _ _ _ _ _ _ _ _ _ _ _ _ _ _ _ _ _ _ _ _ _ Hin.out
set_option maxRecDepth 100000 in
set_option maxHeartbeats 3200000 in
theorem rtD {W0 : World} {b b2 d : Nat} {H H2 : BH} {M N : Bch} {LK : List (Nat × Obj)}  {w : World} (u0 u1 u2 u3 u4 u5 u6 u7 u8 u9 u12 u13 u14 u15 u16 u19 u20 u21 u22 u23 u24 u25 u26 u27 u28 u29 u30 u31 u32 u33 u34 u35 u36 u37 u38 u39 u40 u41 u42 u43 u44 u45 u46 u47 u48 u49 u50 u51 u52 u53 u54 u55 u56 u57 u58 u59 u60 u61 u62 u63 u64 u65 u66 u67 u68 u69 u70 u71 u72 u73 u74 u75 u76 u77 u78 u79 u80 u81 u82 u83 u84 u85 u86 u87 u88 u89 u90 u91 u92 u93 u94 u95 u96 u97 u98 u99 u100 u101 u102 u103 u104 u105 u106 u107 u108 u109 u110 u111 u112 u113 u114 u115 u116 u117 u118 u119 u120 u121 u122 u123 u124 u125 u126 u127 u128 u129 u130 u131 : Value) (Q : Exit → Act → World → Prop) (hd8 : d ≤ 8) (hdM : d < M.n) (hdN : d < N.n) (hMd : M.down = false) (hNd : N.down = false) (hMf : (M.D d).f = false) (hNf : (N.D d).f = false) (h32 : ∀ r, r < 16 → (secAt (N.D d).now (36 + r)).length = 32) (hsame : ∀ r, r < 16 → secAt (M.D d).now (36 + r) = secAt (N.D d).now (36 + r)) (hwas : ∀ V : World, (∀ p ∈ LK, V.heap[p.1]? = some p.2) → BAt V W0.heap.size b2 H2 N) (hI : (0 ≤ 16 ∧ KS W0 w b H M LK [] []))
    (hX : ∀ (v8 v19 v20 v21 v22 v103 v104 v105 v106 v107 v108 v109 v110 v111 v112 v113 v114 v115 v116 v117 v118 v119 v120 v121 v122 v123 v124 v125 v126 : Value) (r : Nat) (V : World), (r ≤ 16 ∧ KS W0 V b H M LK [] []) → (r = 16) → Q (.exit 6) ⟨List.toArray (u0 :: u1 :: u2 :: u3 :: u4 :: u5 :: u6 :: u7 :: v8 :: u9 :: (.pointer (some ⟨b, 0, none⟩)) :: (.pointer (some ⟨b2, 0, none⟩)) :: u12 :: u13 :: u14 :: u15 :: u16 :: (.int .i64 (d : Int)) :: (.int .i64 ((r : Nat) : Int)) :: v19 :: v20 :: v21 :: v22 :: u23 :: u24 :: u25 :: u26 :: u27 :: u28 :: u29 :: u30 :: u31 :: u32 :: u33 :: u34 :: u35 :: u36 :: u37 :: u38 :: u39 :: u40 :: u41 :: u42 :: u43 :: u44 :: u45 :: u46 :: u47 :: u48 :: u49 :: u50 :: u51 :: u52 :: u53 :: u54 :: u55 :: u56 :: u57 :: u58 :: u59 :: u60 :: u61 :: u62 :: u63 :: u64 :: u65 :: u66 :: u67 :: u68 :: u69 :: u70 :: u71 :: u72 :: u73 :: u74 :: u75 :: u76 :: u77 :: u78 :: u79 :: u80 :: u81 :: u82 :: u83 :: u84 :: u85 :: u86 :: u87 :: u88 :: u89 :: u90 :: u91 :: u92 :: u93 :: u94 :: u95 :: u96 :: u97 :: u98 :: u99 :: u100 :: u101 :: u102 :: v103 :: v104 :: v105 :: v106 :: v107 :: v108 :: v109 :: v110 :: v111 :: v112 :: v113 :: v114 :: v115 :: v116 :: v117 :: v118 :: v119 :: v120 :: v121 :: v122 :: v123 :: v124 :: v125 :: v126 :: u127 :: u128 :: u129 :: u130 :: u131 :: []), []⟩ V) :
    Code.wp Try.prog (.loop (sub [1, 1, 1, 1, 1, 1, 1, 1, 1, 1, 1, 1, 0, 1, 0, 0, 1, 0, 0, 1, 0, 0] codeRT)) Q ⟨List.toArray (u0 :: u1 :: u2 :: u3 :: u4 :: u5 :: u6 :: u7 :: u8 :: u9 :: (.pointer (some ⟨b, 0, none⟩)) :: (.pointer (some ⟨b2, 0, none⟩)) :: u12 :: u13 :: u14 :: u15 :: u16 :: (.int .i64 (d : Int)) :: (.int .i64 ((0 : Nat) : Int)) :: u19 :: u20 :: u21 :: u22 :: u23 :: u24 :: u25 :: u26 :: u27 :: u28 :: u29 :: u30 :: u31 :: u32 :: u33 :: u34 :: u35 :: u36 :: u37 :: u38 :: u39 :: u40 :: u41 :: u42 :: u43 :: u44 :: u45 :: u46 :: u47 :: u48 :: u49 :: u50 :: u51 :: u52 :: u53 :: u54 :: u55 :: u56 :: u57 :: u58 :: u59 :: u60 :: u61 :: u62 :: u63 :: u64 :: u65 :: u66 :: u67 :: u68 :: u69 :: u70 :: u71 :: u72 :: u73 :: u74 :: u75 :: u76 :: u77 :: u78 :: u79 :: u80 :: u81 :: u82 :: u83 :: u84 :: u85 :: u86 :: u87 :: u88 :: u89 :: u90 :: u91 :: u92 :: u93 :: u94 :: u95 :: u96 :: u97 :: u98 :: u99 :: u100 :: u101 :: u102 :: u103 :: u104 :: u105 :: u106 :: u107 :: u108 :: u109 :: u110 :: u111 :: u112 :: u113 :: u114 :: u115 :: u116 :: u117 :: u118 :: u119 :: u120 :: u121 :: u122 :: u123 :: u124 :: u125 :: u126 :: u127 :: u128 :: u129 :: u130 :: u131 :: []), []⟩ w := by
  refine wp_loop_ghost (fun gk a V => ∀ C : Prop, (∀ (u8 u19 u20 u21 u22 u103 u104 u105 u106 u107 u108 u109 u110 u111 u112 u113 u114 u115 u116 u117 u118 u119 u120 u121 u122 u123 u124 u125 u126 : Value) (r : Nat), gk = 16 - r → (r ≤ 16 ∧ KS W0 V b H M LK [] []) → a = ⟨List.toArray (u0 :: u1 :: u2 :: u3 :: u4 :: u5 :: u6 :: u7 :: u8 :: u9 :: (.pointer (some ⟨b, 0, none⟩)) :: (.pointer (some ⟨b2, 0, none⟩)) :: u12 :: u13 :: u14 :: u15 :: u16 :: (.int .i64 (d : Int)) :: (.int .i64 ((r : Nat) : Int)) :: u19 :: u20 :: u21 :: u22 :: u23 :: u24 :: u25 :: u26 :: u27 :: u28 :: u29 :: u30 :: u31 :: u32 :: u33 :: u34 :: u35 :: u36 :: u37 :: u38 :: u39 :: u40 :: u41 :: u42 :: u43 :: u44 :: u45 :: u46 :: u47 :: u48 :: u49 :: u50 :: u51 :: u52 :: u53 :: u54 :: u55 :: u56 :: u57 :: u58 :: u59 :: u60 :: u61 :: u62 :: u63 :: u64 :: u65 :: u66 :: u67 :: u68 :: u69 :: u70 :: u71 :: u72 :: u73 :: u74 :: u75 :: u76 :: u77 :: u78 :: u79 :: u80 :: u81 :: u82 :: u83 :: u84 :: u85 :: u86 :: u87 :: u88 :: u89 :: u90 :: u91 :: u92 :: u93 :: u94 :: u95 :: u96 :: u97 :: u98 :: u99 :: u100 :: u101 :: u102 :: u103 :: u104 :: u105 :: u106 :: u107 :: u108 :: u109 :: u110 :: u111 :: u112 :: u113 :: u114 :: u115 :: u116 :: u117 :: u118 :: u119 :: u120 :: u121 :: u122 :: u123 :: u124 :: u125 :: u126 :: u127 :: u128 :: u129 :: u130 :: u131 :: []), []⟩ → C) → C) (16 - 0) ?_ ?_
  · intro C hC
    exact hC _ _ _ _ _ _ _ _ _ _ _ _ _ _ _ _ _ _ _ _ _ _ _ _ _ _ _ _ _ (0) rfl hI rfl
  · intro gk a V hI'
    refine hI' _ ?_
    intro u8 u19 u20 u21 u22 u103 u104 u105 u106 u107 u108 u109 u110 u111 u112 u113 u114 u115 u116 u117 u118 u119 u120 u121 u122 u123 u124 u125 u126 r hk hinv ha
    subst ha
    subst hk
    refine rtDb _ _ _ _ _ _ _ _ _ _ _ _ _ _ _ _ _ _ _ _ _ _ _ _ _ _ _ _ _ _ _ _ _ _ _ _ _ _ _ _ _ _ _ _ _ _ _ _ _ _ _ _ _ _ _ _ _ _ _ _ _ _ _ _ _ _ _ _ _ _ _ _ _ _ _ _ _ _ _ _ _ _ _ _ _ _ _ _ _ _ _ _ _ _ _ _ _ _ _ _ _ _ _ _ _ _ _ _ _ _ _ _ _ _ _ _ _ _ _ _ _ _ _ _ _ _ _ _ _ _ hd8 hdM hdN hMd hNd hMf hNf h32 hsame hwas hinv (fun v8 v19 v20 v21 v22 v103 v104 v105 v106 v107 v108 v109 v110 v111 v112 v113 v114 v115 v116 v117 v118 v119 v120 v121 v122 v123 v124 v125 v126  V2 h2 hm => ?_) (fun v8 v19 v20 v21 v22 v103 v104 v105 v106 v107 v108 v109 v110 v111 v112 v113 v114 v115 v116 v117 v118 v119 v120 v121 v122 v123 v124 v125 v126 hx => hX v8 v19 v20 v21 v22 v103 v104 v105 v106 v107 v108 v109 v110 v111 v112 v113 v114 v115 v116 v117 v118 v119 v120 v121 v122 v123 v124 v125 v126 r V hinv hx)
    refine ⟨_, hm, fun C hC => ?_⟩
    exact hC v8 v19 v20 v21 v22 v103 v104 v105 v106 v107 v108 v109 v110 v111 v112 v113 v114 v115 v116 v117 v118 v119 v120 v121 v122 v123 v124 v125 v126 ((r + 1)) rfl h2 rfl
set_option maxRecDepth 100000 in
set_option maxHeartbeats 3200000 in
theorem rtCb {W0 : World} {b b2 gb D : Nat} {c : Int} {H H2 : BH} {M N : Bch} {LK : List (Nat × Obj)} {d : Nat} {w : World} (u0 u1 u2 u3 u4 u5 u6 u7 u8 u12 u13 u14 u15 u16 u18 u19 u20 u21 u22 u23 u24 u25 u26 u27 u28 u29 u30 u31 u32 u33 u34 u35 u36 u37 u38 u39 u40 u41 u42 u43 u44 u45 u46 u47 u48 u49 u50 u51 u52 u53 u54 u55 u56 u57 u58 u59 u60 u61 u62 u63 u64 u65 u66 u67 u68 u69 u70 u71 u72 u73 u74 u75 u76 u77 u78 u79 u80 u81 u82 u83 u84 u85 u86 u87 u88 u89 u90 u91 u92 u93 u94 u95 u96 u97 u98 u99 u100 u101 u102 u103 u104 u105 u106 u107 u108 u109 u110 u111 u112 u113 u114 u115 u116 u117 u118 u119 u120 u121 u122 u123 u124 u125 u126 u127 u128 u129 u130 u131 : Value) (K : Act → World → Prop) (Q0 : Exit → Act → World → Prop) (hD8 : D ≤ 8) (hgb : (gb, Obj.cells #[.int .i64 6, .int .i64 (D : Int), .int .i64 c] 25 (0, 0)) ∈ LK) (hMn : M.n = D) (hNn : N.n = D) (hMd : M.down = false) (hNd : N.down = false) (hMf : ∀ d, d < D → (M.D d).f = false) (hNf : ∀ d, d < D → (N.D d).f = false) (h32 : ∀ d, d < D → ∀ r, r < 16 → (secAt (N.D d).now (36 + r)).length = 32) (hsame : ∀ d, d < D → ∀ r, r < 16 → secAt (M.D d).now (36 + r) = secAt (N.D d).now (36 + r)) (hwas : ∀ V : World, (∀ p ∈ LK, V.heap[p.1]? = some p.2) → BAt V W0.heap.size b2 H2 N) (hI : (d ≤ D ∧ KS W0 w b H M LK [] []))
    (hK : ∀ (v8 v18 v19 v20 v21 v22 v97 v98 v99 v100 v101 v102 v103 v104 v105 v106 v107 v108 v109 v110 v111 v112 v113 v114 v115 v116 v117 v118 v119 v120 v121 v122 v123 v124 v125 v126 : Value)  (V : World), ((d + 1) ≤ D ∧ KS W0 V b H M LK [] []) → D - (d + 1) < D - d → K ⟨List.toArray (u0 :: u1 :: u2 :: u3 :: u4 :: u5 :: u6 :: u7 :: v8 :: (.pointer (some ⟨gb, 0, none⟩)) :: (.pointer (some ⟨b, 0, none⟩)) :: (.pointer (some ⟨b2, 0, none⟩)) :: u12 :: u13 :: u14 :: u15 :: u16 :: (.int .i64 (((d + 1) : Nat) : Int)) :: v18 :: v19 :: v20 :: v21 :: v22 :: u23 :: u24 :: u25 :: u26 :: u27 :: u28 :: u29 :: u30 :: u31 :: u32 :: u33 :: u34 :: u35 :: u36 :: u37 :: u38 :: u39 :: u40 :: u41 :: u42 :: u43 :: u44 :: u45 :: u46 :: u47 :: u48 :: u49 :: u50 :: u51 :: u52 :: u53 :: u54 :: u55 :: u56 :: u57 :: u58 :: u59 :: u60 :: u61 :: u62 :: u63 :: u64 :: u65 :: u66 :: u67 :: u68 :: u69 :: u70 :: u71 :: u72 :: u73 :: u74 :: u75 :: u76 :: u77 :: u78 :: u79 :: u80 :: u81 :: u82 :: u83 :: u84 :: u85 :: u86 :: u87 :: u88 :: u89 :: u90 :: u91 :: u92 :: u93 :: u94 :: u95 :: u96 :: v97 :: v98 :: v99 :: v100 :: v101 :: v102 :: v103 :: v104 :: v105 :: v106 :: v107 :: v108 :: v109 :: v110 :: v111 :: v112 :: v113 :: v114 :: v115 :: v116 :: v117 :: v118 :: v119 :: v120 :: v121 :: v122 :: v123 :: v124 :: v125 :: v126 :: u127 :: u128 :: u129 :: u130 :: u131 :: []), []⟩ V)
    (hX : ∀ (v8 v18 v19 v20 v21 v22 v97 v98 v99 v100 v101 v102 v103 v104 v105 v106 v107 v108 v109 v110 v111 v112 v113 v114 v115 v116 v117 v118 v119 v120 v121 v122 v123 v124 v125 v126 : Value), (d = D) → Q0 (.exit 4) ⟨List.toArray (u0 :: u1 :: u2 :: u3 :: u4 :: u5 :: u6 :: u7 :: v8 :: (.pointer (some ⟨gb, 0, none⟩)) :: (.pointer (some ⟨b, 0, none⟩)) :: (.pointer (some ⟨b2, 0, none⟩)) :: u12 :: u13 :: u14 :: u15 :: u16 :: (.int .i64 ((d : Nat) : Int)) :: v18 :: v19 :: v20 :: v21 :: v22 :: u23 :: u24 :: u25 :: u26 :: u27 :: u28 :: u29 :: u30 :: u31 :: u32 :: u33 :: u34 :: u35 :: u36 :: u37 :: u38 :: u39 :: u40 :: u41 :: u42 :: u43 :: u44 :: u45 :: u46 :: u47 :: u48 :: u49 :: u50 :: u51 :: u52 :: u53 :: u54 :: u55 :: u56 :: u57 :: u58 :: u59 :: u60 :: u61 :: u62 :: u63 :: u64 :: u65 :: u66 :: u67 :: u68 :: u69 :: u70 :: u71 :: u72 :: u73 :: u74 :: u75 :: u76 :: u77 :: u78 :: u79 :: u80 :: u81 :: u82 :: u83 :: u84 :: u85 :: u86 :: u87 :: u88 :: u89 :: u90 :: u91 :: u92 :: u93 :: u94 :: u95 :: u96 :: v97 :: v98 :: v99 :: v100 :: v101 :: v102 :: v103 :: v104 :: v105 :: v106 :: v107 :: v108 :: v109 :: v110 :: v111 :: v112 :: v113 :: v114 :: v115 :: v116 :: v117 :: v118 :: v119 :: v120 :: v121 :: v122 :: v123 :: v124 :: v125 :: v126 :: u127 :: u128 :: u129 :: u130 :: u131 :: []), []⟩ w) :
    Code.wp Try.prog (sub [1, 1, 1, 1, 1, 1, 1, 1, 1, 1, 1, 1, 0, 1, 0, 0] codeRT) (Exit.then K Q0) ⟨List.toArray (u0 :: u1 :: u2 :: u3 :: u4 :: u5 :: u6 :: u7 :: u8 :: (.pointer (some ⟨gb, 0, none⟩)) :: (.pointer (some ⟨b, 0, none⟩)) :: (.pointer (some ⟨b2, 0, none⟩)) :: u12 :: u13 :: u14 :: u15 :: u16 :: (.int .i64 ((d : Nat) : Int)) :: u18 :: u19 :: u20 :: u21 :: u22 :: u23 :: u24 :: u25 :: u26 :: u27 :: u28 :: u29 :: u30 :: u31 :: u32 :: u33 :: u34 :: u35 :: u36 :: u37 :: u38 :: u39 :: u40 :: u41 :: u42 :: u43 :: u44 :: u45 :: u46 :: u47 :: u48 :: u49 :: u50 :: u51 :: u52 :: u53 :: u54 :: u55 :: u56 :: u57 :: u58 :: u59 :: u60 :: u61 :: u62 :: u63 :: u64 :: u65 :: u66 :: u67 :: u68 :: u69 :: u70 :: u71 :: u72 :: u73 :: u74 :: u75 :: u76 :: u77 :: u78 :: u79 :: u80 :: u81 :: u82 :: u83 :: u84 :: u85 :: u86 :: u87 :: u88 :: u89 :: u90 :: u91 :: u92 :: u93 :: u94 :: u95 :: u96 :: u97 :: u98 :: u99 :: u100 :: u101 :: u102 :: u103 :: u104 :: u105 :: u106 :: u107 :: u108 :: u109 :: u110 :: u111 :: u112 :: u113 :: u114 :: u115 :: u116 :: u117 :: u118 :: u119 :: u120 :: u121 :: u122 :: u123 :: u124 :: u125 :: u126 :: u127 :: u128 :: u129 :: u130 :: u131 :: []), []⟩ w := by
  have HK := Lib.hid hK
  have HX := Lib.hid hX
  clear hK hX
  conv => arg 2; whnf
  obtain ⟨hd, hk⟩ := hI
  obtain ⟨g1, g2, g3⟩ := hk.gat (g := gb) (l := 6) (d := (D : Int)) (c := c) (t := 25) (f := (0, 0)) hgb
  have Hk := Lib.hid hk
  by_cases hlt : d < D
  · have i0 : (0 : Int) ≤ (d : Int) := by omega
    have i1 : (d : Int) < (D : Int) := by omega
    have a1 := hMf d hlt
    have a2 := hNf d hlt
    have a3 := h32 d hlt
    have a4 := hsame d hlt
    clear hk HX hMf hNf h32 hsame
    go_upto_block 6 with fail
    refine wp_block ?_
    refine rtD _ _ _ _ _ _ _ _ _ _ _ _ _ _ _ _ _ _ _ _ _ _ _ _ _ _ _ _ _ _ _ _ _ _ _ _ _ _ _ _ _ _ _ _ _ _ _ _ _ _ _ _ _ _ _ _ _ _ _ _ _ _ _ _ _ _ _ _ _ _ _ _ _ _ _ _ _ _ _ _ _ _ _ _ _ _ _ _ _ _ _ _ _ _ _ _ _ _ _ _ _ _ _ _ _ _ _ _ _ _ _ _ _ _ _ _ _ _ _ _ _ _ _ _ _ _ _ _ _ (by omega) (by omega) (by omega) hMd hNd a1 a2 a3 a4 hwas ⟨Nat.zero_le _, Hk.out⟩ (fun v8 v19 v20 v21 v22 v103 v104 v105 v106 v107 v108 v109 v110 v111 v112 v113 v114 v115 v116 v117 v118 v119 v120 v121 v122 v123 v124 v125 v126 r V1 hI hx => ?_)
    have K1 := Lib.hid hI.2
    clear hI hx Hk a1 a2 a3 a4 hwas g1 g2 g3
    go_wp2_with fail
    exact HK.out _ _ _ _ _ _ _ _ _ _ _ _ _ _ _ _ _ _ _ _ _ _ _ _ _ _ _ _ _ _ _ _ _ _ _ _ _ ⟨by omega, K1.out⟩ (by omega)
  · have i1 : ¬ (d : Int) < (D : Int) := by omega
    have Hin := Lib.hid (show d = D by omega)
    clear HK hk
    go_wp2_with fail
    exact HX.out _ _ _ _ _ _ _ _ _ _ _ _ _ _ _ _ _ _ _ _ _ _ _ _ _ _ _ _ _ _ _ _ _ _ _ _ Hin.out
set_option maxRecDepth 100000 in
set_option maxHeartbeats 3200000 in
theorem rtC {W0 : World} {b b2 gb D : Nat} {c : Int} {H H2 : BH} {M N : Bch} {LK : List (Nat × Obj)}  {w : World} (u0 u1 u2 u3 u4 u5 u6 u7 u8 u12 u13 u14 u15 u16 u18 u19 u20 u21 u22 u23 u24 u25 u26 u27 u28 u29 u30 u31 u32 u33 u34 u35 u36 u37 u38 u39 u40 u41 u42 u43 u44 u45 u46 u47 u48 u49 u50 u51 u52 u53 u54 u55 u56 u57 u58 u59 u60 u61 u62 u63 u64 u65 u66 u67 u68 u69 u70 u71 u72 u73 u74 u75 u76 u77 u78 u79 u80 u81 u82 u83 u84 u85 u86 u87 u88 u89 u90 u91 u92 u93 u94 u95 u96 u97 u98 u99 u100 u101 u102 u103 u104 u105 u106 u107 u108 u109 u110 u111 u112 u113 u114 u115 u116 u117 u118 u119 u120 u121 u122 u123 u124 u125 u126 u127 u128 u129 u130 u131 : Value) (Q : Exit → Act → World → Prop) (hD8 : D ≤ 8) (hgb : (gb, Obj.cells #[.int .i64 6, .int .i64 (D : Int), .int .i64 c] 25 (0, 0)) ∈ LK) (hMn : M.n = D) (hNn : N.n = D) (hMd : M.down = false) (hNd : N.down = false) (hMf : ∀ d, d < D → (M.D d).f = false) (hNf : ∀ d, d < D → (N.D d).f = false) (h32 : ∀ d, d < D → ∀ r, r < 16 → (secAt (N.D d).now (36 + r)).length = 32) (hsame : ∀ d, d < D → ∀ r, r < 16 → secAt (M.D d).now (36 + r) = secAt (N.D d).now (36 + r)) (hwas : ∀ V : World, (∀ p ∈ LK, V.heap[p.1]? = some p.2) → BAt V W0.heap.size b2 H2 N) (hI : (0 ≤ D ∧ KS W0 w b H M LK [] []))
    (hX : ∀ (v8 v18 v19 v20 v21 v22 v97 v98 v99 v100 v101 v102 v103 v104 v105 v106 v107 v108 v109 v110 v111 v112 v113 v114 v115 v116 v117 v118 v119 v120 v121 v122 v123 v124 v125 v126 : Value) (d : Nat) (V : World), (d ≤ D ∧ KS W0 V b H M LK [] []) → (d = D) → Q (.exit 4) ⟨List.toArray (u0 :: u1 :: u2 :: u3 :: u4 :: u5 :: u6 :: u7 :: v8 :: (.pointer (some ⟨gb, 0, none⟩)) :: (.pointer (some ⟨b, 0, none⟩)) :: (.pointer (some ⟨b2, 0, none⟩)) :: u12 :: u13 :: u14 :: u15 :: u16 :: (.int .i64 ((d : Nat) : Int)) :: v18 :: v19 :: v20 :: v21 :: v22 :: u23 :: u24 :: u25 :: u26 :: u27 :: u28 :: u29 :: u30 :: u31 :: u32 :: u33 :: u34 :: u35 :: u36 :: u37 :: u38 :: u39 :: u40 :: u41 :: u42 :: u43 :: u44 :: u45 :: u46 :: u47 :: u48 :: u49 :: u50 :: u51 :: u52 :: u53 :: u54 :: u55 :: u56 :: u57 :: u58 :: u59 :: u60 :: u61 :: u62 :: u63 :: u64 :: u65 :: u66 :: u67 :: u68 :: u69 :: u70 :: u71 :: u72 :: u73 :: u74 :: u75 :: u76 :: u77 :: u78 :: u79 :: u80 :: u81 :: u82 :: u83 :: u84 :: u85 :: u86 :: u87 :: u88 :: u89 :: u90 :: u91 :: u92 :: u93 :: u94 :: u95 :: u96 :: v97 :: v98 :: v99 :: v100 :: v101 :: v102 :: v103 :: v104 :: v105 :: v106 :: v107 :: v108 :: v109 :: v110 :: v111 :: v112 :: v113 :: v114 :: v115 :: v116 :: v117 :: v118 :: v119 :: v120 :: v121 :: v122 :: v123 :: v124 :: v125 :: v126 :: u127 :: u128 :: u129 :: u130 :: u131 :: []), []⟩ V) :
    Code.wp Try.prog (.loop (sub [1, 1, 1, 1, 1, 1, 1, 1, 1, 1, 1, 1, 0, 1, 0, 0] codeRT)) Q ⟨List.toArray (u0 :: u1 :: u2 :: u3 :: u4 :: u5 :: u6 :: u7 :: u8 :: (.pointer (some ⟨gb, 0, none⟩)) :: (.pointer (some ⟨b, 0, none⟩)) :: (.pointer (some ⟨b2, 0, none⟩)) :: u12 :: u13 :: u14 :: u15 :: u16 :: (.int .i64 ((0 : Nat) : Int)) :: u18 :: u19 :: u20 :: u21 :: u22 :: u23 :: u24 :: u25 :: u26 :: u27 :: u28 :: u29 :: u30 :: u31 :: u32 :: u33 :: u34 :: u35 :: u36 :: u37 :: u38 :: u39 :: u40 :: u41 :: u42 :: u43 :: u44 :: u45 :: u46 :: u47 :: u48 :: u49 :: u50 :: u51 :: u52 :: u53 :: u54 :: u55 :: u56 :: u57 :: u58 :: u59 :: u60 :: u61 :: u62 :: u63 :: u64 :: u65 :: u66 :: u67 :: u68 :: u69 :: u70 :: u71 :: u72 :: u73 :: u74 :: u75 :: u76 :: u77 :: u78 :: u79 :: u80 :: u81 :: u82 :: u83 :: u84 :: u85 :: u86 :: u87 :: u88 :: u89 :: u90 :: u91 :: u92 :: u93 :: u94 :: u95 :: u96 :: u97 :: u98 :: u99 :: u100 :: u101 :: u102 :: u103 :: u104 :: u105 :: u106 :: u107 :: u108 :: u109 :: u110 :: u111 :: u112 :: u113 :: u114 :: u115 :: u116 :: u117 :: u118 :: u119 :: u120 :: u121 :: u122 :: u123 :: u124 :: u125 :: u126 :: u127 :: u128 :: u129 :: u130 :: u131 :: []), []⟩ w := by
  refine wp_loop_ghost (fun gk a V => ∀ C : Prop, (∀ (u8 u18 u19 u20 u21 u22 u97 u98 u99 u100 u101 u102 u103 u104 u105 u106 u107 u108 u109 u110 u111 u112 u113 u114 u115 u116 u117 u118 u119 u120 u121 u122 u123 u124 u125 u126 : Value) (d : Nat), gk = D - d → (d ≤ D ∧ KS W0 V b H M LK [] []) → a = ⟨List.toArray (u0 :: u1 :: u2 :: u3 :: u4 :: u5 :: u6 :: u7 :: u8 :: (.pointer (some ⟨gb, 0, none⟩)) :: (.pointer (some ⟨b, 0, none⟩)) :: (.pointer (some ⟨b2, 0, none⟩)) :: u12 :: u13 :: u14 :: u15 :: u16 :: (.int .i64 ((d : Nat) : Int)) :: u18 :: u19 :: u20 :: u21 :: u22 :: u23 :: u24 :: u25 :: u26 :: u27 :: u28 :: u29 :: u30 :: u31 :: u32 :: u33 :: u34 :: u35 :: u36 :: u37 :: u38 :: u39 :: u40 :: u41 :: u42 :: u43 :: u44 :: u45 :: u46 :: u47 :: u48 :: u49 :: u50 :: u51 :: u52 :: u53 :: u54 :: u55 :: u56 :: u57 :: u58 :: u59 :: u60 :: u61 :: u62 :: u63 :: u64 :: u65 :: u66 :: u67 :: u68 :: u69 :: u70 :: u71 :: u72 :: u73 :: u74 :: u75 :: u76 :: u77 :: u78 :: u79 :: u80 :: u81 :: u82 :: u83 :: u84 :: u85 :: u86 :: u87 :: u88 :: u89 :: u90 :: u91 :: u92 :: u93 :: u94 :: u95 :: u96 :: u97 :: u98 :: u99 :: u100 :: u101 :: u102 :: u103 :: u104 :: u105 :: u106 :: u107 :: u108 :: u109 :: u110 :: u111 :: u112 :: u113 :: u114 :: u115 :: u116 :: u117 :: u118 :: u119 :: u120 :: u121 :: u122 :: u123 :: u124 :: u125 :: u126 :: u127 :: u128 :: u129 :: u130 :: u131 :: []), []⟩ → C) → C) (D - 0) ?_ ?_
  · intro C hC
    exact hC _ _ _ _ _ _ _ _ _ _ _ _ _ _ _ _ _ _ _ _ _ _ _ _ _ _ _ _ _ _ _ _ _ _ _ _ (0) rfl hI rfl
  · intro gk a V hI'
    refine hI' _ ?_
    intro u8 u18 u19 u20 u21 u22 u97 u98 u99 u100 u101 u102 u103 u104 u105 u106 u107 u108 u109 u110 u111 u112 u113 u114 u115 u116 u117 u118 u119 u120 u121 u122 u123 u124 u125 u126 d hk hinv ha
    subst ha
    subst hk
    refine rtCb _ _ _ _ _ _ _ _ _ _ _ _ _ _ _ _ _ _ _ _ _ _ _ _ _ _ _ _ _ _ _ _ _ _ _ _ _ _ _ _ _ _ _ _ _ _ _ _ _ _ _ _ _ _ _ _ _ _ _ _ _ _ _ _ _ _ _ _ _ _ _ _ _ _ _ _ _ _ _ _ _ _ _ _ _ _ _ _ _ _ _ _ _ _ _ _ _ _ _ _ _ _ _ _ _ _ _ _ _ _ _ _ _ _ _ _ _ _ _ _ _ _ _ _ _ _ _ _ _ _ hD8 hgb hMn hNn hMd hNd hMf hNf h32 hsame hwas hinv (fun v8 v18 v19 v20 v21 v22 v97 v98 v99 v100 v101 v102 v103 v104 v105 v106 v107 v108 v109 v110 v111 v112 v113 v114 v115 v116 v117 v118 v119 v120 v121 v122 v123 v124 v125 v126  V2 h2 hm => ?_) (fun v8 v18 v19 v20 v21 v22 v97 v98 v99 v100 v101 v102 v103 v104 v105 v106 v107 v108 v109 v110 v111 v112 v113 v114 v115 v116 v117 v118 v119 v120 v121 v122 v123 v124 v125 v126 hx => hX v8 v18 v19 v20 v21 v22 v97 v98 v99 v100 v101 v102 v103 v104 v105 v106 v107 v108 v109 v110 v111 v112 v113 v114 v115 v116 v117 v118 v119 v120 v121 v122 v123 v124 v125 v126 d V hinv hx)
    refine ⟨_, hm, fun C hC => ?_⟩
    exact hC v8 v18 v19 v20 v21 v22 v97 v98 v99 v100 v101 v102 v103 v104 v105 v106 v107 v108 v109 v110 v111 v112 v113 v114 v115 v116 v117 v118 v119 v120 v121 v122 v123 v124 v125 v126 ((d + 1)) rfl h2 rfl
end Go.Proofs.Ytadmofpipfdedaa
end
