/- Texts put together: RbdCut, RebuildQuietLoops. -/
import Derived.Test.YtadmofpipfdedaaRqbj
import Derived.Test.YtadmofpipfdedaaRqaw
import Derived.Test.YtadmofpipfdedaaRqbg
import Derived.Test.YtadmofpipfdedaaRqah
section
set_option maxRecDepth 20000
set_option linter.unusedVariables false
set_option linter.unusedSimpArgs false
namespace Go.Proofs.Ytadmofpipfdedaa
open Go.RowKit

theorem rbS_pend (N : Bch) (lv : List Bool) (k : Nat) (G : RG) (j : Nat) : ((rbS N lv (k : Int) G).2.D j).ps.length ≤ (N.D j).ps.length + 16 := by
  have h := rbTo_pend (lv := lv) (G := G) (dd := k) (N := N) j 16
  have hf : ∀ (M : Bch) (d : Int), ((M.flush d).D j).ps.length ≤ (M.D j).ps.length := fun M d => by
    unfold Bch.flush
    split
    · exact Nat.le_refl _
    · show (upd M.D d.toNat (M.at_ d).flushE j).ps.length ≤ _
      by_cases e : j = d.toNat
      · subst e
        rw [upd_same]
        unfold Dsk.flushE
        split
        · exact Nat.le_refl _
        · exact Nat.zero_le _
      · rw [upd_other _ _ e]; exact Nat.le_refl _
  unfold rbS
  repeat' split
  · exact Nat.le_add_right _ _
  · exact Nat.le_add_right _ _
  · exact h
  · exact Nat.le_trans (hf _ _) h
theorem crash_n (N : Bch) (ks : List Bool) : (N.crash ks).n = N.n := rfl
theorem crash_D {N : Bch} {ks : List Bool} {i : Nat} (hi : i < N.n) : (N.crash ks).D i = (N.D i).crash (ks.drop (offs N.D i)) := by
  show (if i < N.n then (N.D i).crash (ks.drop (offs N.D i)) else N.D i) = _
  rw [if_pos hi]
theorem crash_same {D : Dsk} (h : D.ps = []) (ks : List Bool) : D.crash ks = D := by
  obtain ⟨S, ps, f⟩ := D
  dsimp only at h
  subst h
  show Dsk.mk (nowOf S (keptOf [] ks)) [] f = _
  rw [keptOf_zero]; rfl
section
variable {W w : World} {b : Nat} {H : BH} {N : Bch} {K : List (Nat × Obj)} {R : List (Option Addr × List (List UInt8))} {S : List (Option Addr × List UInt8)}
theorem ks_crash (h : KS W w b H N K R S) (ks : List Bool) (A : Option Addr) (n c : Nat) (hn : n = ks.length) (hc : ks.length ≤ c) (hk : RdO W W.heap.size A ks) (hps : ∀ i, i < N.n → (N.D i).ps.length ≤ 2000000) :
    Calls Try.prog 20 #[.pointer (some ⟨b, 0, none⟩), .slice A n c] w fun e w' => e = .returned (.tuple #[]) ∧ ∃ H', KS W w' b H' (N.crash ks) K R S := by
  refine (bp_crash_arg h.bp ks A n c hn hc hk hps).mono ?_
  rintro e w' ⟨rfl, ht⟩
  obtain ⟨H', k'⟩ := h.bc ht (crash_n _ _)
  exact ⟨rfl, H', k'⟩
end
theorem limit_all {N : Bch} {v : Int} (hd : N.down = false) (hv : 0 ≤ v) : (N.limit v).n = N.n ∧ (N.limit v).down = false ∧ (N.limit v).D = N.D ∧ (N.limit v).done = N.done ∧ (N.limit v).left = v := by
  have e : N.limit v = { N with left := max v (-1) } := if_neg (by rw [hd]; simp)
  rw [e]
  exact ⟨rfl, hd, rfl, rfl, by show max v (-1) = v; omega⟩
section
variable {N M : Bch} {m k : Nat} {G : RG} {zs : List Int} {lv : List Bool}
/-- A bench that is as a filled one, but for a disk that is out. -/
structure Bk (N M : Bch) (m : Nat) (G : RG) (k : Nat) : Prop where
  n : M.n = m
  dn : M.down = false
  o : ∀ i, i < m → i ≠ k → M.D i = N.D i
  f : (M.D k).f = false
  out : OutK G k (M.D k)
theorem Bk.rbh (b : Bk N M m G k) (h : Fb N m (rowG G zs) 16 0) (hle : ∀ t, t < 16 → G.D t ≤ (m : Int)) (hG : G.ok = true) (hk : k < m) (hl : lv.getD k false = false) (ho : ∀ i, i < m → i ≠ k → lv.getD i false = true) : RbH M lv G k (rsZ G zs) ∧ ∀ t, t < 16 → srdE M lv (G.L t) (G.D t) (G.C t) (t : Int) = 0 := by
  have hR := h.rbh hle hG hk (M := M) (lv := lv) b.n b.dn (fun i hi h2 => b.o i hi (fun e => by rw [e, hl] at h2; cases h2)) b.f b.out hl
  refine ⟨hR.1, fun t ht => ?_⟩
  have hD := hle t ht
  have hg := gOk_bd (RG.good hG t)
  have hc := cnt_one (N := M) (lv := lv) (D := (G.D t).toNat) (d := k) (by rw [b.n]; omega) (fun i hi => by
    by_cases e : i = k
    · subst e; exact b.f
    · rw [b.o i (by omega) e]; exact h.gd.f i (by omega)) (fun i hi hne => ho i (by omega) hne)
  exact rb_told hG b.dn (rows_dat G zs) hR.2 ht (by omega)
/-- Cut off, or done. -/
theorem Bk.run (b : Bk N M m G k) (h : Fb N m (rowG G zs) 16 0) (hle : ∀ t, t < 16 → G.D t ≤ (m : Int)) (hG : G.ok = true) (hk : k < m) (hl : lv.getD k false = false) (ho : ∀ i, i < m → i ≠ k → lv.getD i false = true) :
    RbI M (rbS M lv (k : Int) G).2 G k ∧ (((rbS M lv (k : Int) G).1 = 0 ∧ RbZ (rbS M lv (k : Int) G).2 G k (rsZ G zs) 16 ∧ ((rbS M lv (k : Int) G).2.D k).ps = []) ∨ ((rbS M lv (k : Int) G).1 = 6 ∧ (rbS M lv (k : Int) G).2.down = true ∧ M.left ≠ -1)) := by
  obtain ⟨hR, h0⟩ := b.rbh h hle hG hk hl ho
  obtain ⟨I, hc⟩ := rb_all hR hG
  refine ⟨I, ?_⟩
  rcases hc with hc | hc | hc
  · exact .inl hc
  · exact .inr hc
  · obtain ⟨t, ht, _, e7⟩ := hc.2.2
    rw [h0 t ht] at e7; cases e7
/-- Behind a crash it is so again. -/
theorem Bk.crash (b : Bk N M m G k) (h : Fb N m (rowG G zs) 16 0) {M2 : Bch} (I : RbI M M2 G k) (hk : k < m) (ks : List Bool) : Bk N (M2.crash ks) m G k := by
  have hn : M2.n = m := I.n.trans b.n
  refine ⟨hn, rfl, fun i hi hne => ?_, ?_, ?_⟩
  · rw [crash_D (by omega), I.o i hne, b.o i hi hne]
    exact crash_same (h.gd.ps i hi) _
  · rw [crash_D (by omega)]; exact I.f
  · rw [crash_D (by omega)]; exact I.out.crash _
end
end Go.Proofs.Ytadmofpipfdedaa
end
section
set_option linter.unusedVariables false
set_option linter.unusedSimpArgs false
namespace Go.Proofs.Ytadmofpipfdedaa
open Go.RowKit

noncomputable def codeRQ : Code := Try.f3.body.getD .skip
set_option maxRecDepth 100000 in
set_option maxHeartbeats 3200000 in
theorem rqDb {W0 : World} {b b2 d : Nat} {H H2 : BH} {M N : Bch} {LK : List (Nat × Obj)} {r : Nat} {w : World} (u0 u1 u2 u3 u4 u5 u6 u7 u8 u9 u10 u11 u12 u13 u14 u15 u16 u19 u20 u23 u24 u25 u26 u27 u28 u29 u30 u31 u32 u33 u34 u35 u36 u37 u38 u39 u40 u41 u42 u43 u44 u45 u46 u47 u48 u49 u50 u51 u52 u53 u54 u55 u56 u57 u58 u59 u60 u61 u62 u63 u64 u65 u66 u67 u68 u69 u70 u71 u72 u73 u74 u75 u76 u77 u78 u79 u80 u81 u82 u83 u84 u85 u86 u87 u88 u89 u90 u91 u92 u93 u94 u95 u96 u97 u98 u99 u100 u101 u102 u103 u104 u105 u106 u107 u108 u109 u110 u111 u112 u113 u114 u115 u116 u117 u118 u119 u120 u121 u122 u123 u124 u125 u126 u127 u128 u129 u130 u131 u132 u133 u134 u135 u136 u137 u138 u139 u140 u141 u142 u143 u144 : Value) (K : Act → World → Prop) (Q0 : Exit → Act → World → Prop) (hd8 : d ≤ 8) (hdM : d < M.n) (hdN : d < N.n) (hMd : M.down = false) (hNd : N.down = false) (hMf : (M.D d).f = false) (hNf : (N.D d).f = false) (h32 : ∀ r, r < 52 → (secAt (N.D d).now r).length = 32) (hsame : ∀ r, r < 52 → secAt (M.D d).now r = secAt (N.D d).now r) (hwas : ∀ V : World, (∀ p ∈ LK, V.heap[p.1]? = some p.2) → BAt V W0.heap.size b2 H2 N) (hI : (r ≤ 52 ∧ KS W0 w b H M LK [] []))
    (hK : ∀ (v14 v23 v24 v25 v26 v114 v115 v116 v117 v118 v119 v120 v121 v122 v123 v124 v125 v126 v127 v128 v129 v130 v131 v132 v133 v134 v135 v136 v137 v138 v139 v140 v141 v142 v143 : Value)  (V : World), ((r + 1) ≤ 52 ∧ KS W0 V b H M LK [] []) → 52 - (r + 1) < 52 - r → K ⟨List.toArray (u0 :: u1 :: u2 :: u3 :: u4 :: u5 :: u6 :: u7 :: u8 :: u9 :: u10 :: u11 :: u12 :: u13 :: v14 :: u15 :: u16 :: (.pointer (some ⟨b, 0, none⟩)) :: (.pointer (some ⟨b2, 0, none⟩)) :: u19 :: u20 :: (.int .i64 (d : Int)) :: (.int .i64 (((r + 1) : Nat) : Int)) :: v23 :: v24 :: v25 :: v26 :: u27 :: u28 :: u29 :: u30 :: u31 :: u32 :: u33 :: u34 :: u35 :: u36 :: u37 :: u38 :: u39 :: u40 :: u41 :: u42 :: u43 :: u44 :: u45 :: u46 :: u47 :: u48 :: u49 :: u50 :: u51 :: u52 :: u53 :: u54 :: u55 :: u56 :: u57 :: u58 :: u59 :: u60 :: u61 :: u62 :: u63 :: u64 :: u65 :: u66 :: u67 :: u68 :: u69 :: u70 :: u71 :: u72 :: u73 :: u74 :: u75 :: u76 :: u77 :: u78 :: u79 :: u80 :: u81 :: u82 :: u83 :: u84 :: u85 :: u86 :: u87 :: u88 :: u89 :: u90 :: u91 :: u92 :: u93 :: u94 :: u95 :: u96 :: u97 :: u98 :: u99 :: u100 :: u101 :: u102 :: u103 :: u104 :: u105 :: u106 :: u107 :: u108 :: u109 :: u110 :: u111 :: u112 :: u113 :: v114 :: v115 :: v116 :: v117 :: v118 :: v119 :: v120 :: v121 :: v122 :: v123 :: v124 :: v125 :: v126 :: v127 :: v128 :: v129 :: v130 :: v131 :: v132 :: v133 :: v134 :: v135 :: v136 :: v137 :: v138 :: v139 :: v140 :: v141 :: v142 :: v143 :: u144 :: []), []⟩ V)
    (hX : ∀ (v14 v23 v24 v25 v26 v114 v115 v116 v117 v118 v119 v120 v121 v122 v123 v124 v125 v126 v127 v128 v129 v130 v131 v132 v133 v134 v135 v136 v137 v138 v139 v140 v141 v142 v143 : Value), (r = 52) → Q0 (.exit 2) ⟨List.toArray (u0 :: u1 :: u2 :: u3 :: u4 :: u5 :: u6 :: u7 :: u8 :: u9 :: u10 :: u11 :: u12 :: u13 :: v14 :: u15 :: u16 :: (.pointer (some ⟨b, 0, none⟩)) :: (.pointer (some ⟨b2, 0, none⟩)) :: u19 :: u20 :: (.int .i64 (d : Int)) :: (.int .i64 ((r : Nat) : Int)) :: v23 :: v24 :: v25 :: v26 :: u27 :: u28 :: u29 :: u30 :: u31 :: u32 :: u33 :: u34 :: u35 :: u36 :: u37 :: u38 :: u39 :: u40 :: u41 :: u42 :: u43 :: u44 :: u45 :: u46 :: u47 :: u48 :: u49 :: u50 :: u51 :: u52 :: u53 :: u54 :: u55 :: u56 :: u57 :: u58 :: u59 :: u60 :: u61 :: u62 :: u63 :: u64 :: u65 :: u66 :: u67 :: u68 :: u69 :: u70 :: u71 :: u72 :: u73 :: u74 :: u75 :: u76 :: u77 :: u78 :: u79 :: u80 :: u81 :: u82 :: u83 :: u84 :: u85 :: u86 :: u87 :: u88 :: u89 :: u90 :: u91 :: u92 :: u93 :: u94 :: u95 :: u96 :: u97 :: u98 :: u99 :: u100 :: u101 :: u102 :: u103 :: u104 :: u105 :: u106 :: u107 :: u108 :: u109 :: u110 :: u111 :: u112 :: u113 :: v114 :: v115 :: v116 :: v117 :: v118 :: v119 :: v120 :: v121 :: v122 :: v123 :: v124 :: v125 :: v126 :: v127 :: v128 :: v129 :: v130 :: v131 :: v132 :: v133 :: v134 :: v135 :: v136 :: v137 :: v138 :: v139 :: v140 :: v141 :: v142 :: v143 :: u144 :: []), []⟩ w) :
    Code.wp Try.prog (sub [1, 1, 1, 1, 1, 1, 1, 1, 1, 1, 1, 1, 1, 1, 1, 1, 1, 0, 1, 0, 0, 1, 0, 0, 1, 0, 0] codeRQ) (Exit.then K Q0) ⟨List.toArray (u0 :: u1 :: u2 :: u3 :: u4 :: u5 :: u6 :: u7 :: u8 :: u9 :: u10 :: u11 :: u12 :: u13 :: u14 :: u15 :: u16 :: (.pointer (some ⟨b, 0, none⟩)) :: (.pointer (some ⟨b2, 0, none⟩)) :: u19 :: u20 :: (.int .i64 (d : Int)) :: (.int .i64 ((r : Nat) : Int)) :: u23 :: u24 :: u25 :: u26 :: u27 :: u28 :: u29 :: u30 :: u31 :: u32 :: u33 :: u34 :: u35 :: u36 :: u37 :: u38 :: u39 :: u40 :: u41 :: u42 :: u43 :: u44 :: u45 :: u46 :: u47 :: u48 :: u49 :: u50 :: u51 :: u52 :: u53 :: u54 :: u55 :: u56 :: u57 :: u58 :: u59 :: u60 :: u61 :: u62 :: u63 :: u64 :: u65 :: u66 :: u67 :: u68 :: u69 :: u70 :: u71 :: u72 :: u73 :: u74 :: u75 :: u76 :: u77 :: u78 :: u79 :: u80 :: u81 :: u82 :: u83 :: u84 :: u85 :: u86 :: u87 :: u88 :: u89 :: u90 :: u91 :: u92 :: u93 :: u94 :: u95 :: u96 :: u97 :: u98 :: u99 :: u100 :: u101 :: u102 :: u103 :: u104 :: u105 :: u106 :: u107 :: u108 :: u109 :: u110 :: u111 :: u112 :: u113 :: u114 :: u115 :: u116 :: u117 :: u118 :: u119 :: u120 :: u121 :: u122 :: u123 :: u124 :: u125 :: u126 :: u127 :: u128 :: u129 :: u130 :: u131 :: u132 :: u133 :: u134 :: u135 :: u136 :: u137 :: u138 :: u139 :: u140 :: u141 :: u142 :: u143 :: u144 :: []), []⟩ w := by
  have HK := Lib.hid hK
  have HX := Lib.hid hX
  clear hK hX
  conv => arg 2; whnf
  obtain ⟨hr, hk⟩ := hI
  by_cases hlt : r < 52
  · have i0 : (0 : Int) ≤ (r : Int) := by omega
    have i1 : (r : Int) < 52 := by omega
    have j0 : (0 : Int) ≤ (d : Int) := by omega
    have hro := Bch.read_ok (N := M) (d := d) (k := r) hdM hlt hMf hMd
    have hro2 := Bch.read_ok (N := N) (d := d) (k := r) hdN hlt hNf hNd
    rw [hsame r hlt] at hro
    have CR := bp_read W0 w b H M hk.bp (d : Int) (r : Int) ⟨by omega, by omega⟩ ⟨by omega, by omega⟩
    rw [hro.1, hro.2] at CR
    have CR := Lib.hid CR
    have CRw := (fun V (k : KS W0 V b H M LK [] []) => bch_read_any W0.heap.size b2 H2 N V (hwas V fun p hp => (k.kx.kp p hp).1) (d : Int) (r : Int) ⟨by omega, by omega⟩ ⟨by omega, by omega⟩)
    simp only [hro2.1, hro2.2] at CRw
    unfold ptr at CRw
    have CRw := Lib.hid CRw
    have hy32 := h32 r hlt
    generalize secAt (N.D d).now r = y at CR CRw hy32
    have Hk := Lib.hid hk
    clear hk HX h32 hsame hwas hro hro2
    go_wp2_with fail
    (with_reducible refine CR.out.mono ?_); rintro e w1 ⟨v, rfl, hy, hb1⟩
    obtain ⟨Ay, cy, rfl, _, _⟩ := hy.rd
    have hyr := hy.rdS.1
    rw [hy32]
    have K1 := Lib.hid (Hk.out.below hb1)
    have CW := Lib.hid (CRw.out _ K1.out)
    clear CR CRw hy hb1 Hk
    go_wp2_with fail
    (with_reducible refine CW.out.mono ?_); rintro e w2 ⟨v, rfl, hz, hb2⟩
    obtain ⟨Az, cz, rfl, _, _⟩ := hz.rd
    have hzr := hz.rdS.1
    rw [hy32]
    have CS := Lib.hid (sameT_any (c := cy) (c' := cz) hy32.symm hy32.symm ((hyr.below hb2 (Nat.le_refl _)).more hb2.size) hzr)
    have K2 := Lib.hid (K1.out.below hb2)
    clear CW hyr hzr hz hb2 K1
    go_wp2_with fail
    (with_reducible refine CS.out.mono ?_); rintro e w4 ⟨rfl, m, rfl⟩
    go_wp2_with fail
    exact HK.out _ _ _ _ _ _ _ _ _ _ _ _ _ _ _ _ _ _ _ _ _ _ _ _ _ _ _ _ _ _ _ _ _ _ _ _ ⟨by omega, K2.out.below (belowN _ _ m)⟩ (by omega)
  · have i1 : ¬ (r : Int) < 52 := by omega
    have Hin := Lib.hid (show r = 52 by omega)
    clear HK hk
    go_wp2_with fail
    exact HX.out _ _ _ _ _ _ _ _ _ _ _ _ _ _ _ _ _ _ _ _ _ _ _ _ _ _ _ _ _ _ _ _ _ _ _ Hin.out
set_option maxRecDepth 100000 in
set_option maxHeartbeats 3200000 in
theorem rqD {W0 : World} {b b2 d : Nat} {H H2 : BH} {M N : Bch} {LK : List (Nat × Obj)}  {w : World} (u0 u1 u2 u3 u4 u5 u6 u7 u8 u9 u10 u11 u12 u13 u14 u15 u16 u19 u20 u23 u24 u25 u26 u27 u28 u29 u30 u31 u32 u33 u34 u35 u36 u37 u38 u39 u40 u41 u42 u43 u44 u45 u46 u47 u48 u49 u50 u51 u52 u53 u54 u55 u56 u57 u58 u59 u60 u61 u62 u63 u64 u65 u66 u67 u68 u69 u70 u71 u72 u73 u74 u75 u76 u77 u78 u79 u80 u81 u82 u83 u84 u85 u86 u87 u88 u89 u90 u91 u92 u93 u94 u95 u96 u97 u98 u99 u100 u101 u102 u103 u104 u105 u106 u107 u108 u109 u110 u111 u112 u113 u114 u115 u116 u117 u118 u119 u120 u121 u122 u123 u124 u125 u126 u127 u128 u129 u130 u131 u132 u133 u134 u135 u136 u137 u138 u139 u140 u141 u142 u143 u144 : Value) (Q : Exit → Act → World → Prop) (hd8 : d ≤ 8) (hdM : d < M.n) (hdN : d < N.n) (hMd : M.down = false) (hNd : N.down = false) (hMf : (M.D d).f = false) (hNf : (N.D d).f = false) (h32 : ∀ r, r < 52 → (secAt (N.D d).now r).length = 32) (hsame : ∀ r, r < 52 → secAt (M.D d).now r = secAt (N.D d).now r) (hwas : ∀ V : World, (∀ p ∈ LK, V.heap[p.1]? = some p.2) → BAt V W0.heap.size b2 H2 N) (hI : (0 ≤ 52 ∧ KS W0 w b H M LK [] []))
    (hX : ∀ (v14 v23 v24 v25 v26 v114 v115 v116 v117 v118 v119 v120 v121 v122 v123 v124 v125 v126 v127 v128 v129 v130 v131 v132 v133 v134 v135 v136 v137 v138 v139 v140 v141 v142 v143 : Value) (r : Nat) (V : World), (r ≤ 52 ∧ KS W0 V b H M LK [] []) → (r = 52) → Q (.exit 2) ⟨List.toArray (u0 :: u1 :: u2 :: u3 :: u4 :: u5 :: u6 :: u7 :: u8 :: u9 :: u10 :: u11 :: u12 :: u13 :: v14 :: u15 :: u16 :: (.pointer (some ⟨b, 0, none⟩)) :: (.pointer (some ⟨b2, 0, none⟩)) :: u19 :: u20 :: (.int .i64 (d : Int)) :: (.int .i64 ((r : Nat) : Int)) :: v23 :: v24 :: v25 :: v26 :: u27 :: u28 :: u29 :: u30 :: u31 :: u32 :: u33 :: u34 :: u35 :: u36 :: u37 :: u38 :: u39 :: u40 :: u41 :: u42 :: u43 :: u44 :: u45 :: u46 :: u47 :: u48 :: u49 :: u50 :: u51 :: u52 :: u53 :: u54 :: u55 :: u56 :: u57 :: u58 :: u59 :: u60 :: u61 :: u62 :: u63 :: u64 :: u65 :: u66 :: u67 :: u68 :: u69 :: u70 :: u71 :: u72 :: u73 :: u74 :: u75 :: u76 :: u77 :: u78 :: u79 :: u80 :: u81 :: u82 :: u83 :: u84 :: u85 :: u86 :: u87 :: u88 :: u89 :: u90 :: u91 :: u92 :: u93 :: u94 :: u95 :: u96 :: u97 :: u98 :: u99 :: u100 :: u101 :: u102 :: u103 :: u104 :: u105 :: u106 :: u107 :: u108 :: u109 :: u110 :: u111 :: u112 :: u113 :: v114 :: v115 :: v116 :: v117 :: v118 :: v119 :: v120 :: v121 :: v122 :: v123 :: v124 :: v125 :: v126 :: v127 :: v128 :: v129 :: v130 :: v131 :: v132 :: v133 :: v134 :: v135 :: v136 :: v137 :: v138 :: v139 :: v140 :: v141 :: v142 :: v143 :: u144 :: []), []⟩ V) :
    Code.wp Try.prog (.loop (sub [1, 1, 1, 1, 1, 1, 1, 1, 1, 1, 1, 1, 1, 1, 1, 1, 1, 0, 1, 0, 0, 1, 0, 0, 1, 0, 0] codeRQ)) Q ⟨List.toArray (u0 :: u1 :: u2 :: u3 :: u4 :: u5 :: u6 :: u7 :: u8 :: u9 :: u10 :: u11 :: u12 :: u13 :: u14 :: u15 :: u16 :: (.pointer (some ⟨b, 0, none⟩)) :: (.pointer (some ⟨b2, 0, none⟩)) :: u19 :: u20 :: (.int .i64 (d : Int)) :: (.int .i64 ((0 : Nat) : Int)) :: u23 :: u24 :: u25 :: u26 :: u27 :: u28 :: u29 :: u30 :: u31 :: u32 :: u33 :: u34 :: u35 :: u36 :: u37 :: u38 :: u39 :: u40 :: u41 :: u42 :: u43 :: u44 :: u45 :: u46 :: u47 :: u48 :: u49 :: u50 :: u51 :: u52 :: u53 :: u54 :: u55 :: u56 :: u57 :: u58 :: u59 :: u60 :: u61 :: u62 :: u63 :: u64 :: u65 :: u66 :: u67 :: u68 :: u69 :: u70 :: u71 :: u72 :: u73 :: u74 :: u75 :: u76 :: u77 :: u78 :: u79 :: u80 :: u81 :: u82 :: u83 :: u84 :: u85 :: u86 :: u87 :: u88 :: u89 :: u90 :: u91 :: u92 :: u93 :: u94 :: u95 :: u96 :: u97 :: u98 :: u99 :: u100 :: u101 :: u102 :: u103 :: u104 :: u105 :: u106 :: u107 :: u108 :: u109 :: u110 :: u111 :: u112 :: u113 :: u114 :: u115 :: u116 :: u117 :: u118 :: u119 :: u120 :: u121 :: u122 :: u123 :: u124 :: u125 :: u126 :: u127 :: u128 :: u129 :: u130 :: u131 :: u132 :: u133 :: u134 :: u135 :: u136 :: u137 :: u138 :: u139 :: u140 :: u141 :: u142 :: u143 :: u144 :: []), []⟩ w := by
  refine wp_loop_ghost (fun gk a V => ∀ C : Prop, (∀ (u14 u23 u24 u25 u26 u114 u115 u116 u117 u118 u119 u120 u121 u122 u123 u124 u125 u126 u127 u128 u129 u130 u131 u132 u133 u134 u135 u136 u137 u138 u139 u140 u141 u142 u143 : Value) (r : Nat), gk = 52 - r → (r ≤ 52 ∧ KS W0 V b H M LK [] []) → a = ⟨List.toArray (u0 :: u1 :: u2 :: u3 :: u4 :: u5 :: u6 :: u7 :: u8 :: u9 :: u10 :: u11 :: u12 :: u13 :: u14 :: u15 :: u16 :: (.pointer (some ⟨b, 0, none⟩)) :: (.pointer (some ⟨b2, 0, none⟩)) :: u19 :: u20 :: (.int .i64 (d : Int)) :: (.int .i64 ((r : Nat) : Int)) :: u23 :: u24 :: u25 :: u26 :: u27 :: u28 :: u29 :: u30 :: u31 :: u32 :: u33 :: u34 :: u35 :: u36 :: u37 :: u38 :: u39 :: u40 :: u41 :: u42 :: u43 :: u44 :: u45 :: u46 :: u47 :: u48 :: u49 :: u50 :: u51 :: u52 :: u53 :: u54 :: u55 :: u56 :: u57 :: u58 :: u59 :: u60 :: u61 :: u62 :: u63 :: u64 :: u65 :: u66 :: u67 :: u68 :: u69 :: u70 :: u71 :: u72 :: u73 :: u74 :: u75 :: u76 :: u77 :: u78 :: u79 :: u80 :: u81 :: u82 :: u83 :: u84 :: u85 :: u86 :: u87 :: u88 :: u89 :: u90 :: u91 :: u92 :: u93 :: u94 :: u95 :: u96 :: u97 :: u98 :: u99 :: u100 :: u101 :: u102 :: u103 :: u104 :: u105 :: u106 :: u107 :: u108 :: u109 :: u110 :: u111 :: u112 :: u113 :: u114 :: u115 :: u116 :: u117 :: u118 :: u119 :: u120 :: u121 :: u122 :: u123 :: u124 :: u125 :: u126 :: u127 :: u128 :: u129 :: u130 :: u131 :: u132 :: u133 :: u134 :: u135 :: u136 :: u137 :: u138 :: u139 :: u140 :: u141 :: u142 :: u143 :: u144 :: []), []⟩ → C) → C) (52 - 0) ?_ ?_
  · intro C hC
    exact hC _ _ _ _ _ _ _ _ _ _ _ _ _ _ _ _ _ _ _ _ _ _ _ _ _ _ _ _ _ _ _ _ _ _ _ (0) rfl hI rfl
  · intro gk a V hI'
    refine hI' _ ?_
    intro u14 u23 u24 u25 u26 u114 u115 u116 u117 u118 u119 u120 u121 u122 u123 u124 u125 u126 u127 u128 u129 u130 u131 u132 u133 u134 u135 u136 u137 u138 u139 u140 u141 u142 u143 r hk hinv ha
    subst ha
    subst hk
    refine rqDb _ _ _ _ _ _ _ _ _ _ _ _ _ _ _ _ _ _ _ _ _ _ _ _ _ _ _ _ _ _ _ _ _ _ _ _ _ _ _ _ _ _ _ _ _ _ _ _ _ _ _ _ _ _ _ _ _ _ _ _ _ _ _ _ _ _ _ _ _ _ _ _ _ _ _ _ _ _ _ _ _ _ _ _ _ _ _ _ _ _ _ _ _ _ _ _ _ _ _ _ _ _ _ _ _ _ _ _ _ _ _ _ _ _ _ _ _ _ _ _ _ _ _ _ _ _ _ _ _ _ _ _ _ _ _ _ _ _ _ _ _ _ _ hd8 hdM hdN hMd hNd hMf hNf h32 hsame hwas hinv (fun v14 v23 v24 v25 v26 v114 v115 v116 v117 v118 v119 v120 v121 v122 v123 v124 v125 v126 v127 v128 v129 v130 v131 v132 v133 v134 v135 v136 v137 v138 v139 v140 v141 v142 v143  V2 h2 hm => ?_) (fun v14 v23 v24 v25 v26 v114 v115 v116 v117 v118 v119 v120 v121 v122 v123 v124 v125 v126 v127 v128 v129 v130 v131 v132 v133 v134 v135 v136 v137 v138 v139 v140 v141 v142 v143 hx => hX v14 v23 v24 v25 v26 v114 v115 v116 v117 v118 v119 v120 v121 v122 v123 v124 v125 v126 v127 v128 v129 v130 v131 v132 v133 v134 v135 v136 v137 v138 v139 v140 v141 v142 v143 r V hinv hx)
    refine ⟨_, hm, fun C hC => ?_⟩
    exact hC v14 v23 v24 v25 v26 v114 v115 v116 v117 v118 v119 v120 v121 v122 v123 v124 v125 v126 v127 v128 v129 v130 v131 v132 v133 v134 v135 v136 v137 v138 v139 v140 v141 v142 v143 ((r + 1)) rfl h2 rfl
set_option maxRecDepth 100000 in
set_option maxHeartbeats 3200000 in
theorem rqCb {W0 : World} {b b2 gt D : Nat} {l' c' : Int} {H H2 : BH} {M N : Bch} {LK : List (Nat × Obj)} {d : Nat} {w : World} (u0 u1 u2 u3 u4 u5 u6 u7 u8 u9 u10 u11 u12 u13 u14 u15 u19 u20 u22 u23 u24 u25 u26 u27 u28 u29 u30 u31 u32 u33 u34 u35 u36 u37 u38 u39 u40 u41 u42 u43 u44 u45 u46 u47 u48 u49 u50 u51 u52 u53 u54 u55 u56 u57 u58 u59 u60 u61 u62 u63 u64 u65 u66 u67 u68 u69 u70 u71 u72 u73 u74 u75 u76 u77 u78 u79 u80 u81 u82 u83 u84 u85 u86 u87 u88 u89 u90 u91 u92 u93 u94 u95 u96 u97 u98 u99 u100 u101 u102 u103 u104 u105 u106 u107 u108 u109 u110 u111 u112 u113 u114 u115 u116 u117 u118 u119 u120 u121 u122 u123 u124 u125 u126 u127 u128 u129 u130 u131 u132 u133 u134 u135 u136 u137 u138 u139 u140 u141 u142 u143 u144 : Value) (K : Act → World → Prop) (Q0 : Exit → Act → World → Prop) (hD8 : D ≤ 8) (hgb : (gt, Obj.cells #[.int .i64 l', .int .i64 (D : Int), .int .i64 c'] 25 (0, 0)) ∈ LK) (hMn : M.n = D) (hNn : N.n = D) (hMd : M.down = false) (hNd : N.down = false) (hMf : ∀ d, d < D → (M.D d).f = false) (hNf : ∀ d, d < D → (N.D d).f = false) (h32 : ∀ d, d < D → ∀ r, r < 52 → (secAt (N.D d).now r).length = 32) (hsame : ∀ d, d < D → ∀ r, r < 52 → secAt (M.D d).now r = secAt (N.D d).now r) (hwas : ∀ V : World, (∀ p ∈ LK, V.heap[p.1]? = some p.2) → BAt V W0.heap.size b2 H2 N) (hI : (d ≤ D ∧ KS W0 w b H M LK [] []))
    (hK : ∀ (v14 v22 v23 v24 v25 v26 v108 v109 v110 v111 v112 v113 v114 v115 v116 v117 v118 v119 v120 v121 v122 v123 v124 v125 v126 v127 v128 v129 v130 v131 v132 v133 v134 v135 v136 v137 v138 v139 v140 v141 v142 v143 : Value)  (V : World), ((d + 1) ≤ D ∧ KS W0 V b H M LK [] []) → D - (d + 1) < D - d → K ⟨List.toArray (u0 :: u1 :: u2 :: u3 :: u4 :: u5 :: u6 :: u7 :: u8 :: u9 :: u10 :: u11 :: u12 :: u13 :: v14 :: u15 :: (.pointer (some ⟨gt, 0, none⟩)) :: (.pointer (some ⟨b, 0, none⟩)) :: (.pointer (some ⟨b2, 0, none⟩)) :: u19 :: u20 :: (.int .i64 (((d + 1) : Nat) : Int)) :: v22 :: v23 :: v24 :: v25 :: v26 :: u27 :: u28 :: u29 :: u30 :: u31 :: u32 :: u33 :: u34 :: u35 :: u36 :: u37 :: u38 :: u39 :: u40 :: u41 :: u42 :: u43 :: u44 :: u45 :: u46 :: u47 :: u48 :: u49 :: u50 :: u51 :: u52 :: u53 :: u54 :: u55 :: u56 :: u57 :: u58 :: u59 :: u60 :: u61 :: u62 :: u63 :: u64 :: u65 :: u66 :: u67 :: u68 :: u69 :: u70 :: u71 :: u72 :: u73 :: u74 :: u75 :: u76 :: u77 :: u78 :: u79 :: u80 :: u81 :: u82 :: u83 :: u84 :: u85 :: u86 :: u87 :: u88 :: u89 :: u90 :: u91 :: u92 :: u93 :: u94 :: u95 :: u96 :: u97 :: u98 :: u99 :: u100 :: u101 :: u102 :: u103 :: u104 :: u105 :: u106 :: u107 :: v108 :: v109 :: v110 :: v111 :: v112 :: v113 :: v114 :: v115 :: v116 :: v117 :: v118 :: v119 :: v120 :: v121 :: v122 :: v123 :: v124 :: v125 :: v126 :: v127 :: v128 :: v129 :: v130 :: v131 :: v132 :: v133 :: v134 :: v135 :: v136 :: v137 :: v138 :: v139 :: v140 :: v141 :: v142 :: v143 :: u144 :: []), []⟩ V)
    (hX : ∀ (v14 v22 v23 v24 v25 v26 v108 v109 v110 v111 v112 v113 v114 v115 v116 v117 v118 v119 v120 v121 v122 v123 v124 v125 v126 v127 v128 v129 v130 v131 v132 v133 v134 v135 v136 v137 v138 v139 v140 v141 v142 v143 : Value), (d = D) → Q0 (.exit 0) ⟨List.toArray (u0 :: u1 :: u2 :: u3 :: u4 :: u5 :: u6 :: u7 :: u8 :: u9 :: u10 :: u11 :: u12 :: u13 :: v14 :: u15 :: (.pointer (some ⟨gt, 0, none⟩)) :: (.pointer (some ⟨b, 0, none⟩)) :: (.pointer (some ⟨b2, 0, none⟩)) :: u19 :: u20 :: (.int .i64 ((d : Nat) : Int)) :: v22 :: v23 :: v24 :: v25 :: v26 :: u27 :: u28 :: u29 :: u30 :: u31 :: u32 :: u33 :: u34 :: u35 :: u36 :: u37 :: u38 :: u39 :: u40 :: u41 :: u42 :: u43 :: u44 :: u45 :: u46 :: u47 :: u48 :: u49 :: u50 :: u51 :: u52 :: u53 :: u54 :: u55 :: u56 :: u57 :: u58 :: u59 :: u60 :: u61 :: u62 :: u63 :: u64 :: u65 :: u66 :: u67 :: u68 :: u69 :: u70 :: u71 :: u72 :: u73 :: u74 :: u75 :: u76 :: u77 :: u78 :: u79 :: u80 :: u81 :: u82 :: u83 :: u84 :: u85 :: u86 :: u87 :: u88 :: u89 :: u90 :: u91 :: u92 :: u93 :: u94 :: u95 :: u96 :: u97 :: u98 :: u99 :: u100 :: u101 :: u102 :: u103 :: u104 :: u105 :: u106 :: u107 :: v108 :: v109 :: v110 :: v111 :: v112 :: v113 :: v114 :: v115 :: v116 :: v117 :: v118 :: v119 :: v120 :: v121 :: v122 :: v123 :: v124 :: v125 :: v126 :: v127 :: v128 :: v129 :: v130 :: v131 :: v132 :: v133 :: v134 :: v135 :: v136 :: v137 :: v138 :: v139 :: v140 :: v141 :: v142 :: v143 :: u144 :: []), []⟩ w) :
    Code.wp Try.prog (sub [1, 1, 1, 1, 1, 1, 1, 1, 1, 1, 1, 1, 1, 1, 1, 1, 1, 0, 1, 0, 0] codeRQ) (Exit.then K Q0) ⟨List.toArray (u0 :: u1 :: u2 :: u3 :: u4 :: u5 :: u6 :: u7 :: u8 :: u9 :: u10 :: u11 :: u12 :: u13 :: u14 :: u15 :: (.pointer (some ⟨gt, 0, none⟩)) :: (.pointer (some ⟨b, 0, none⟩)) :: (.pointer (some ⟨b2, 0, none⟩)) :: u19 :: u20 :: (.int .i64 ((d : Nat) : Int)) :: u22 :: u23 :: u24 :: u25 :: u26 :: u27 :: u28 :: u29 :: u30 :: u31 :: u32 :: u33 :: u34 :: u35 :: u36 :: u37 :: u38 :: u39 :: u40 :: u41 :: u42 :: u43 :: u44 :: u45 :: u46 :: u47 :: u48 :: u49 :: u50 :: u51 :: u52 :: u53 :: u54 :: u55 :: u56 :: u57 :: u58 :: u59 :: u60 :: u61 :: u62 :: u63 :: u64 :: u65 :: u66 :: u67 :: u68 :: u69 :: u70 :: u71 :: u72 :: u73 :: u74 :: u75 :: u76 :: u77 :: u78 :: u79 :: u80 :: u81 :: u82 :: u83 :: u84 :: u85 :: u86 :: u87 :: u88 :: u89 :: u90 :: u91 :: u92 :: u93 :: u94 :: u95 :: u96 :: u97 :: u98 :: u99 :: u100 :: u101 :: u102 :: u103 :: u104 :: u105 :: u106 :: u107 :: u108 :: u109 :: u110 :: u111 :: u112 :: u113 :: u114 :: u115 :: u116 :: u117 :: u118 :: u119 :: u120 :: u121 :: u122 :: u123 :: u124 :: u125 :: u126 :: u127 :: u128 :: u129 :: u130 :: u131 :: u132 :: u133 :: u134 :: u135 :: u136 :: u137 :: u138 :: u139 :: u140 :: u141 :: u142 :: u143 :: u144 :: []), []⟩ w := by
  have HK := Lib.hid hK
  have HX := Lib.hid hX
  clear hK hX
  conv => arg 2; whnf
  obtain ⟨hd, hk⟩ := hI
  obtain ⟨g1, g2, g3⟩ := hk.gat (g := gt) (l := l') (d := (D : Int)) (c := c') (t := 25) (f := (0, 0)) hgb
  have Hk := Lib.hid hk
  by_cases hlt : d < D
  · have i0 : (0 : Int) ≤ (d : Int) := by omega
    have i1 : (d : Int) < (D : Int) := by omega
    have a1 := hMf d hlt
    have a2 := hNf d hlt
    have a3 := h32 d hlt
    have a4 := hsame d hlt
    clear hk HX hMf hNf h32 hsame
    go_upto_block 2 with fail
    refine wp_block ?_
    refine rqD _ _ _ _ _ _ _ _ _ _ _ _ _ _ _ _ _ _ _ _ _ _ _ _ _ _ _ _ _ _ _ _ _ _ _ _ _ _ _ _ _ _ _ _ _ _ _ _ _ _ _ _ _ _ _ _ _ _ _ _ _ _ _ _ _ _ _ _ _ _ _ _ _ _ _ _ _ _ _ _ _ _ _ _ _ _ _ _ _ _ _ _ _ _ _ _ _ _ _ _ _ _ _ _ _ _ _ _ _ _ _ _ _ _ _ _ _ _ _ _ _ _ _ _ _ _ _ _ _ _ _ _ _ _ _ _ _ _ _ _ _ _ (by omega) (by omega) (by omega) hMd hNd a1 a2 a3 a4 hwas ⟨Nat.zero_le _, Hk.out⟩ (fun v14 v23 v24 v25 v26 v114 v115 v116 v117 v118 v119 v120 v121 v122 v123 v124 v125 v126 v127 v128 v129 v130 v131 v132 v133 v134 v135 v136 v137 v138 v139 v140 v141 v142 v143 r V1 hI hx => ?_)
    have K1 := Lib.hid hI.2
    clear hI hx Hk a1 a2 a3 a4 hwas g1 g2 g3
    go_wp2_with fail
    exact HK.out _ _ _ _ _ _ _ _ _ _ _ _ _ _ _ _ _ _ _ _ _ _ _ _ _ _ _ _ _ _ _ _ _ _ _ _ _ _ _ _ _ _ _ ⟨by omega, K1.out⟩ (by omega)
  · have i1 : ¬ (d : Int) < (D : Int) := by omega
    have Hin := Lib.hid (show d = D by omega)
    clear HK hk
    go_wp2_with fail
    exact HX.out _ _ _ _ _ _ _ _ _ _ _ _ _ _ _ _ _ _ _ _ _ _ _ _ _ _ _ _ _ _ _ _ _ _ _ _ _ _ _ _ _ _ Hin.out
set_option maxRecDepth 100000 in
set_option maxHeartbeats 3200000 in
theorem rqC {W0 : World} {b b2 gt D : Nat} {l' c' : Int} {H H2 : BH} {M N : Bch} {LK : List (Nat × Obj)}  {w : World} (u0 u1 u2 u3 u4 u5 u6 u7 u8 u9 u10 u11 u12 u13 u14 u15 u19 u20 u22 u23 u24 u25 u26 u27 u28 u29 u30 u31 u32 u33 u34 u35 u36 u37 u38 u39 u40 u41 u42 u43 u44 u45 u46 u47 u48 u49 u50 u51 u52 u53 u54 u55 u56 u57 u58 u59 u60 u61 u62 u63 u64 u65 u66 u67 u68 u69 u70 u71 u72 u73 u74 u75 u76 u77 u78 u79 u80 u81 u82 u83 u84 u85 u86 u87 u88 u89 u90 u91 u92 u93 u94 u95 u96 u97 u98 u99 u100 u101 u102 u103 u104 u105 u106 u107 u108 u109 u110 u111 u112 u113 u114 u115 u116 u117 u118 u119 u120 u121 u122 u123 u124 u125 u126 u127 u128 u129 u130 u131 u132 u133 u134 u135 u136 u137 u138 u139 u140 u141 u142 u143 u144 : Value) (Q : Exit → Act → World → Prop) (hD8 : D ≤ 8) (hgb : (gt, Obj.cells #[.int .i64 l', .int .i64 (D : Int), .int .i64 c'] 25 (0, 0)) ∈ LK) (hMn : M.n = D) (hNn : N.n = D) (hMd : M.down = false) (hNd : N.down = false) (hMf : ∀ d, d < D → (M.D d).f = false) (hNf : ∀ d, d < D → (N.D d).f = false) (h32 : ∀ d, d < D → ∀ r, r < 52 → (secAt (N.D d).now r).length = 32) (hsame : ∀ d, d < D → ∀ r, r < 52 → secAt (M.D d).now r = secAt (N.D d).now r) (hwas : ∀ V : World, (∀ p ∈ LK, V.heap[p.1]? = some p.2) → BAt V W0.heap.size b2 H2 N) (hI : (0 ≤ D ∧ KS W0 w b H M LK [] []))
    (hX : ∀ (v14 v22 v23 v24 v25 v26 v108 v109 v110 v111 v112 v113 v114 v115 v116 v117 v118 v119 v120 v121 v122 v123 v124 v125 v126 v127 v128 v129 v130 v131 v132 v133 v134 v135 v136 v137 v138 v139 v140 v141 v142 v143 : Value) (d : Nat) (V : World), (d ≤ D ∧ KS W0 V b H M LK [] []) → (d = D) → Q (.exit 0) ⟨List.toArray (u0 :: u1 :: u2 :: u3 :: u4 :: u5 :: u6 :: u7 :: u8 :: u9 :: u10 :: u11 :: u12 :: u13 :: v14 :: u15 :: (.pointer (some ⟨gt, 0, none⟩)) :: (.pointer (some ⟨b, 0, none⟩)) :: (.pointer (some ⟨b2, 0, none⟩)) :: u19 :: u20 :: (.int .i64 ((d : Nat) : Int)) :: v22 :: v23 :: v24 :: v25 :: v26 :: u27 :: u28 :: u29 :: u30 :: u31 :: u32 :: u33 :: u34 :: u35 :: u36 :: u37 :: u38 :: u39 :: u40 :: u41 :: u42 :: u43 :: u44 :: u45 :: u46 :: u47 :: u48 :: u49 :: u50 :: u51 :: u52 :: u53 :: u54 :: u55 :: u56 :: u57 :: u58 :: u59 :: u60 :: u61 :: u62 :: u63 :: u64 :: u65 :: u66 :: u67 :: u68 :: u69 :: u70 :: u71 :: u72 :: u73 :: u74 :: u75 :: u76 :: u77 :: u78 :: u79 :: u80 :: u81 :: u82 :: u83 :: u84 :: u85 :: u86 :: u87 :: u88 :: u89 :: u90 :: u91 :: u92 :: u93 :: u94 :: u95 :: u96 :: u97 :: u98 :: u99 :: u100 :: u101 :: u102 :: u103 :: u104 :: u105 :: u106 :: u107 :: v108 :: v109 :: v110 :: v111 :: v112 :: v113 :: v114 :: v115 :: v116 :: v117 :: v118 :: v119 :: v120 :: v121 :: v122 :: v123 :: v124 :: v125 :: v126 :: v127 :: v128 :: v129 :: v130 :: v131 :: v132 :: v133 :: v134 :: v135 :: v136 :: v137 :: v138 :: v139 :: v140 :: v141 :: v142 :: v143 :: u144 :: []), []⟩ V) :
    Code.wp Try.prog (.loop (sub [1, 1, 1, 1, 1, 1, 1, 1, 1, 1, 1, 1, 1, 1, 1, 1, 1, 0, 1, 0, 0] codeRQ)) Q ⟨List.toArray (u0 :: u1 :: u2 :: u3 :: u4 :: u5 :: u6 :: u7 :: u8 :: u9 :: u10 :: u11 :: u12 :: u13 :: u14 :: u15 :: (.pointer (some ⟨gt, 0, none⟩)) :: (.pointer (some ⟨b, 0, none⟩)) :: (.pointer (some ⟨b2, 0, none⟩)) :: u19 :: u20 :: (.int .i64 ((0 : Nat) : Int)) :: u22 :: u23 :: u24 :: u25 :: u26 :: u27 :: u28 :: u29 :: u30 :: u31 :: u32 :: u33 :: u34 :: u35 :: u36 :: u37 :: u38 :: u39 :: u40 :: u41 :: u42 :: u43 :: u44 :: u45 :: u46 :: u47 :: u48 :: u49 :: u50 :: u51 :: u52 :: u53 :: u54 :: u55 :: u56 :: u57 :: u58 :: u59 :: u60 :: u61 :: u62 :: u63 :: u64 :: u65 :: u66 :: u67 :: u68 :: u69 :: u70 :: u71 :: u72 :: u73 :: u74 :: u75 :: u76 :: u77 :: u78 :: u79 :: u80 :: u81 :: u82 :: u83 :: u84 :: u85 :: u86 :: u87 :: u88 :: u89 :: u90 :: u91 :: u92 :: u93 :: u94 :: u95 :: u96 :: u97 :: u98 :: u99 :: u100 :: u101 :: u102 :: u103 :: u104 :: u105 :: u106 :: u107 :: u108 :: u109 :: u110 :: u111 :: u112 :: u113 :: u114 :: u115 :: u116 :: u117 :: u118 :: u119 :: u120 :: u121 :: u122 :: u123 :: u124 :: u125 :: u126 :: u127 :: u128 :: u129 :: u130 :: u131 :: u132 :: u133 :: u134 :: u135 :: u136 :: u137 :: u138 :: u139 :: u140 :: u141 :: u142 :: u143 :: u144 :: []), []⟩ w := by
  refine wp_loop_ghost (fun gk a V => ∀ C : Prop, (∀ (u14 u22 u23 u24 u25 u26 u108 u109 u110 u111 u112 u113 u114 u115 u116 u117 u118 u119 u120 u121 u122 u123 u124 u125 u126 u127 u128 u129 u130 u131 u132 u133 u134 u135 u136 u137 u138 u139 u140 u141 u142 u143 : Value) (d : Nat), gk = D - d → (d ≤ D ∧ KS W0 V b H M LK [] []) → a = ⟨List.toArray (u0 :: u1 :: u2 :: u3 :: u4 :: u5 :: u6 :: u7 :: u8 :: u9 :: u10 :: u11 :: u12 :: u13 :: u14 :: u15 :: (.pointer (some ⟨gt, 0, none⟩)) :: (.pointer (some ⟨b, 0, none⟩)) :: (.pointer (some ⟨b2, 0, none⟩)) :: u19 :: u20 :: (.int .i64 ((d : Nat) : Int)) :: u22 :: u23 :: u24 :: u25 :: u26 :: u27 :: u28 :: u29 :: u30 :: u31 :: u32 :: u33 :: u34 :: u35 :: u36 :: u37 :: u38 :: u39 :: u40 :: u41 :: u42 :: u43 :: u44 :: u45 :: u46 :: u47 :: u48 :: u49 :: u50 :: u51 :: u52 :: u53 :: u54 :: u55 :: u56 :: u57 :: u58 :: u59 :: u60 :: u61 :: u62 :: u63 :: u64 :: u65 :: u66 :: u67 :: u68 :: u69 :: u70 :: u71 :: u72 :: u73 :: u74 :: u75 :: u76 :: u77 :: u78 :: u79 :: u80 :: u81 :: u82 :: u83 :: u84 :: u85 :: u86 :: u87 :: u88 :: u89 :: u90 :: u91 :: u92 :: u93 :: u94 :: u95 :: u96 :: u97 :: u98 :: u99 :: u100 :: u101 :: u102 :: u103 :: u104 :: u105 :: u106 :: u107 :: u108 :: u109 :: u110 :: u111 :: u112 :: u113 :: u114 :: u115 :: u116 :: u117 :: u118 :: u119 :: u120 :: u121 :: u122 :: u123 :: u124 :: u125 :: u126 :: u127 :: u128 :: u129 :: u130 :: u131 :: u132 :: u133 :: u134 :: u135 :: u136 :: u137 :: u138 :: u139 :: u140 :: u141 :: u142 :: u143 :: u144 :: []), []⟩ → C) → C) (D - 0) ?_ ?_
  · intro C hC
    exact hC _ _ _ _ _ _ _ _ _ _ _ _ _ _ _ _ _ _ _ _ _ _ _ _ _ _ _ _ _ _ _ _ _ _ _ _ _ _ _ _ _ _ (0) rfl hI rfl
  · intro gk a V hI'
    refine hI' _ ?_
    intro u14 u22 u23 u24 u25 u26 u108 u109 u110 u111 u112 u113 u114 u115 u116 u117 u118 u119 u120 u121 u122 u123 u124 u125 u126 u127 u128 u129 u130 u131 u132 u133 u134 u135 u136 u137 u138 u139 u140 u141 u142 u143 d hk hinv ha
    subst ha
    subst hk
    refine rqCb _ _ _ _ _ _ _ _ _ _ _ _ _ _ _ _ _ _ _ _ _ _ _ _ _ _ _ _ _ _ _ _ _ _ _ _ _ _ _ _ _ _ _ _ _ _ _ _ _ _ _ _ _ _ _ _ _ _ _ _ _ _ _ _ _ _ _ _ _ _ _ _ _ _ _ _ _ _ _ _ _ _ _ _ _ _ _ _ _ _ _ _ _ _ _ _ _ _ _ _ _ _ _ _ _ _ _ _ _ _ _ _ _ _ _ _ _ _ _ _ _ _ _ _ _ _ _ _ _ _ _ _ _ _ _ _ _ _ _ _ _ _ _ hD8 hgb hMn hNn hMd hNd hMf hNf h32 hsame hwas hinv (fun v14 v22 v23 v24 v25 v26 v108 v109 v110 v111 v112 v113 v114 v115 v116 v117 v118 v119 v120 v121 v122 v123 v124 v125 v126 v127 v128 v129 v130 v131 v132 v133 v134 v135 v136 v137 v138 v139 v140 v141 v142 v143  V2 h2 hm => ?_) (fun v14 v22 v23 v24 v25 v26 v108 v109 v110 v111 v112 v113 v114 v115 v116 v117 v118 v119 v120 v121 v122 v123 v124 v125 v126 v127 v128 v129 v130 v131 v132 v133 v134 v135 v136 v137 v138 v139 v140 v141 v142 v143 hx => hX v14 v22 v23 v24 v25 v26 v108 v109 v110 v111 v112 v113 v114 v115 v116 v117 v118 v119 v120 v121 v122 v123 v124 v125 v126 v127 v128 v129 v130 v131 v132 v133 v134 v135 v136 v137 v138 v139 v140 v141 v142 v143 d V hinv hx)
    refine ⟨_, hm, fun C hC => ?_⟩
    exact hC v14 v22 v23 v24 v25 v26 v108 v109 v110 v111 v112 v113 v114 v115 v116 v117 v118 v119 v120 v121 v122 v123 v124 v125 v126 v127 v128 v129 v130 v131 v132 v133 v134 v135 v136 v137 v138 v139 v140 v141 v142 v143 ((d + 1)) rfl h2 rfl
end Go.Proofs.Ytadmofpipfdedaa
end
