/- StripeWrites: plain, and its loop. -/
import Derived.Test.YtpaegibaikpikaaSbbj
import Derived.Test.YtpaegibaikpikaaSbbl
set_option linter.unusedVariables false
set_option linter.unusedSimpArgs false
namespace Go.Proofs.Ytpaegibaikpikaa
open Go.RowKit

noncomputable def codeSW : Code := Try.f6.body.getD .skip
theorem sub_seqQ {P : Program} {c c1 c2 : Code} {Q : Exit → Act → World → Prop} {a : Act} {w : World} (h : c = .seq c1 c2) (h2 : c1.wp P (Exit.then (fun a w => c2.wp P Q a w) Q) a w) : c.wp P Q a w := by
  subst h; exact wp_seq h2
/-- A bench on which rows stand, with power, no limit, nothing pending. -/
structure Sd (N : Bch) (m D : Nat) (fl : Nat → List (List UInt8)) : Prop where
  std : Std N m D fl
  lf : N.left = -1
  done : N.done = 0
  ps : ∀ i, i < m → (N.D i).ps = []
  ok : ∀ i, i < m → (N.D i).Ok
theorem Fld.sd {N : Bch} {m D : Nat} {fl : Nat → List (List UInt8)} (h : Fld N m D fl 16 0) : Sd N m D fl := ⟨h.std, h.gd.lf, h.gd.done, h.gd.ps, h.gd.ok⟩
theorem Sd.fail {N : Bch} {m D : Nat} {fl : Nat → List (List UInt8)} (h : Sd N m D fl) {d : Nat} (hd : d < m) : Sd (N.fail (d : Int)) m D fl := by
  have hn : d < N.n := by rw [h.std.n]; exact hd
  refine ⟨h.std.fail hd, ?_, ?_, fun i hi => ?_, fun i hi => ?_⟩
  · unfold Bch.fail; split
    · exact h.lf
    · exact h.lf
  · unfold Bch.fail; split
    · exact h.done
    · exact h.done
  · rw [fail_D hn]; split
    · rfl
    · exact h.ps i hi
  · rw [fail_D hn]; split
    · exact Dsk.failed_ok
    · exact h.ok i hi
theorem offs_cnt {N M : Bch} {lv : List Bool} {a D : Nat} {xs : List (List UInt8)} (g : SwG N M lv a xs D) (hps : ∀ i, i < D → (N.D i).ps = []) : ∀ k, k ≤ D → offs M.D k = cntB k (srvD N lv)
  | 0, _ => rfl
  | k + 1, hk => by
    rw [cntB_succ]
    show offs M.D k + (M.D k).ps.length = _
    rw [offs_cnt g hps k (by omega), g.D k]
    cases hs : srvD N lv k with
    | true => rw [if_pos ⟨by omega, rfl⟩, if_pos rfl]; simp [Dsk.write, hps k (by omega)]
    | false => rw [if_neg (by simp), if_neg (by decide), hps k (by omega)]; rfl
theorem gonL_cnt (N : Bch) (lv : List Bool) : ∀ k, (gonL N lv k).length + cntB k (srvD N lv) = k
  | 0 => rfl
  | k + 1 => by
    have ih := gonL_cnt N lv k
    rw [cntB_succ]
    unfold gonL
    cases hs : srvD N lv k with
    | true => rw [if_neg (by decide), if_pos rfl]; omega
    | false => rw [if_pos rfl, if_neg (by decide), List.length_cons]; omega
theorem gonL_congr {N M : Bch} {lv : List Bool} (h : ∀ i, srvD M lv i = srvD N lv i) : ∀ k, gonL M lv k = gonL N lv k
  | 0 => rfl
  | k + 1 => by unfold gonL; rw [h k, gonL_congr h k]
/-- Behind a Flush nothing is pending. -/
theorem flush_pend {N M M2 : Bch} {lv : List Bool} {a D : Nat} {xs : List (List UInt8)} (g : SwG N M lv a xs D) (hps : ∀ i, i < D → (N.D i).ps = []) (hn : N.n = D) (f : FlG M M2 lv M.n) : M2.pend = 0 := by
  unfold Bch.pend
  refine offs_zero fun i hi => ?_
  rw [f.n, g.n, hn] at hi
  rw [f.D i]
  unfold flD
  rw [g.n, hn]
  by_cases hl : lv.getD i false = true
  · rw [if_pos ⟨hi, hl⟩]
    unfold Dsk.flushE
    split
    · next hf =>
      rw [g.D i] at hf ⊢
      rw [if_neg (fun e => ?_)]
      · exact hps i hi
      · rw [if_pos e] at hf
        have h3 := (srvD_yes e.2).2.2
        rw [show ((N.D i).write a (xs.getD i [])).f = (N.D i).f from rfl, h3] at hf
        cases hf
    · rfl
  · rw [if_neg (fun e => hl e.2), g.D i, if_neg (fun e => hl (srvD_yes e.2).2.1)]
    exact hps i hi
theorem pend_none {N : Bch} {m : Nat} (hn : N.n = m) (hps : ∀ i, i < m → (N.D i).ps = []) : N.pend = 0 := by
  unfold Bch.pend
  exact offs_zero fun i hi => hps i (by omega)
/-- What stands behind a Write. -/
theorem written_sec {N M : Bch} {lv : List Bool} {D ρ : Nat} {x : List (List UInt8)} {fl : Nat → List (List UInt8)} (h : Sd N D D fl) (g : SwG N M lv (36 + ρ) x D) (hρ : ρ < 16) (hx : ∀ i, i < D → (x.getD i []).length = 32) {i : Nat} (hi : i < D) (hf : (M.D i).f = false) :
    secAt (M.D i).now (36 + ρ) = if srvD M lv i = true then x.getD i [] else (fl ρ).getD i [] := by
  rw [g.srv i]
  rw [g.D i] at hf ⊢
  cases hs : srvD N lv i with
  | true =>
    rw [if_pos ⟨hi, rfl⟩, if_pos rfl, Dsk.write_now]
    exact sec_put_same (h.ok i hi).now (by omega) (hx i hi)
  | false =>
    rw [hs] at hf
    rw [if_neg (by simp)] at hf ⊢
    rw [if_neg (by decide)]
    exact h.std.at' i hi ρ hρ hf
set_option maxRecDepth 100000 in
set_option maxHeartbeats 3200000 in
theorem swAb {W0 : World} {n l c : Int} {D F W ρ b gb gl gx cz mb : Nat} {A : Option Addr} {zs : List Int} {lv : List Bool} {fx : List (List UInt8)} {H : BH} {N : Bch} {d : Nat} {w : World} (u0 u2 u3 u4 u6 u7 u8 u9 u10 u11 u12 u13 u14 u17 u18 u19 u21 u22 u25 u26 u27 u28 u29 u30 u31 u32 u33 u34 u35 u36 u37 u38 u39 u40 u41 u42 u43 u44 u45 u46 u47 u48 u49 u50 u51 u52 u53 u54 u55 u56 u57 u58 u59 u60 u61 u62 u63 u64 u65 u66 u67 u68 u69 u70 u71 u72 u73 u74 u75 u76 u77 u78 u79 u80 u81 u82 u83 u84 u85 u86 u87 u88 u89 u90 u91 u92 u93 u94 u95 u96 u97 u98 u99 u100 u101 u102 u103 u104 u105 u106 u107 u108 u109 u110 u111 u112 u113 u114 u115 u116 u117 u118 u119 u120 u121 u122 u123 u124 u125 u126 u127 u128 u129 u130 u131 u132 u133 u134 u135 u136 u137 u138 u139 u140 u141 u142 u143 u144 u145 u146 u147 u148 u149 u150 u151 u152 u153 u154 u155 u156 u157 u158 u159 u160 u161 u162 u163 u164 u165 : Value) (K : Act → World → Prop) (Q0 : Exit → Act → World → Prop) (gr : Gr n l c (ρ : Int) D F W) (hρ : ρ < 16) (hz : RdZ W0 W0.heap.size A zs) (hcz : zs.length ≤ cz) (hfl : fx.length = D) (h32 : ∀ i, i < D → (fx.getD i []).length = 32) (hn : N.n = D) (hdn : N.down = false) (hsec : ∀ i, i < D → (N.D i).f = false → secAt (N.D i).now (36 + ρ) = if srvD N lv i = true then fx.getD i [] else (rowL l c D W zs ρ).getD i []) (hI : (d ≤ D ∧ KS W0 w b H N [(gl, Obj.cells (lv.map Value.bool).toArray 4 (0, 0)), (gb, Obj.cells #[.int .i64 l, .int .i64 (D : Int), .int .i64 c] 24 (0, 0))] [(some ⟨gx, 0, none⟩, fx)] [] ∧ SetI w mb (gonL N lv D)))
    (hK : ∀ (v14 v25 v26 v27 v28 v29 v107 v108 v109 v110 v111 v112 v113 v114 v115 v116 v117 v118 v119 v120 v121 v122 v123 v124 v125 v126 v127 v128 v129 v130 v131 v132 v133 v134 v135 v136 v137 v138 v139 v140 v141 v142 v143 v144 v145 v146 v147 v148 v149 v150 v151 v152 : Value)  (V : World), ((d + 1) ≤ D ∧ KS W0 V b H N [(gl, Obj.cells (lv.map Value.bool).toArray 4 (0, 0)), (gb, Obj.cells #[.int .i64 l, .int .i64 (D : Int), .int .i64 c] 24 (0, 0))] [(some ⟨gx, 0, none⟩, fx)] [] ∧ SetI V mb (gonL N lv D)) → D - (d + 1) < D - d → K ⟨List.toArray (u0 :: (.slice A zs.length cz) :: u2 :: u3 :: u4 :: (.int .i64 (ρ : Int)) :: u6 :: u7 :: u8 :: u9 :: u10 :: u11 :: u12 :: u13 :: v14 :: (.pointer (some ⟨gb, 0, none⟩)) :: (.pointer (some ⟨b, 0, none⟩)) :: u17 :: u18 :: u19 :: (.slice (some ⟨gx, 0, none⟩) D D) :: u21 :: u22 :: (.map (some mb)) :: (.int .i64 (((d + 1) : Nat) : Int)) :: v25 :: v26 :: v27 :: v28 :: v29 :: u30 :: u31 :: u32 :: u33 :: u34 :: u35 :: u36 :: u37 :: u38 :: u39 :: u40 :: u41 :: u42 :: u43 :: u44 :: u45 :: u46 :: u47 :: u48 :: u49 :: u50 :: u51 :: u52 :: u53 :: u54 :: u55 :: u56 :: u57 :: u58 :: u59 :: u60 :: u61 :: u62 :: u63 :: u64 :: u65 :: u66 :: u67 :: u68 :: u69 :: u70 :: u71 :: u72 :: u73 :: u74 :: u75 :: u76 :: u77 :: u78 :: u79 :: u80 :: u81 :: u82 :: u83 :: u84 :: u85 :: u86 :: u87 :: u88 :: u89 :: u90 :: u91 :: u92 :: u93 :: u94 :: u95 :: u96 :: u97 :: u98 :: u99 :: u100 :: u101 :: u102 :: u103 :: u104 :: u105 :: u106 :: v107 :: v108 :: v109 :: v110 :: v111 :: v112 :: v113 :: v114 :: v115 :: v116 :: v117 :: v118 :: v119 :: v120 :: v121 :: v122 :: v123 :: v124 :: v125 :: v126 :: v127 :: v128 :: v129 :: v130 :: v131 :: v132 :: v133 :: v134 :: v135 :: v136 :: v137 :: v138 :: v139 :: v140 :: v141 :: v142 :: v143 :: v144 :: v145 :: v146 :: v147 :: v148 :: v149 :: v150 :: v151 :: v152 :: u153 :: u154 :: u155 :: u156 :: u157 :: u158 :: u159 :: u160 :: u161 :: u162 :: u163 :: u164 :: u165 :: []), []⟩ V)
    (hX : ∀ (v14 v25 v26 v27 v28 v29 v107 v108 v109 v110 v111 v112 v113 v114 v115 v116 v117 v118 v119 v120 v121 v122 v123 v124 v125 v126 v127 v128 v129 v130 v131 v132 v133 v134 v135 v136 v137 v138 v139 v140 v141 v142 v143 v144 v145 v146 v147 v148 v149 v150 v151 v152 : Value), (d = D) → Q0 (.exit 0) ⟨List.toArray (u0 :: (.slice A zs.length cz) :: u2 :: u3 :: u4 :: (.int .i64 (ρ : Int)) :: u6 :: u7 :: u8 :: u9 :: u10 :: u11 :: u12 :: u13 :: v14 :: (.pointer (some ⟨gb, 0, none⟩)) :: (.pointer (some ⟨b, 0, none⟩)) :: u17 :: u18 :: u19 :: (.slice (some ⟨gx, 0, none⟩) D D) :: u21 :: u22 :: (.map (some mb)) :: (.int .i64 ((d : Nat) : Int)) :: v25 :: v26 :: v27 :: v28 :: v29 :: u30 :: u31 :: u32 :: u33 :: u34 :: u35 :: u36 :: u37 :: u38 :: u39 :: u40 :: u41 :: u42 :: u43 :: u44 :: u45 :: u46 :: u47 :: u48 :: u49 :: u50 :: u51 :: u52 :: u53 :: u54 :: u55 :: u56 :: u57 :: u58 :: u59 :: u60 :: u61 :: u62 :: u63 :: u64 :: u65 :: u66 :: u67 :: u68 :: u69 :: u70 :: u71 :: u72 :: u73 :: u74 :: u75 :: u76 :: u77 :: u78 :: u79 :: u80 :: u81 :: u82 :: u83 :: u84 :: u85 :: u86 :: u87 :: u88 :: u89 :: u90 :: u91 :: u92 :: u93 :: u94 :: u95 :: u96 :: u97 :: u98 :: u99 :: u100 :: u101 :: u102 :: u103 :: u104 :: u105 :: u106 :: v107 :: v108 :: v109 :: v110 :: v111 :: v112 :: v113 :: v114 :: v115 :: v116 :: v117 :: v118 :: v119 :: v120 :: v121 :: v122 :: v123 :: v124 :: v125 :: v126 :: v127 :: v128 :: v129 :: v130 :: v131 :: v132 :: v133 :: v134 :: v135 :: v136 :: v137 :: v138 :: v139 :: v140 :: v141 :: v142 :: v143 :: v144 :: v145 :: v146 :: v147 :: v148 :: v149 :: v150 :: v151 :: v152 :: u153 :: u154 :: u155 :: u156 :: u157 :: u158 :: u159 :: u160 :: u161 :: u162 :: u163 :: u164 :: u165 :: []), []⟩ w) :
    Code.wp Try.prog (sub [1, 1, 1, 1, 1, 1, 1, 1, 1, 1, 1, 1, 1, 1, 1, 0, 1, 0, 0] codeSW) (Exit.then K Q0) ⟨List.toArray (u0 :: (.slice A zs.length cz) :: u2 :: u3 :: u4 :: (.int .i64 (ρ : Int)) :: u6 :: u7 :: u8 :: u9 :: u10 :: u11 :: u12 :: u13 :: u14 :: (.pointer (some ⟨gb, 0, none⟩)) :: (.pointer (some ⟨b, 0, none⟩)) :: u17 :: u18 :: u19 :: (.slice (some ⟨gx, 0, none⟩) D D) :: u21 :: u22 :: (.map (some mb)) :: (.int .i64 ((d : Nat) : Int)) :: u25 :: u26 :: u27 :: u28 :: u29 :: u30 :: u31 :: u32 :: u33 :: u34 :: u35 :: u36 :: u37 :: u38 :: u39 :: u40 :: u41 :: u42 :: u43 :: u44 :: u45 :: u46 :: u47 :: u48 :: u49 :: u50 :: u51 :: u52 :: u53 :: u54 :: u55 :: u56 :: u57 :: u58 :: u59 :: u60 :: u61 :: u62 :: u63 :: u64 :: u65 :: u66 :: u67 :: u68 :: u69 :: u70 :: u71 :: u72 :: u73 :: u74 :: u75 :: u76 :: u77 :: u78 :: u79 :: u80 :: u81 :: u82 :: u83 :: u84 :: u85 :: u86 :: u87 :: u88 :: u89 :: u90 :: u91 :: u92 :: u93 :: u94 :: u95 :: u96 :: u97 :: u98 :: u99 :: u100 :: u101 :: u102 :: u103 :: u104 :: u105 :: u106 :: u107 :: u108 :: u109 :: u110 :: u111 :: u112 :: u113 :: u114 :: u115 :: u116 :: u117 :: u118 :: u119 :: u120 :: u121 :: u122 :: u123 :: u124 :: u125 :: u126 :: u127 :: u128 :: u129 :: u130 :: u131 :: u132 :: u133 :: u134 :: u135 :: u136 :: u137 :: u138 :: u139 :: u140 :: u141 :: u142 :: u143 :: u144 :: u145 :: u146 :: u147 :: u148 :: u149 :: u150 :: u151 :: u152 :: u153 :: u154 :: u155 :: u156 :: u157 :: u158 :: u159 :: u160 :: u161 :: u162 :: u163 :: u164 :: u165 :: []), []⟩ w := by
  have HK := Lib.hid hK
  have HX := Lib.hid hX
  clear hK hX
  conv => arg 2; whnf
  obtain ⟨hd, hk, hS⟩ := hI
  have hd8 := gr.d8
  have hw7 := gr.w7
  obtain ⟨g1, g2, g3⟩ := hk.gat (g := gb) (l := l) (d := (D : Int)) (c := c) (t := 24) (f := (0, 0)) (by simp)
  have Hk := Lib.hid hk
  have HS := Lib.hid hS
  by_cases hlt : d < D
  · have i0 : (0 : Int) ≤ (d : Int) := by omega
    have i1 : (d : Int) < (D : Int) := by omega
    have CFd := bp_failed W0 w b H N hk.bp (d : Int) ⟨by omega, by omega⟩
    rw [failed_D (by rw [hn]; exact hlt)] at CFd
    have hlook := hS.look (d : Int) (by omega)
    rw [gonL_has hlt] at hlook
    have Hgb := Lib.hid (World.block_lt_of_cell? _ _ g1)
    cases hf : (N.D d).f with
    | true =>
      rw [hf] at CFd
      have CFd := Lib.hid CFd
      clear hk hS HX gr hz hsec hlook hf
      go_wp2_with fail
      (with_reducible refine CFd.out.mono ?_); rintro e w1 ⟨rfl, rfl⟩
      go_wp2_with fail
      exact HK.out _ _ _ _ _ _ _ _ _ _ _ _ _ _ _ _ _ _ _ _ _ _ _ _ _ _ _ _ _ _ _ _ _ _ _ _ _ _ _ _ _ _ _ _ _ _ _ _ _ _ _ _ _ ⟨by omega, Hk.out, HS.out⟩ (by omega)
    | false =>
      rw [hf] at CFd
      have CFd := Lib.hid CFd
      have hre := Bch.read_ok (N := N) (d := d) (k := 36 + ρ) (by rw [hn]; exact hlt) (by omega) hf hdn
      rw [show ((36 + ρ : Nat) : Int) = 36 + (ρ : Int) by omega, hsec d hlt hf] at hre
      obtain ⟨Ax, cx, zx, rx⟩ := (hk.rx (some ⟨gx, 0, none⟩, fx) (by simp)).cellAt (k := d) (by show d < fx.length; omega)
      dsimp only at zx rx
      rw [Nat.zero_add, h32 d hlt] at zx
      cases hs : srvD N lv d with
      | true =>
        rw [hs, if_pos rfl] at hre
        rw [hs] at hlook
        have hy32 := h32 d hlt
        clear hk hS HX gr hz hsec hf hs
        go_wp2_with fail
        (with_reducible refine CFd.out.mono ?_); rintro e w1 ⟨rfl, rfl⟩
        have CRd := Lib.hid (bp_read W0 _ b H N Hk.out.bp (d : Int) (36 + (ρ : Int)) ⟨by omega, by omega⟩ ⟨by omega, by omega⟩)
        rw [hre.1, hre.2] at CRd
        go_wp2_with fail
        (with_reducible refine CRd.out.mono ?_); rintro e wr ⟨v, rfl, ho, hbr⟩
        obtain ⟨A8, c8, rfl, _, _⟩ := ho.rd
        have ho2 := ho.rdS.1
        rw [hy32]
        have r8 := (Hk.out.below hbr)
        have CS := sameT_any (c := c8) (c' := cx) hy32.symm hy32.symm ho2 (rx.below hbr).rdb
        have CS := Lib.hid CS
        have K9 := Lib.hid r8
        have S9 := Lib.hid (HS.out.below hbr)
        clear ho ho2 hbr r8 CRd
        go_wp2_with fail
        (with_reducible refine CS.out.mono ?_); rintro e ws ⟨rfl, ms, rfl⟩
        have K10 := Lib.hid ((K9.out.below (belowN _ _ ms)).less (K' := [(gl, Obj.cells (lv.map Value.bool).toArray 4 (0, 0)), (gb, Obj.cells #[.int .i64 l, .int .i64 (D : Int), .int .i64 c] 24 (0, 0))]) (R' := [(some ⟨gx, 0, none⟩, fx)]) (S' := []) (fun _ h => h) (fun _ h => by simp at h ⊢; simp [h]) (fun _ h => h))
        have S10 := Lib.hid (S9.out.below (belowN _ _ ms))
        clear CS K9 S9
        go_wp2_with fail
        exact HK.out _ _ _ _ _ _ _ _ _ _ _ _ _ _ _ _ _ _ _ _ _ _ _ _ _ _ _ _ _ _ _ _ _ _ _ _ _ _ _ _ _ _ _ _ _ _ _ _ _ _ _ _ _ ⟨by omega, K10.out, S10.out⟩ (by omega)
      | false =>
        rw [hs, if_neg (by decide)] at hre
        rw [hs] at hlook
        have hy32 := rowL_32 gr (zs := zs) hρ hlt
        have CDf := Lib.hid (fun V (hb : Below w.heap.size w V) => ks_dataB (Hk.out.below hb) gr ρ (by omega) zs.length cz rfl hcz hz)
        have CFf := Lib.hid (fun (A2 : Option Addr) (c2 : Nat) V (hrd : RdR V V.heap.size A2 (datL zs ρ W)) => refFill_good (cp := c2) hrd (datL_len zs ρ W) (gr.fok (datL_len zs ρ W) datL_mem) gr.eD gr.eF gr.l64 gr.d64 gr.c64 gr.r64)
        have hrl : fillL D F (datL zs ρ W) = rowL l c D W zs ρ := by unfold rowL; rw [gr.eF]
        rw [hrl] at CFf
        clear hk hS HX gr hz hsec hf hs rx hrl
        go_wp2_with fail
        (with_reducible refine CFd.out.mono ?_); rintro e w1 ⟨rfl, rfl⟩
        go_wp2_with fail
        refine wp_region_noPanic (region_ord 12 [] (fun V => Below w1.heap.size w1 V) (by kernel_rfl) (by kernel_rfl) (fun _ _ _ _ _ h => h) fun R => ?_)
        change anyI _ _ _ _ _ _ 12 _ _ w1.drew
        have HS0 := Lib.hid (show (fun V => Below w1.heap.size w1 V) w1.drew from (Below.refl _ _).drew)
        refine' anyI_take R 0 rfl (v := ?_) (by kernel_rfl) (by rfl) (fun V hV => ?hy) HS0.out ?_
        case hy => ((try dsimp only at hV);  have y0 := (hV.cell (p := ⟨gb, 0, none⟩) Hgb.out).trans g1; have y1 := (hV.cell (p := ⟨gb, 1, none⟩) Hgb.out).trans g2; have y2 := (hV.cell (p := ⟨gb, 2, none⟩) Hgb.out).trans g3; go_simp; try with_reducible rfl)
        try simp only [Act.put, List.getElem_toArray, List.getElem_cons_succ, List.getElem_cons_zero, List.setIfInBounds_toArray, List.set_cons_zero, List.set_cons_succ]
        refine' anyI_take R 1 rfl (v := ?_) (by kernel_rfl) (by rfl) (fun V hV => ?hy) HS0.out ?_
        case hy => ((try dsimp only at hV);  have y0 := (hV.cell (p := ⟨gb, 0, none⟩) Hgb.out).trans g1; have y1 := (hV.cell (p := ⟨gb, 1, none⟩) Hgb.out).trans g2; have y2 := (hV.cell (p := ⟨gb, 2, none⟩) Hgb.out).trans g3; go_simp; try with_reducible rfl)
        try simp only [Act.put, List.getElem_toArray, List.getElem_cons_succ, List.getElem_cons_zero, List.setIfInBounds_toArray, List.set_cons_zero, List.set_cons_succ]
        refine' anyI_take R 2 rfl (v := ?_) (by kernel_rfl) (by rfl) (fun V hV => ?hy) HS0.out ?_
        case hy => ((try dsimp only at hV);  have y0 := (hV.cell (p := ⟨gb, 0, none⟩) Hgb.out).trans g1; have y1 := (hV.cell (p := ⟨gb, 1, none⟩) Hgb.out).trans g2; have y2 := (hV.cell (p := ⟨gb, 2, none⟩) Hgb.out).trans g3; go_simp; try with_reducible rfl)
        try simp only [Act.put, List.getElem_toArray, List.getElem_cons_succ, List.getElem_cons_zero, List.setIfInBounds_toArray, List.set_cons_zero, List.set_cons_succ]
        refine' anyI_take R 3 rfl (v := ?_) (by kernel_rfl) (by rfl) (fun V hV => ?hy) HS0.out ?_
        case hy => ((try dsimp only at hV);  have y0 := (hV.cell (p := ⟨gb, 0, none⟩) Hgb.out).trans g1; have y1 := (hV.cell (p := ⟨gb, 1, none⟩) Hgb.out).trans g2; have y2 := (hV.cell (p := ⟨gb, 2, none⟩) Hgb.out).trans g3; go_simp; try with_reducible rfl)
        try simp only [Act.put, List.getElem_toArray, List.getElem_cons_succ, List.getElem_cons_zero, List.setIfInBounds_toArray, List.set_cons_zero, List.set_cons_succ]
        refine' anyI_take R 4 rfl (v := ?_) (by kernel_rfl) (by rfl) (fun V hV => ?hy) HS0.out ?_
        case hy => ((try dsimp only at hV);  have y0 := (hV.cell (p := ⟨gb, 0, none⟩) Hgb.out).trans g1; have y1 := (hV.cell (p := ⟨gb, 1, none⟩) Hgb.out).trans g2; have y2 := (hV.cell (p := ⟨gb, 2, none⟩) Hgb.out).trans g3; go_simp; try with_reducible rfl)
        try simp only [Act.put, List.getElem_toArray, List.getElem_cons_succ, List.getElem_cons_zero, List.setIfInBounds_toArray, List.set_cons_zero, List.set_cons_succ]
        refine anyI_one 5 (by kernel_rfl) rfl ?_
        try simp only [List.getElem_toArray, List.getElem_cons_succ, List.getElem_cons_zero]
        refine opE_step ?_
        rw [if_pos (by rfl)]
        go_simp
        go_at_call 17
        (with_reducible refine (CDf.out _ HS0.out).mono ?_)
        rintro e w5 ⟨A2, c2, rfl, k2, hb5⟩
        have CF1 := Lib.hid (CFf.out A2 c2 _ (k2.rd (A := A2) (rs := datL zs ρ W) (by simp)))
        have K2d := Lib.hid (k2.less (K' := [(gl, Obj.cells (lv.map Value.bool).toArray 4 (0, 0)), (gb, Obj.cells #[.int .i64 l, .int .i64 (D : Int), .int .i64 c] 24 (0, 0))]) (R' := [(some ⟨gx, 0, none⟩, fx)]) (S' := []) (fun _ h => h) (fun _ h => List.mem_cons_of_mem _ h) (fun _ h => h))
        replace HS0 := Lib.hid (show Below w1.heap.size w1 w5 from HS0.out.trans (hb5.mono HS0.out.size))
        clear hb5 k2
        try dsimp only
        refine ⟨HS0.out, ?_⟩
        try simp only [Act.put, List.getElem_toArray, List.getElem_cons_succ, List.getElem_cons_zero, List.setIfInBounds_toArray, List.set_cons_zero, List.set_cons_succ]
        refine anyI_one 6 (by kernel_rfl) rfl ?_
        try simp only [List.getElem_toArray, List.getElem_cons_succ, List.getElem_cons_zero]
        refine opE_step ?_
        rw [if_pos (by rfl)]
        go_simp
        go_at_call 32
        (with_reducible refine CF1.out.mono ?_)
        rintro e w6 ⟨g26, xs26, rfl, hq, hb6⟩
        have K26 := Lib.hid (K2d.out.rows hb6 (hq.rdf (by omega)))
        replace HS0 := Lib.hid (show Below w1.heap.size w1 w6 from HS0.out.trans (hb6.mono HS0.out.size))
        clear hb6 hq
        try dsimp only
        refine ⟨HS0.out, ?_⟩
        try simp only [Act.put, List.getElem_toArray, List.getElem_cons_succ, List.getElem_cons_zero, List.setIfInBounds_toArray, List.set_cons_zero, List.set_cons_succ]
        refine' anyI_take R 7 rfl (v := ?_) (by kernel_rfl) (by rfl) (fun V hV => ?hy) HS0.out ?_
        case hy => ((try dsimp only at hV);  have y0 := (hV.cell (p := ⟨gb, 0, none⟩) Hgb.out).trans g1; have y1 := (hV.cell (p := ⟨gb, 1, none⟩) Hgb.out).trans g2; have y2 := (hV.cell (p := ⟨gb, 2, none⟩) Hgb.out).trans g3; go_simp; try with_reducible rfl)
        try simp only [Act.put, List.getElem_toArray, List.getElem_cons_succ, List.getElem_cons_zero, List.setIfInBounds_toArray, List.set_cons_zero, List.set_cons_succ]
        refine' anyI_take R 8 rfl (v := ?_) (by kernel_rfl) (by rfl) (fun V hV => ?hy) HS0.out ?_
        case hy => ((try dsimp only at hV);  have y0 := (hV.cell (p := ⟨gb, 0, none⟩) Hgb.out).trans g1; have y1 := (hV.cell (p := ⟨gb, 1, none⟩) Hgb.out).trans g2; have y2 := (hV.cell (p := ⟨gb, 2, none⟩) Hgb.out).trans g3; go_simp; try with_reducible rfl)
        try simp only [Act.put, List.getElem_toArray, List.getElem_cons_succ, List.getElem_cons_zero, List.setIfInBounds_toArray, List.set_cons_zero, List.set_cons_succ]
        refine' anyI_take R 9 rfl (v := ?_) (by kernel_rfl) (by rfl) (fun V hV => ?hy) HS0.out ?_
        case hy => ((try dsimp only at hV);  have y0 := (hV.cell (p := ⟨gb, 0, none⟩) Hgb.out).trans g1; have y1 := (hV.cell (p := ⟨gb, 1, none⟩) Hgb.out).trans g2; have y2 := (hV.cell (p := ⟨gb, 2, none⟩) Hgb.out).trans g3; go_simp; try with_reducible rfl)
        try simp only [Act.put, List.getElem_toArray, List.getElem_cons_succ, List.getElem_cons_zero, List.setIfInBounds_toArray, List.set_cons_zero, List.set_cons_succ]
        refine' anyI_take R 10 rfl (v := ?_) (by kernel_rfl) (by rfl) (fun V hV => ?hy) HS0.out ?_
        case hy => ((try dsimp only at hV);  have y0 := (hV.cell (p := ⟨gb, 0, none⟩) Hgb.out).trans g1; have y1 := (hV.cell (p := ⟨gb, 1, none⟩) Hgb.out).trans g2; have y2 := (hV.cell (p := ⟨gb, 2, none⟩) Hgb.out).trans g3; go_simp; try with_reducible rfl)
        try simp only [Act.put, List.getElem_toArray, List.getElem_cons_succ, List.getElem_cons_zero, List.setIfInBounds_toArray, List.set_cons_zero, List.set_cons_succ]
        refine' anyI_take R 11 rfl (v := ?_) (by kernel_rfl) (by rfl) (fun V hV => ?hy) HS0.out ?_
        case hy => ((try dsimp only at hV);  have y0 := (hV.cell (p := ⟨gb, 0, none⟩) Hgb.out).trans g1; have y1 := (hV.cell (p := ⟨gb, 1, none⟩) Hgb.out).trans g2; have y2 := (hV.cell (p := ⟨gb, 2, none⟩) Hgb.out).trans g3; go_simp; try with_reducible rfl)
        try simp only [Act.put, List.getElem_toArray, List.getElem_cons_succ, List.getElem_cons_zero, List.setIfInBounds_toArray, List.set_cons_zero, List.set_cons_succ]
        refine anyI_tail (by kernel_rfl) ?_
        try simp only [List.drop_succ_cons, List.drop_zero]
        clear R
        go_wp2_with fail
        refine NoPanic.normal ?_
        have S26 := Lib.hid (HS.out.below HS0.out)
        obtain ⟨A27, c27, z27, rx27⟩ := (K26.out.rx (some ⟨g26, 0, none⟩, rowL l c D W zs ρ) (by simp)).cellAt (k := d) (by show d < (rowL l c D W zs ρ).length; rw [rowL_len]; exact hlt)
        dsimp only at z27 rx27
        rw [Nat.zero_add, hy32] at z27
        have CRd := Lib.hid (bp_read W0 _ b H N K26.out.bp (d : Int) (36 + (ρ : Int)) ⟨by omega, by omega⟩ ⟨by omega, by omega⟩)
        rw [hre.1, hre.2] at CRd
        go_wp2_with fail
        (with_reducible refine CRd.out.mono ?_); rintro e wr ⟨v, rfl, ho, hbr⟩
        obtain ⟨A8, c8, rfl, _, _⟩ := ho.rd
        have ho2 := ho.rdS.1
        rw [hy32]
        have r8 := (K26.out.below hbr)
        have CS := sameT_any (c := c8) (c' := c27) hy32.symm hy32.symm ho2 (rx27.below hbr).rdb
        have CS := Lib.hid CS
        have K9 := Lib.hid r8
        have S9 := Lib.hid (S26.out.below hbr)
        clear ho ho2 hbr r8 CRd
        go_wp2_with fail
        (with_reducible refine CS.out.mono ?_); rintro e ws ⟨rfl, ms, rfl⟩
        have K10 := Lib.hid ((K9.out.below (belowN _ _ ms)).less (K' := [(gl, Obj.cells (lv.map Value.bool).toArray 4 (0, 0)), (gb, Obj.cells #[.int .i64 l, .int .i64 (D : Int), .int .i64 c] 24 (0, 0))]) (R' := [(some ⟨gx, 0, none⟩, fx)]) (S' := []) (fun _ h => h) (fun _ h => by simp at h ⊢; simp [h]) (fun _ h => h))
        have S10 := Lib.hid (S9.out.below (belowN _ _ ms))
        clear CS K9 S9
        go_wp2_with fail
        exact HK.out _ _ _ _ _ _ _ _ _ _ _ _ _ _ _ _ _ _ _ _ _ _ _ _ _ _ _ _ _ _ _ _ _ _ _ _ _ _ _ _ _ _ _ _ _ _ _ _ _ _ _ _ _ ⟨by omega, K10.out, S10.out⟩ (by omega)
  · have i1 : ¬ (d : Int) < (D : Int) := by omega
    have Hin := Lib.hid (show d = D by omega)
    clear HK hk hS
    go_wp2_with fail
    exact HX.out _ _ _ _ _ _ _ _ _ _ _ _ _ _ _ _ _ _ _ _ _ _ _ _ _ _ _ _ _ _ _ _ _ _ _ _ _ _ _ _ _ _ _ _ _ _ _ _ _ _ _ _ Hin.out
set_option maxRecDepth 100000 in
set_option maxHeartbeats 3200000 in
theorem swA {W0 : World} {n l c : Int} {D F W ρ b gb gl gx cz mb : Nat} {A : Option Addr} {zs : List Int} {lv : List Bool} {fx : List (List UInt8)} {H : BH} {N : Bch}  {w : World} (u0 u2 u3 u4 u6 u7 u8 u9 u10 u11 u12 u13 u14 u17 u18 u19 u21 u22 u25 u26 u27 u28 u29 u30 u31 u32 u33 u34 u35 u36 u37 u38 u39 u40 u41 u42 u43 u44 u45 u46 u47 u48 u49 u50 u51 u52 u53 u54 u55 u56 u57 u58 u59 u60 u61 u62 u63 u64 u65 u66 u67 u68 u69 u70 u71 u72 u73 u74 u75 u76 u77 u78 u79 u80 u81 u82 u83 u84 u85 u86 u87 u88 u89 u90 u91 u92 u93 u94 u95 u96 u97 u98 u99 u100 u101 u102 u103 u104 u105 u106 u107 u108 u109 u110 u111 u112 u113 u114 u115 u116 u117 u118 u119 u120 u121 u122 u123 u124 u125 u126 u127 u128 u129 u130 u131 u132 u133 u134 u135 u136 u137 u138 u139 u140 u141 u142 u143 u144 u145 u146 u147 u148 u149 u150 u151 u152 u153 u154 u155 u156 u157 u158 u159 u160 u161 u162 u163 u164 u165 : Value) (Q : Exit → Act → World → Prop) (gr : Gr n l c (ρ : Int) D F W) (hρ : ρ < 16) (hz : RdZ W0 W0.heap.size A zs) (hcz : zs.length ≤ cz) (hfl : fx.length = D) (h32 : ∀ i, i < D → (fx.getD i []).length = 32) (hn : N.n = D) (hdn : N.down = false) (hsec : ∀ i, i < D → (N.D i).f = false → secAt (N.D i).now (36 + ρ) = if srvD N lv i = true then fx.getD i [] else (rowL l c D W zs ρ).getD i []) (hI : (0 ≤ D ∧ KS W0 w b H N [(gl, Obj.cells (lv.map Value.bool).toArray 4 (0, 0)), (gb, Obj.cells #[.int .i64 l, .int .i64 (D : Int), .int .i64 c] 24 (0, 0))] [(some ⟨gx, 0, none⟩, fx)] [] ∧ SetI w mb (gonL N lv D)))
    (hX : ∀ (v14 v25 v26 v27 v28 v29 v107 v108 v109 v110 v111 v112 v113 v114 v115 v116 v117 v118 v119 v120 v121 v122 v123 v124 v125 v126 v127 v128 v129 v130 v131 v132 v133 v134 v135 v136 v137 v138 v139 v140 v141 v142 v143 v144 v145 v146 v147 v148 v149 v150 v151 v152 : Value) (d : Nat) (V : World), (d ≤ D ∧ KS W0 V b H N [(gl, Obj.cells (lv.map Value.bool).toArray 4 (0, 0)), (gb, Obj.cells #[.int .i64 l, .int .i64 (D : Int), .int .i64 c] 24 (0, 0))] [(some ⟨gx, 0, none⟩, fx)] [] ∧ SetI V mb (gonL N lv D)) → (d = D) → Q (.exit 0) ⟨List.toArray (u0 :: (.slice A zs.length cz) :: u2 :: u3 :: u4 :: (.int .i64 (ρ : Int)) :: u6 :: u7 :: u8 :: u9 :: u10 :: u11 :: u12 :: u13 :: v14 :: (.pointer (some ⟨gb, 0, none⟩)) :: (.pointer (some ⟨b, 0, none⟩)) :: u17 :: u18 :: u19 :: (.slice (some ⟨gx, 0, none⟩) D D) :: u21 :: u22 :: (.map (some mb)) :: (.int .i64 ((d : Nat) : Int)) :: v25 :: v26 :: v27 :: v28 :: v29 :: u30 :: u31 :: u32 :: u33 :: u34 :: u35 :: u36 :: u37 :: u38 :: u39 :: u40 :: u41 :: u42 :: u43 :: u44 :: u45 :: u46 :: u47 :: u48 :: u49 :: u50 :: u51 :: u52 :: u53 :: u54 :: u55 :: u56 :: u57 :: u58 :: u59 :: u60 :: u61 :: u62 :: u63 :: u64 :: u65 :: u66 :: u67 :: u68 :: u69 :: u70 :: u71 :: u72 :: u73 :: u74 :: u75 :: u76 :: u77 :: u78 :: u79 :: u80 :: u81 :: u82 :: u83 :: u84 :: u85 :: u86 :: u87 :: u88 :: u89 :: u90 :: u91 :: u92 :: u93 :: u94 :: u95 :: u96 :: u97 :: u98 :: u99 :: u100 :: u101 :: u102 :: u103 :: u104 :: u105 :: u106 :: v107 :: v108 :: v109 :: v110 :: v111 :: v112 :: v113 :: v114 :: v115 :: v116 :: v117 :: v118 :: v119 :: v120 :: v121 :: v122 :: v123 :: v124 :: v125 :: v126 :: v127 :: v128 :: v129 :: v130 :: v131 :: v132 :: v133 :: v134 :: v135 :: v136 :: v137 :: v138 :: v139 :: v140 :: v141 :: v142 :: v143 :: v144 :: v145 :: v146 :: v147 :: v148 :: v149 :: v150 :: v151 :: v152 :: u153 :: u154 :: u155 :: u156 :: u157 :: u158 :: u159 :: u160 :: u161 :: u162 :: u163 :: u164 :: u165 :: []), []⟩ V) :
    Code.wp Try.prog (.loop (sub [1, 1, 1, 1, 1, 1, 1, 1, 1, 1, 1, 1, 1, 1, 1, 0, 1, 0, 0] codeSW)) Q ⟨List.toArray (u0 :: (.slice A zs.length cz) :: u2 :: u3 :: u4 :: (.int .i64 (ρ : Int)) :: u6 :: u7 :: u8 :: u9 :: u10 :: u11 :: u12 :: u13 :: u14 :: (.pointer (some ⟨gb, 0, none⟩)) :: (.pointer (some ⟨b, 0, none⟩)) :: u17 :: u18 :: u19 :: (.slice (some ⟨gx, 0, none⟩) D D) :: u21 :: u22 :: (.map (some mb)) :: (.int .i64 ((0 : Nat) : Int)) :: u25 :: u26 :: u27 :: u28 :: u29 :: u30 :: u31 :: u32 :: u33 :: u34 :: u35 :: u36 :: u37 :: u38 :: u39 :: u40 :: u41 :: u42 :: u43 :: u44 :: u45 :: u46 :: u47 :: u48 :: u49 :: u50 :: u51 :: u52 :: u53 :: u54 :: u55 :: u56 :: u57 :: u58 :: u59 :: u60 :: u61 :: u62 :: u63 :: u64 :: u65 :: u66 :: u67 :: u68 :: u69 :: u70 :: u71 :: u72 :: u73 :: u74 :: u75 :: u76 :: u77 :: u78 :: u79 :: u80 :: u81 :: u82 :: u83 :: u84 :: u85 :: u86 :: u87 :: u88 :: u89 :: u90 :: u91 :: u92 :: u93 :: u94 :: u95 :: u96 :: u97 :: u98 :: u99 :: u100 :: u101 :: u102 :: u103 :: u104 :: u105 :: u106 :: u107 :: u108 :: u109 :: u110 :: u111 :: u112 :: u113 :: u114 :: u115 :: u116 :: u117 :: u118 :: u119 :: u120 :: u121 :: u122 :: u123 :: u124 :: u125 :: u126 :: u127 :: u128 :: u129 :: u130 :: u131 :: u132 :: u133 :: u134 :: u135 :: u136 :: u137 :: u138 :: u139 :: u140 :: u141 :: u142 :: u143 :: u144 :: u145 :: u146 :: u147 :: u148 :: u149 :: u150 :: u151 :: u152 :: u153 :: u154 :: u155 :: u156 :: u157 :: u158 :: u159 :: u160 :: u161 :: u162 :: u163 :: u164 :: u165 :: []), []⟩ w := by
  refine wp_loop_ghost (fun gk a V => ∀ C : Prop, (∀ (u14 u25 u26 u27 u28 u29 u107 u108 u109 u110 u111 u112 u113 u114 u115 u116 u117 u118 u119 u120 u121 u122 u123 u124 u125 u126 u127 u128 u129 u130 u131 u132 u133 u134 u135 u136 u137 u138 u139 u140 u141 u142 u143 u144 u145 u146 u147 u148 u149 u150 u151 u152 : Value) (d : Nat), gk = D - d → (d ≤ D ∧ KS W0 V b H N [(gl, Obj.cells (lv.map Value.bool).toArray 4 (0, 0)), (gb, Obj.cells #[.int .i64 l, .int .i64 (D : Int), .int .i64 c] 24 (0, 0))] [(some ⟨gx, 0, none⟩, fx)] [] ∧ SetI V mb (gonL N lv D)) → a = ⟨List.toArray (u0 :: (.slice A zs.length cz) :: u2 :: u3 :: u4 :: (.int .i64 (ρ : Int)) :: u6 :: u7 :: u8 :: u9 :: u10 :: u11 :: u12 :: u13 :: u14 :: (.pointer (some ⟨gb, 0, none⟩)) :: (.pointer (some ⟨b, 0, none⟩)) :: u17 :: u18 :: u19 :: (.slice (some ⟨gx, 0, none⟩) D D) :: u21 :: u22 :: (.map (some mb)) :: (.int .i64 ((d : Nat) : Int)) :: u25 :: u26 :: u27 :: u28 :: u29 :: u30 :: u31 :: u32 :: u33 :: u34 :: u35 :: u36 :: u37 :: u38 :: u39 :: u40 :: u41 :: u42 :: u43 :: u44 :: u45 :: u46 :: u47 :: u48 :: u49 :: u50 :: u51 :: u52 :: u53 :: u54 :: u55 :: u56 :: u57 :: u58 :: u59 :: u60 :: u61 :: u62 :: u63 :: u64 :: u65 :: u66 :: u67 :: u68 :: u69 :: u70 :: u71 :: u72 :: u73 :: u74 :: u75 :: u76 :: u77 :: u78 :: u79 :: u80 :: u81 :: u82 :: u83 :: u84 :: u85 :: u86 :: u87 :: u88 :: u89 :: u90 :: u91 :: u92 :: u93 :: u94 :: u95 :: u96 :: u97 :: u98 :: u99 :: u100 :: u101 :: u102 :: u103 :: u104 :: u105 :: u106 :: u107 :: u108 :: u109 :: u110 :: u111 :: u112 :: u113 :: u114 :: u115 :: u116 :: u117 :: u118 :: u119 :: u120 :: u121 :: u122 :: u123 :: u124 :: u125 :: u126 :: u127 :: u128 :: u129 :: u130 :: u131 :: u132 :: u133 :: u134 :: u135 :: u136 :: u137 :: u138 :: u139 :: u140 :: u141 :: u142 :: u143 :: u144 :: u145 :: u146 :: u147 :: u148 :: u149 :: u150 :: u151 :: u152 :: u153 :: u154 :: u155 :: u156 :: u157 :: u158 :: u159 :: u160 :: u161 :: u162 :: u163 :: u164 :: u165 :: []), []⟩ → C) → C) (D - 0) ?_ ?_
  · intro C hC
    exact hC _ _ _ _ _ _ _ _ _ _ _ _ _ _ _ _ _ _ _ _ _ _ _ _ _ _ _ _ _ _ _ _ _ _ _ _ _ _ _ _ _ _ _ _ _ _ _ _ _ _ _ _ (0) rfl hI rfl
  · intro gk a V hI'
    refine hI' _ ?_
    intro u14 u25 u26 u27 u28 u29 u107 u108 u109 u110 u111 u112 u113 u114 u115 u116 u117 u118 u119 u120 u121 u122 u123 u124 u125 u126 u127 u128 u129 u130 u131 u132 u133 u134 u135 u136 u137 u138 u139 u140 u141 u142 u143 u144 u145 u146 u147 u148 u149 u150 u151 u152 d hk hinv ha
    subst ha
    subst hk
    refine swAb _ _ _ _ _ _ _ _ _ _ _ _ _ _ _ _ _ _ _ _ _ _ _ _ _ _ _ _ _ _ _ _ _ _ _ _ _ _ _ _ _ _ _ _ _ _ _ _ _ _ _ _ _ _ _ _ _ _ _ _ _ _ _ _ _ _ _ _ _ _ _ _ _ _ _ _ _ _ _ _ _ _ _ _ _ _ _ _ _ _ _ _ _ _ _ _ _ _ _ _ _ _ _ _ _ _ _ _ _ _ _ _ _ _ _ _ _ _ _ _ _ _ _ _ _ _ _ _ _ _ _ _ _ _ _ _ _ _ _ _ _ _ _ _ _ _ _ _ _ _ _ _ _ _ _ _ _ _ _ _ _ gr hρ hz hcz hfl h32 hn hdn hsec hinv (fun v14 v25 v26 v27 v28 v29 v107 v108 v109 v110 v111 v112 v113 v114 v115 v116 v117 v118 v119 v120 v121 v122 v123 v124 v125 v126 v127 v128 v129 v130 v131 v132 v133 v134 v135 v136 v137 v138 v139 v140 v141 v142 v143 v144 v145 v146 v147 v148 v149 v150 v151 v152  V2 h2 hm => ?_) (fun v14 v25 v26 v27 v28 v29 v107 v108 v109 v110 v111 v112 v113 v114 v115 v116 v117 v118 v119 v120 v121 v122 v123 v124 v125 v126 v127 v128 v129 v130 v131 v132 v133 v134 v135 v136 v137 v138 v139 v140 v141 v142 v143 v144 v145 v146 v147 v148 v149 v150 v151 v152 hx => hX v14 v25 v26 v27 v28 v29 v107 v108 v109 v110 v111 v112 v113 v114 v115 v116 v117 v118 v119 v120 v121 v122 v123 v124 v125 v126 v127 v128 v129 v130 v131 v132 v133 v134 v135 v136 v137 v138 v139 v140 v141 v142 v143 v144 v145 v146 v147 v148 v149 v150 v151 v152 d V hinv hx)
    refine ⟨_, hm, fun C hC => ?_⟩
    exact hC v14 v25 v26 v27 v28 v29 v107 v108 v109 v110 v111 v112 v113 v114 v115 v116 v117 v118 v119 v120 v121 v122 v123 v124 v125 v126 v127 v128 v129 v130 v131 v132 v133 v134 v135 v136 v137 v138 v139 v140 v141 v142 v143 v144 v145 v146 v147 v148 v149 v150 v151 v152 ((d + 1)) rfl h2 rfl
end Go.Proofs.Ytpaegibaikpikaa
