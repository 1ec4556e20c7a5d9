/- StripeBack: its loop. -/
import Derived.Test.YtpaegibaikpikaaSbbh
set_option linter.unusedVariables false
set_option linter.unusedSimpArgs false
namespace Go.Proofs.Ytpaegibaikpikaa
open Go.RowKit

noncomputable def codeSB : Code := Try.f3.body.getD .skip
set_option maxRecDepth 100000 in
set_option maxHeartbeats 3200000 in
theorem sbAb {W0 : World} {n l c r : Int} {D F W gb b gl cz c16 ρ : Nat} {A A16 : Option Addr} {zs : List Int} {dat : List (List UInt8)} {lv : List Bool} {H : BH} {N : Bch} {s : Nat} {w : World} (u0 u2 u4 u5 u6 u7 u8 u9 u10 u11 u12 u18 u19 u20 u21 u22 u23 u24 u25 u26 u27 u28 u29 u30 u31 u32 u33 u34 u35 u36 u37 u38 u39 u40 u41 u42 u43 u44 u45 u46 u47 u48 u49 u50 u51 u52 u53 u54 u55 u56 u57 u58 u59 u60 u61 u62 u63 u64 u65 u66 u67 u68 u69 u70 u71 u72 u73 u74 u75 u76 u77 u78 u79 u80 u81 u82 u83 u84 u85 u86 u87 u88 u89 u90 u91 u92 u93 u94 u95 : Value) (K : Act → World → Prop) (Q0 : Exit → Act → World → Prop) (gr : Gr n l c r D F W) (hρ : ρ < 16) (hz : RdZ W0 W0.heap.size A zs) (hcz : zs.length ≤ cz) (hdl : dat.length = W) (hdm : ∀ x ∈ dat, x.length = 32) (hlv : lv.length = D) (hst : Std N D D (flSet (rowL l c D W zs) ρ (fillL D (roF l (D : Int) c (ρ : Int)) dat))) (hcnt : ((cntB D (fun i => !srvD N lv i) : Nat) : Int) ≤ l - 4) (hI : (s ≤ 16 ∧ KS W0 w b H N [(gl, Obj.cells (lv.map Value.bool).toArray 4 (0, 0)), (gb, Obj.cells #[.int .i64 l, .int .i64 (D : Int), .int .i64 c] 24 (0, 0))] [(A16, dat)] []))
    (hK : ∀ (v12 v18 v19 v20 v67 v68 v69 v70 v71 v72 v73 v74 v75 v76 v77 v78 v79 v80 v81 v82 v83 v84 v85 v86 v87 v88 v89 v90 v91 v92 v93 v94 : Value)  (V : World), ((s + 1) ≤ 16 ∧ KS W0 V b H N [(gl, Obj.cells (lv.map Value.bool).toArray 4 (0, 0)), (gb, Obj.cells #[.int .i64 l, .int .i64 (D : Int), .int .i64 c] 24 (0, 0))] [(A16, dat)] []) → 16 - (s + 1) < 16 - s → K ⟨List.toArray (u0 :: (.slice A zs.length cz) :: u2 :: (.int .i64 (ρ : Int)) :: u4 :: u5 :: u6 :: u7 :: u8 :: u9 :: u10 :: u11 :: v12 :: (.pointer (some ⟨gb, 0, none⟩)) :: (.pointer (some ⟨b, 0, none⟩)) :: (.slice (some ⟨gl, 0, none⟩) D D) :: (.slice A16 W c16) :: (.int .i64 (((s + 1) : Nat) : Int)) :: v18 :: v19 :: v20 :: u21 :: u22 :: u23 :: u24 :: u25 :: u26 :: u27 :: u28 :: u29 :: u30 :: u31 :: u32 :: u33 :: u34 :: u35 :: u36 :: u37 :: u38 :: u39 :: u40 :: u41 :: u42 :: u43 :: u44 :: u45 :: u46 :: u47 :: u48 :: u49 :: u50 :: u51 :: u52 :: u53 :: u54 :: u55 :: u56 :: u57 :: u58 :: u59 :: u60 :: u61 :: u62 :: u63 :: u64 :: u65 :: u66 :: v67 :: v68 :: v69 :: v70 :: v71 :: v72 :: v73 :: v74 :: v75 :: v76 :: v77 :: v78 :: v79 :: v80 :: v81 :: v82 :: v83 :: v84 :: v85 :: v86 :: v87 :: v88 :: v89 :: v90 :: v91 :: v92 :: v93 :: v94 :: u95 :: []), []⟩ V)
    (hX : ∀ (v12 v18 v19 v20 v67 v68 v69 v70 v71 v72 v73 v74 v75 v76 v77 v78 v79 v80 v81 v82 v83 v84 v85 v86 v87 v88 v89 v90 v91 v92 v93 v94 : Value), (s = 16) → Q0 (.exit 0) ⟨List.toArray (u0 :: (.slice A zs.length cz) :: u2 :: (.int .i64 (ρ : Int)) :: u4 :: u5 :: u6 :: u7 :: u8 :: u9 :: u10 :: u11 :: v12 :: (.pointer (some ⟨gb, 0, none⟩)) :: (.pointer (some ⟨b, 0, none⟩)) :: (.slice (some ⟨gl, 0, none⟩) D D) :: (.slice A16 W c16) :: (.int .i64 ((s : Nat) : Int)) :: v18 :: v19 :: v20 :: u21 :: u22 :: u23 :: u24 :: u25 :: u26 :: u27 :: u28 :: u29 :: u30 :: u31 :: u32 :: u33 :: u34 :: u35 :: u36 :: u37 :: u38 :: u39 :: u40 :: u41 :: u42 :: u43 :: u44 :: u45 :: u46 :: u47 :: u48 :: u49 :: u50 :: u51 :: u52 :: u53 :: u54 :: u55 :: u56 :: u57 :: u58 :: u59 :: u60 :: u61 :: u62 :: u63 :: u64 :: u65 :: u66 :: v67 :: v68 :: v69 :: v70 :: v71 :: v72 :: v73 :: v74 :: v75 :: v76 :: v77 :: v78 :: v79 :: v80 :: v81 :: v82 :: v83 :: v84 :: v85 :: v86 :: v87 :: v88 :: v89 :: v90 :: v91 :: v92 :: v93 :: v94 :: u95 :: []), []⟩ w) :
    Code.wp Try.prog (sub [1, 1, 1, 1, 1, 1, 1, 1, 1, 1, 0, 1, 0, 0] codeSB) (Exit.then K Q0) ⟨List.toArray (u0 :: (.slice A zs.length cz) :: u2 :: (.int .i64 (ρ : Int)) :: u4 :: u5 :: u6 :: u7 :: u8 :: u9 :: u10 :: u11 :: u12 :: (.pointer (some ⟨gb, 0, none⟩)) :: (.pointer (some ⟨b, 0, none⟩)) :: (.slice (some ⟨gl, 0, none⟩) D D) :: (.slice A16 W c16) :: (.int .i64 ((s : Nat) : Int)) :: u18 :: u19 :: u20 :: u21 :: u22 :: u23 :: u24 :: u25 :: u26 :: u27 :: u28 :: u29 :: u30 :: u31 :: u32 :: u33 :: u34 :: u35 :: u36 :: u37 :: u38 :: u39 :: u40 :: u41 :: u42 :: u43 :: u44 :: u45 :: u46 :: u47 :: u48 :: u49 :: u50 :: u51 :: u52 :: u53 :: u54 :: u55 :: u56 :: u57 :: u58 :: u59 :: u60 :: u61 :: u62 :: u63 :: u64 :: u65 :: u66 :: u67 :: u68 :: u69 :: u70 :: u71 :: u72 :: u73 :: u74 :: u75 :: u76 :: u77 :: u78 :: u79 :: u80 :: u81 :: u82 :: u83 :: u84 :: u85 :: u86 :: u87 :: u88 :: u89 :: u90 :: u91 :: u92 :: u93 :: u94 :: u95 :: []), []⟩ w := by
  have HK := Lib.hid hK
  have HX := Lib.hid hX
  clear hK hX
  conv => arg 2; whnf
  obtain ⟨hs, hk⟩ := hI
  have Hk := Lib.hid hk
  have hd8 := gr.d8
  by_cases hlt : s < 16
  · have i0 : (0 : Int) ≤ (s : Int) := by omega
    have i1 : (s : Int) < 16 := by omega
    have CD := Lib.hid (ks_data hk gr s (by omega) zs.length cz rfl hcz hz)
    have L1 := gr.l64
    have L2 := gr.d64
    have L3 := gr.c64
    have L4 : -9223372036854775808 ≤ (s : Int) ∧ (s : Int) ≤ 9223372036854775807 := by omega
    obtain ⟨g1, g2, g3⟩ := hk.gat (g := gb) (l := l) (d := (D : Int)) (c := c) (t := 24) (f := (0, 0)) (by simp)
    have h1 := datL_len zs s W
    by_cases hsr : s = ρ
    · have Htl := Lib.hid (hst.ok (gr.at hlt) hdl hdm (show flSet (rowL l c D W zs) ρ (fillL D (roF l (D : Int) c (ρ : Int)) dat) s = fillL D (roF l (D : Int) c (s : Int)) dat by unfold flSet; rw [if_pos hsr, hsr]) hcnt)
      have e1 : ((s : Int) == (ρ : Int)) = true := by rw [hsr]; exact beq_self_eq_true _
      clear hk HX gr hst hcnt hdm hz hsr
      go_wp2_with fail
      (with_reducible refine CD.out.mono ?_); rintro e w1 ⟨A18, c18, rfl, k1⟩
      have K1 := Lib.hid k1
      have CR := ks_read k1 lv (some ⟨gl, 0, none⟩) D D hlv.symm (k1.lv (g := gl) (t := 4) (f := (0, 0)) (by simp) rfl (by rw [hlv]; omega)) l (D : Int) c (s : Int) L1 L2 L3 L4
      rw [Htl.out.1, Htl.out.2, hdl] at CR
      have CR := Lib.hid CR
      obtain ⟨g4, g5, g6⟩ := k1.gat (g := gb) (l := l) (d := (D : Int)) (c := c) (t := 24) (f := (0, 0)) (by simp)
      clear k1
      go_wp2_with fail
      (with_reducible refine CR.out.mono ?_); rintro e w2 ⟨A19, c19, rfl, k2, _⟩
      have CS := ks_sameR k2 (A := A19) (A' := A16) W W c19 c16 (hdl) (hdl) (by simp) (by simp)
      rw [decide_eq_true rfl] at CS
      have CS := Lib.hid CS
      clear k2
      go_wp2_with fail
      (with_reducible refine CS.out.mono ?_); rintro e w3 ⟨rfl, k3⟩
      have K3 := Lib.hid (k3.less (K' := [(gl, Obj.cells (lv.map Value.bool).toArray 4 (0, 0)), (gb, Obj.cells #[.int .i64 l, .int .i64 (D : Int), .int .i64 c] 24 (0, 0))]) (R' := [(A16, dat)]) (S' := []) (fun _ h => h) (fun _ h => by simp at h ⊢; simp [h]) (fun _ h => h))
      clear k3
      go_wp2_with fail
      exact HK.out _ _ _ _ _ _ _ _ _ _ _ _ _ _ _ _ _ _ _ _ _ _ _ _ _ _ _ _ _ _ _ _ _ ⟨by omega, K3.out⟩ (by omega)
    · have Htl := Lib.hid (hst.ok (gr.at hlt) h1 datL_mem (show flSet (rowL l c D W zs) ρ (fillL D (roF l (D : Int) c (ρ : Int)) dat) s = fillL D (roF l (D : Int) c (s : Int)) (datL zs s W) by unfold flSet; rw [if_neg hsr]; rfl) hcnt)
      have e1 : ((s : Int) == (ρ : Int)) = false := by rw [beq_eq_false_iff_ne]; omega
      clear hk HX gr hst hcnt hdm hz
      go_wp2_with fail
      (with_reducible refine CD.out.mono ?_); rintro e w1 ⟨A18, c18, rfl, k1⟩
      have K1 := Lib.hid k1
      have CR := ks_read k1 lv (some ⟨gl, 0, none⟩) D D hlv.symm (k1.lv (g := gl) (t := 4) (f := (0, 0)) (by simp) rfl (by rw [hlv]; omega)) l (D : Int) c (s : Int) L1 L2 L3 L4
      rw [Htl.out.1, Htl.out.2, h1] at CR
      have CR := Lib.hid CR
      obtain ⟨g4, g5, g6⟩ := k1.gat (g := gb) (l := l) (d := (D : Int)) (c := c) (t := 24) (f := (0, 0)) (by simp)
      clear k1
      go_wp2_with fail
      (with_reducible refine CR.out.mono ?_); rintro e w2 ⟨A19, c19, rfl, k2, _⟩
      have CS := ks_sameR k2 (A := A19) (A' := A18) W W c19 c18 (h1) (h1) (by simp) (by simp)
      rw [decide_eq_true rfl] at CS
      have CS := Lib.hid CS
      clear k2
      go_wp2_with fail
      (with_reducible refine CS.out.mono ?_); rintro e w3 ⟨rfl, k3⟩
      have K3 := Lib.hid (k3.less (K' := [(gl, Obj.cells (lv.map Value.bool).toArray 4 (0, 0)), (gb, Obj.cells #[.int .i64 l, .int .i64 (D : Int), .int .i64 c] 24 (0, 0))]) (R' := [(A16, dat)]) (S' := []) (fun _ h => h) (fun _ h => by simp at h ⊢; simp [h]) (fun _ h => h))
      clear k3
      go_wp2_with fail
      exact HK.out _ _ _ _ _ _ _ _ _ _ _ _ _ _ _ _ _ _ _ _ _ _ _ _ _ _ _ _ _ _ _ _ _ ⟨by omega, K3.out⟩ (by omega)
  · have i1 : ¬ (s : Int) < 16 := by omega
    have Hin := Lib.hid (show s = 16 by omega)
    clear HK hk
    go_wp2_with fail
    exact HX.out _ _ _ _ _ _ _ _ _ _ _ _ _ _ _ _ _ _ _ _ _ _ _ _ _ _ _ _ _ _ _ _ Hin.out
set_option maxRecDepth 100000 in
set_option maxHeartbeats 3200000 in
theorem sbA {W0 : World} {n l c r : Int} {D F W gb b gl cz c16 ρ : Nat} {A A16 : Option Addr} {zs : List Int} {dat : List (List UInt8)} {lv : List Bool} {H : BH} {N : Bch}  {w : World} (u0 u2 u4 u5 u6 u7 u8 u9 u10 u11 u12 u18 u19 u20 u21 u22 u23 u24 u25 u26 u27 u28 u29 u30 u31 u32 u33 u34 u35 u36 u37 u38 u39 u40 u41 u42 u43 u44 u45 u46 u47 u48 u49 u50 u51 u52 u53 u54 u55 u56 u57 u58 u59 u60 u61 u62 u63 u64 u65 u66 u67 u68 u69 u70 u71 u72 u73 u74 u75 u76 u77 u78 u79 u80 u81 u82 u83 u84 u85 u86 u87 u88 u89 u90 u91 u92 u93 u94 u95 : Value) (Q : Exit → Act → World → Prop) (gr : Gr n l c r D F W) (hρ : ρ < 16) (hz : RdZ W0 W0.heap.size A zs) (hcz : zs.length ≤ cz) (hdl : dat.length = W) (hdm : ∀ x ∈ dat, x.length = 32) (hlv : lv.length = D) (hst : Std N D D (flSet (rowL l c D W zs) ρ (fillL D (roF l (D : Int) c (ρ : Int)) dat))) (hcnt : ((cntB D (fun i => !srvD N lv i) : Nat) : Int) ≤ l - 4) (hI : (0 ≤ 16 ∧ KS W0 w b H N [(gl, Obj.cells (lv.map Value.bool).toArray 4 (0, 0)), (gb, Obj.cells #[.int .i64 l, .int .i64 (D : Int), .int .i64 c] 24 (0, 0))] [(A16, dat)] []))
    (hX : ∀ (v12 v18 v19 v20 v67 v68 v69 v70 v71 v72 v73 v74 v75 v76 v77 v78 v79 v80 v81 v82 v83 v84 v85 v86 v87 v88 v89 v90 v91 v92 v93 v94 : Value) (s : Nat) (V : World), (s ≤ 16 ∧ KS W0 V b H N [(gl, Obj.cells (lv.map Value.bool).toArray 4 (0, 0)), (gb, Obj.cells #[.int .i64 l, .int .i64 (D : Int), .int .i64 c] 24 (0, 0))] [(A16, dat)] []) → (s = 16) → Q (.exit 0) ⟨List.toArray (u0 :: (.slice A zs.length cz) :: u2 :: (.int .i64 (ρ : Int)) :: u4 :: u5 :: u6 :: u7 :: u8 :: u9 :: u10 :: u11 :: v12 :: (.pointer (some ⟨gb, 0, none⟩)) :: (.pointer (some ⟨b, 0, none⟩)) :: (.slice (some ⟨gl, 0, none⟩) D D) :: (.slice A16 W c16) :: (.int .i64 ((s : Nat) : Int)) :: v18 :: v19 :: v20 :: u21 :: u22 :: u23 :: u24 :: u25 :: u26 :: u27 :: u28 :: u29 :: u30 :: u31 :: u32 :: u33 :: u34 :: u35 :: u36 :: u37 :: u38 :: u39 :: u40 :: u41 :: u42 :: u43 :: u44 :: u45 :: u46 :: u47 :: u48 :: u49 :: u50 :: u51 :: u52 :: u53 :: u54 :: u55 :: u56 :: u57 :: u58 :: u59 :: u60 :: u61 :: u62 :: u63 :: u64 :: u65 :: u66 :: v67 :: v68 :: v69 :: v70 :: v71 :: v72 :: v73 :: v74 :: v75 :: v76 :: v77 :: v78 :: v79 :: v80 :: v81 :: v82 :: v83 :: v84 :: v85 :: v86 :: v87 :: v88 :: v89 :: v90 :: v91 :: v92 :: v93 :: v94 :: u95 :: []), []⟩ V) :
    Code.wp Try.prog (.loop (sub [1, 1, 1, 1, 1, 1, 1, 1, 1, 1, 0, 1, 0, 0] codeSB)) Q ⟨List.toArray (u0 :: (.slice A zs.length cz) :: u2 :: (.int .i64 (ρ : Int)) :: u4 :: u5 :: u6 :: u7 :: u8 :: u9 :: u10 :: u11 :: u12 :: (.pointer (some ⟨gb, 0, none⟩)) :: (.pointer (some ⟨b, 0, none⟩)) :: (.slice (some ⟨gl, 0, none⟩) D D) :: (.slice A16 W c16) :: (.int .i64 ((0 : Nat) : Int)) :: u18 :: u19 :: u20 :: u21 :: u22 :: u23 :: u24 :: u25 :: u26 :: u27 :: u28 :: u29 :: u30 :: u31 :: u32 :: u33 :: u34 :: u35 :: u36 :: u37 :: u38 :: u39 :: u40 :: u41 :: u42 :: u43 :: u44 :: u45 :: u46 :: u47 :: u48 :: u49 :: u50 :: u51 :: u52 :: u53 :: u54 :: u55 :: u56 :: u57 :: u58 :: u59 :: u60 :: u61 :: u62 :: u63 :: u64 :: u65 :: u66 :: u67 :: u68 :: u69 :: u70 :: u71 :: u72 :: u73 :: u74 :: u75 :: u76 :: u77 :: u78 :: u79 :: u80 :: u81 :: u82 :: u83 :: u84 :: u85 :: u86 :: u87 :: u88 :: u89 :: u90 :: u91 :: u92 :: u93 :: u94 :: u95 :: []), []⟩ w := by
  refine wp_loop_ghost (fun gk a V => ∀ C : Prop, (∀ (u12 u18 u19 u20 u67 u68 u69 u70 u71 u72 u73 u74 u75 u76 u77 u78 u79 u80 u81 u82 u83 u84 u85 u86 u87 u88 u89 u90 u91 u92 u93 u94 : Value) (s : Nat), gk = 16 - s → (s ≤ 16 ∧ KS W0 V b H N [(gl, Obj.cells (lv.map Value.bool).toArray 4 (0, 0)), (gb, Obj.cells #[.int .i64 l, .int .i64 (D : Int), .int .i64 c] 24 (0, 0))] [(A16, dat)] []) → a = ⟨List.toArray (u0 :: (.slice A zs.length cz) :: u2 :: (.int .i64 (ρ : Int)) :: u4 :: u5 :: u6 :: u7 :: u8 :: u9 :: u10 :: u11 :: u12 :: (.pointer (some ⟨gb, 0, none⟩)) :: (.pointer (some ⟨b, 0, none⟩)) :: (.slice (some ⟨gl, 0, none⟩) D D) :: (.slice A16 W c16) :: (.int .i64 ((s : Nat) : Int)) :: u18 :: u19 :: u20 :: u21 :: u22 :: u23 :: u24 :: u25 :: u26 :: u27 :: u28 :: u29 :: u30 :: u31 :: u32 :: u33 :: u34 :: u35 :: u36 :: u37 :: u38 :: u39 :: u40 :: u41 :: u42 :: u43 :: u44 :: u45 :: u46 :: u47 :: u48 :: u49 :: u50 :: u51 :: u52 :: u53 :: u54 :: u55 :: u56 :: u57 :: u58 :: u59 :: u60 :: u61 :: u62 :: u63 :: u64 :: u65 :: u66 :: u67 :: u68 :: u69 :: u70 :: u71 :: u72 :: u73 :: u74 :: u75 :: u76 :: u77 :: u78 :: u79 :: u80 :: u81 :: u82 :: u83 :: u84 :: u85 :: u86 :: u87 :: u88 :: u89 :: u90 :: u91 :: u92 :: u93 :: u94 :: u95 :: []), []⟩ → C) → C) (16 - 0) ?_ ?_
  · intro C hC
    exact hC _ _ _ _ _ _ _ _ _ _ _ _ _ _ _ _ _ _ _ _ _ _ _ _ _ _ _ _ _ _ _ _ (0) rfl hI rfl
  · intro gk a V hI'
    refine hI' _ ?_
    intro u12 u18 u19 u20 u67 u68 u69 u70 u71 u72 u73 u74 u75 u76 u77 u78 u79 u80 u81 u82 u83 u84 u85 u86 u87 u88 u89 u90 u91 u92 u93 u94 s hk hinv ha
    subst ha
    subst hk
    refine sbAb _ _ _ _ _ _ _ _ _ _ _ _ _ _ _ _ _ _ _ _ _ _ _ _ _ _ _ _ _ _ _ _ _ _ _ _ _ _ _ _ _ _ _ _ _ _ _ _ _ _ _ _ _ _ _ _ _ _ _ _ _ _ _ _ _ _ _ _ _ _ _ _ _ _ _ _ _ _ _ _ _ _ _ _ _ _ _ _ _ _ _ gr hρ hz hcz hdl hdm hlv hst hcnt hinv (fun v12 v18 v19 v20 v67 v68 v69 v70 v71 v72 v73 v74 v75 v76 v77 v78 v79 v80 v81 v82 v83 v84 v85 v86 v87 v88 v89 v90 v91 v92 v93 v94  V2 h2 hm => ?_) (fun v12 v18 v19 v20 v67 v68 v69 v70 v71 v72 v73 v74 v75 v76 v77 v78 v79 v80 v81 v82 v83 v84 v85 v86 v87 v88 v89 v90 v91 v92 v93 v94 hx => hX v12 v18 v19 v20 v67 v68 v69 v70 v71 v72 v73 v74 v75 v76 v77 v78 v79 v80 v81 v82 v83 v84 v85 v86 v87 v88 v89 v90 v91 v92 v93 v94 s V hinv hx)
    refine ⟨_, hm, fun C hC => ?_⟩
    exact hC v12 v18 v19 v20 v67 v68 v69 v70 v71 v72 v73 v74 v75 v76 v77 v78 v79 v80 v81 v82 v83 v84 v85 v86 v87 v88 v89 v90 v91 v92 v93 v94 ((s + 1)) rfl h2 rfl
set_option maxRecDepth 100000 in
set_option maxHeartbeats 3200000 in
theorem stripeback (n : Int) (A : Option Addr) (zl : List Int) (cl : Nat) (B : Option Addr) (zm : List Int) (cm : Nat) (r a b : Int) (w : World) (hn : (-9223372036854775808 ≤ n ∧ n ≤ 9223372036854775807)) (hcl : zl.length ≤ cl) (hzl : RdZ w w.heap.size A zl) (hcm : zm.length ≤ cm) (hzm : RdZ w w.heap.size B zm) (hr : (-9223372036854775808 ≤ r ∧ r ≤ 9223372036854775807)) (ha : (-9223372036854775808 ≤ a ∧ a ≤ 9223372036854775807)) (hb : (-9223372036854775808 ≤ b ∧ b ≤ 9223372036854775807)) :
    Calls Try.prog 3 #[.int .i64 n, .slice A zl.length cl, .slice B zm.length cm, .int .i64 r, .int .i64 a, .int .i64 b] w fun e w' => e = .returned (.bool true) ∧ Below w.heap.size w w' := by
  have hpn := ptr_eq
  have HP := Lib.hid (fun V => playGood_any n V hn)
  have CW1 := Lib.hid (fun V => within_any r 16 V hr (by omega))
  have hrb := withinI_bd r 16 (by omega)
  obtain ⟨ρ, hρe⟩ := Int.eq_ofNat_of_zero_le hrb.1
  rw [hρe] at CW1 hrb
  have hρ : ρ < 16 := by omega
  obtain ⟨D, F, W, hD, gr⟩ := gr_of n (r := (ρ : Int)) (by omega) (by omega)
  rw [hD] at HP
  have hd8 := gr.d8; have hd3 := gr.d3; have hw7 := gr.w7
  have CW2 := Lib.hid (fun V => within_any a (D : Int) V ha (by omega))
  have hab := withinI_bd a (D : Int) (by omega)
  obtain ⟨d1, hd1⟩ := Int.eq_ofNat_of_zero_le hab.1
  rw [hd1] at CW2 hab
  have CW3 := Lib.hid (fun V => within_any b (D : Int) V hb (by omega))
  have hbb := withinI_bd b (D : Int) (by omega)
  obtain ⟨d2, hd2⟩ := Int.eq_ofNat_of_zero_le hbb.1
  rw [hd2] at CW3 hbb
  have hd1D : d1 < D := by omega
  have hd2D : d2 < D := by omega
  have HR := Lib.hid (fun V => refWidth_any (goL n) (D : Int) (goC n) V gr.l64 gr.d64 gr.c64)
  rw [gr.wd] at HR
  have HWk := Lib.hid (fun V => wakesStp_any V)
  generalize goL n = l at *
  generalize goC n = c at *
  have L1 := gr.l64
  have L2 := gr.d64
  have L3 := gr.c64
  have L4 := gr.r64
  have CFl := Lib.hid (fun (w1 : World) (hb1 : Below w.heap.size w w1) => filled_open gr D (Nat.le_refl _) hd8 zl.length cl hb1 rfl hcl hzl)
  have Gr' := Lib.hid gr
  have Hz := Lib.hid hzl
  have Hzm := Lib.hid hzm
  have hdl := sectorsB_len zm W
  have hdm := @sectorsB_mem zm W
  have hll := liveL_len 0 D
  have hlv := gr.lv
  clear hD hρe hd1 hd2 hn hr ha hb hzl hzm gr hrb hab hbb
  go_enter Try.func3, Try.ntmps3
  go_wp2_with fail
  (with_reducible refine (HP.out _).mono ?_); rintro e w1 ⟨rfl, hb1⟩
  have G := gat_new w1 l D c 24 (0, 0)
  obtain ⟨g1, g2, g3⟩ := G
  have CFl1 := Lib.hid (CFl.out w1 hb1)
  clear hb1 CFl
  go_wp2_with fail
  (with_reducible refine CFl1.out.mono ?_); rintro e w2 ⟨b, H0, N0, rfl, k0, f0⟩
  have CLv := Lib.hid (ks_live k0 0 D (by omega) (by omega))
  obtain ⟨g4, g5, g6⟩ := k0.gat (g := w1.heap.size) (l := l) (d := (D : Int)) (c := c) (t := 24) (f := (0, 0)) (by simp)
  have Hf0 := Lib.hid f0
  clear k0 f0 CFl1 g1 g2 g3
  generalize w1.heap.size = gb at *
  go_wp2_with fail
  (with_reducible refine CLv.out.mono ?_); rintro e w3 ⟨gl, rfl, k1⟩
  have K1 := Lib.hid k1
  obtain ⟨g1, g2, g3⟩ := k1.gat (g := gb) (l := l) (d := (D : Int)) (c := c) (t := 24) (f := (0, 0)) (by simp)
  clear k1 CLv g4 g5 g6
  go_wp2_with fail
  (with_reducible refine (CW1.out _).mono ?_); rintro e w4 ⟨rfl, rfl⟩
  go_wp2_with fail
  (with_reducible refine (HR.out _).mono ?_); rintro e w5 ⟨rfl, hb5⟩
  have CSc := Lib.hid (ks_sectors (K1.out.below hb5) zm.length cm W rfl Hzm.out (by omega))
  clear hb5 g1 g2 g3
  go_wp2_with fail
  (with_reducible refine CSc.out.mono ?_); rintro e w6 ⟨A16, c16, rfl, k2⟩
  have K2 := Lib.hid k2
  obtain ⟨g1, g2, g3⟩ := k2.gat (g := gb) (l := l) (d := (D : Int)) (c := c) (t := 24) (f := (0, 0)) (by simp)
  obtain ⟨e0, sg⟩ := swr_good (lv := liveL 0 D) Gr'.out hdl hdm Hf0.out.gd.dn Hf0.out.gd.lf
  have CWr := ks_write k2 (liveL 0 D) (some ⟨gl, 0, none⟩) D D hll.symm (k2.lv (g := gl) (t := 4) (f := (0, 0)) (by simp) rfl (by omega)) A16 (sectorsB zm W) W c16 hdl (by omega) (k2.rd (by simp)) l (D : Int) c (ρ : Int) L1 L2 L3 L4
    (fun i hi => by rw [Hf0.out.gd.ps i (by rw [Hf0.out.gd.n] at hi; exact hi)]; exact Nat.zero_le _) (by rw [Hf0.out.gd.done]; omega)
  have HLd := Lib.hid (fun i (hi : i < D) => srvD_mk (N := N0) (lv := liveL 0 D) (by rw [Hf0.out.gd.n]; exact hi) (live0 hi) (Hf0.out.gd.f i hi))
  have ST1 := Hf0.out.std.written sg hρ (fun i hi => Hf0.out.gd.ok i hi) (fun i hi => Gr'.out.fills hdl hdm hi) (fun i hi _ => HLd.out i hi)
  have SV1 := fun i (hi : i < D) => (sg.srv i).trans (HLd.out i hi)
  rw [show ((ρ : Int)).toNat = ρ from rfl] at sg
  have eF := Gr'.out.eF
  rw [← eF] at ST1
  rw [e0] at CWr
  generalize swrS N0 (liveL 0 D) l (D : Int) c (ρ : Int) (sectorsB zm W) = q1 at CWr ST1 SV1
  obtain ⟨_, N1⟩ := q1
  dsimp only at CWr ST1 SV1
  have CWr := Lib.hid CWr
  have HS1 := Lib.hid ST1
  have HV1 := Lib.hid SV1
  clear k2 e0 sg ST1 SV1 CSc K1 eF
  go_wp2_with fail
  (with_reducible refine CWr.out.mono ?_); rintro e w7 ⟨rfl, H1, k3⟩
  obtain ⟨e0, fg⟩ := sfl_good (N := N1) (lv := liveL 0 D) HS1.out.dn
  have CFs := ks_flush k3 (liveL 0 D) (some ⟨gl, 0, none⟩) D D hll.symm (k3.lv (g := gl) (t := 4) (f := (0, 0)) (by simp) rfl (by omega))
  have ST2 := HS1.out.flushed fg
  have SV2 := fun i (hi : i < D) => (srvD_congr (lv := liveL 0 D) fg.n (by rw [fg.D i, flD_f])).trans (HV1.out i hi)
  rw [e0] at CFs
  generalize sflS N1 (liveL 0 D) = q2 at CFs ST2 SV2
  obtain ⟨_, N2⟩ := q2
  dsimp only at CFs ST2 SV2
  have CFs := Lib.hid CFs
  have HS2 := Lib.hid ST2
  have HV2 := Lib.hid SV2
  clear k3 e0 fg ST2 SV2 HS1 HV1 CWr K2 g1 g2 g3 HLd
  go_wp2_with fail
  (with_reducible refine CFs.out.mono ?_); rintro e w8 ⟨rfl, H2, k4⟩
  obtain ⟨g1, g2, g3⟩ := k4.gat (g := gb) (l := l) (d := (D : Int)) (c := c) (t := 24) (f := (0, 0)) (by simp)
  have CFa := Lib.hid (ks_fail k4 (d1 : Int) ⟨by omega, by omega⟩)
  have hn2 := HS2.out.n
  have Hn2 := Lib.hid hn2
  clear k4 hn2 CFs
  go_wp2_with fail
  (with_reducible refine (CW2.out _).mono ?_); rintro e w9 ⟨rfl, rfl⟩
  go_wp2_with fail
  (with_reducible refine CFa.out.mono ?_); rintro e w10 ⟨rfl, H3, k5⟩
  have K5 := Lib.hid k5
  obtain ⟨g4, g5, g6⟩ := k5.gat (g := gb) (l := l) (d := (D : Int)) (c := c) (t := 24) (f := (0, 0)) (by simp)
  clear k5 g1 g2 g3 CFa
  rcases hlv with ⟨rfl, hDW⟩ | ⟨rfl, hDW⟩ <;> clear hDW
  · have HCN := Lib.hid (show ((cntB D (fun i => !srvD (N2.fail (d1 : Int)) (liveL 0 D) i) : Nat) : Int) ≤ 5 - 4 from by have := cnt_fail1 (lv := liveL 0 D) (D := D) (d := d1) (by rw [Hn2.out]; exact hd1D) HV2.out; omega)
    have HST := Lib.hid (HS2.out.fail hd1D)
    have K9 := Lib.hid K5.out
    clear K5 HS2 HV2 Hn2
    go_upto_block 0 with fail
    refine wp_block ?_
    refine sbA _ _ _ _ _ _ _ _ _ _ _ _ _ _ _ _ _ _ _ _ _ _ _ _ _ _ _ _ _ _ _ _ _ _ _ _ _ _ _ _ _ _ _ _ _ _ _ _ _ _ _ _ _ _ _ _ _ _ _ _ _ _ _ _ _ _ _ _ _ _ _ _ _ _ _ _ _ _ _ _ _ _ _ _ _ _ _ _ _ _  Gr'.out hρ Hz.out hcl hdl hdm hll HST.out HCN.out ⟨Nat.zero_le _, K9.out⟩ (fun v12 v18 v19 v20 v67 v68 v69 v70 v71 v72 v73 v74 v75 v76 v77 v78 v79 v80 v81 v82 v83 v84 v85 v86 v87 v88 v89 v90 v91 v92 v93 v94 s V2 hI hx => ?_)
    have F9 := Lib.hid hI.2.bp.bel
    clear hI
    go_wp2_with fail
    (with_reducible refine (HWk.out _).mono ?_); rintro e w9 ⟨rfl, hb9⟩
    have F10 := F9.out.trans (hb9.mono F9.out.size)
    go_wp2
    go_ret
    exact ⟨rfl, F10⟩
  · have CFb := Lib.hid (ks_fail K5.out (d2 : Int) ⟨by omega, by omega⟩)
    go_wp2_with fail
    (with_reducible refine (CW3.out _).mono ?_); rintro e w11 ⟨rfl, rfl⟩
    go_wp2_with fail
    (with_reducible refine CFb.out.mono ?_); rintro e w12 ⟨rfl, H4, k6⟩
    have K6 := Lib.hid k6
    obtain ⟨g1, g2, g3⟩ := k6.gat (g := gb) (l := 6) (d := (D : Int)) (c := c) (t := 24) (f := (0, 0)) (by simp)
    clear k6 g4 g5 g6 CFb K5
    have HCN := Lib.hid (show ((cntB D (fun i => !srvD ((N2.fail (d1 : Int)).fail (d2 : Int)) (liveL 0 D) i) : Nat) : Int) ≤ 6 - 4 from by have := cnt_fail2 (lv := liveL 0 D) (D := D) (d := d1) (e := d2) (by rw [Hn2.out]; exact hd1D) (by rw [Hn2.out]; exact hd2D) HV2.out; omega)
    have HST := Lib.hid ((HS2.out.fail hd1D).fail hd2D)
    have K9 := Lib.hid K6.out
    clear K6 HS2 HV2 Hn2
    go_upto_block 0 with fail
    refine wp_block ?_
    refine sbA _ _ _ _ _ _ _ _ _ _ _ _ _ _ _ _ _ _ _ _ _ _ _ _ _ _ _ _ _ _ _ _ _ _ _ _ _ _ _ _ _ _ _ _ _ _ _ _ _ _ _ _ _ _ _ _ _ _ _ _ _ _ _ _ _ _ _ _ _ _ _ _ _ _ _ _ _ _ _ _ _ _ _ _ _ _ _ _ _ _  Gr'.out hρ Hz.out hcl hdl hdm hll HST.out HCN.out ⟨Nat.zero_le _, K9.out⟩ (fun v12 v18 v19 v20 v67 v68 v69 v70 v71 v72 v73 v74 v75 v76 v77 v78 v79 v80 v81 v82 v83 v84 v85 v86 v87 v88 v89 v90 v91 v92 v93 v94 s V2 hI hx => ?_)
    have F9 := Lib.hid hI.2.bp.bel
    clear hI
    go_wp2_with fail
    (with_reducible refine (HWk.out _).mono ?_); rintro e w9 ⟨rfl, hb9⟩
    have F10 := F9.out.trans (hb9.mono F9.out.size)
    go_wp2
    go_ret
    exact ⟨rfl, F10⟩
end Go.Proofs.Ytpaegibaikpikaa
