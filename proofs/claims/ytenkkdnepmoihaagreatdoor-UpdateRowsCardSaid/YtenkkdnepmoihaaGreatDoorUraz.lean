/- Texts put together: UpdateRowsLoops, UpdWakes. -/
import Derived.Test.YtenkkdnepmoihaaGreatDoorUray
import Derived.Test.YtenkkdnepmoihaaGreatDoorUraw
import Derived.Test.YtenkkdnepmoihaaGreatDoorUrax
section
set_option linter.unusedVariables false
set_option linter.unusedSimpArgs false
namespace Go.Proofs.YtenkkdnepmoihaaGreatDoor
open Go.RowKit

noncomputable def codeUR : Code := Tryz.f6.body.getD .skip
/-- A row's sectors as they are read, disk by disk. -/
def secsL (M : Bch) (a d : Nat) : List (List UInt8) := (List.range d).map fun i => secAt (M.D i).now a
theorem secsL_len (M : Bch) (a d : Nat) : (secsL M a d).length = d := by simp [secsL]
theorem secsL_succ (M : Bch) (a d : Nat) : secsL M a (d + 1) = secsL M a d ++ [secAt (M.D d).now a] := by simp [secsL, List.range_succ]
set_option maxRecDepth 100000 in
set_option maxHeartbeats 3200000 in
theorem urAb {W0 : World} {n l c r : Int} {D F W s ρ b bw gb lo : Nat} {LK : List (Nat × Obj)} {H H2 : BH} {M N : Bch} {xv : Value} {d : Nat} {w : World} (u0 u1 u2 u3 u4 u5 u6 u9 u10 u12 u13 u15 u19 u20 u21 u22 u23 u24 u25 u26 u27 u28 u29 u30 u31 u32 u33 u34 u35 u36 u37 u38 u39 u40 u41 u42 u43 u44 u45 u46 u47 u48 u49 u50 u51 u52 u53 u54 u55 u56 u57 u58 u59 u60 u61 u62 u63 u64 u65 u66 u67 u68 u69 u70 u71 u72 u73 u74 u75 u76 u77 u78 u79 u80 u81 u82 u83 u84 u85 u86 u87 u88 u89 u90 u91 u92 u93 u94 u95 u96 u97 u98 u99 u100 u101 u102 u103 u104 u105 u106 u107 u108 u109 u110 u111 u112 u113 u114 u115 u116 u117 u118 u119 u120 u121 u122 u123 u124 u125 u126 u127 : Value) (K : Act → World → Prop) (Q0 : Exit → Act → World → Prop) (gr : Gr n l c r D F W) (hs : s < 16) (um : Up M D) (un : Up N D) (h32 : ∀ i, i < D → (secAt (M.D i).now (36 + s)).length = 32) (hsame : s ≠ ρ → ∀ i, i < D → secAt (N.D i).now (36 + s) = secAt (M.D i).now (36 + s)) (hwas : ∀ V : World, (∀ p ∈ LK, V.heap[p.1]? = some p.2) → BAt V W0.heap.size bw H2 N) (hlW : W0.heap.size ≤ lo) (hlo : ∀ k, BF b H M.n k → k < lo) (hlk : ∀ q ∈ (gb, Obj.cells #[.int .i64 l, .int .i64 (D : Int), .int .i64 c] 24 (0, 0)) :: LK, q.1 < lo) (hI : (d ≤ D ∧ KS W0 w b H M ((gb, Obj.cells #[.int .i64 l, .int .i64 (D : Int), .int .i64 c] 24 (0, 0)) :: LK) [] [] ∧ OwV lo w xv (secsL M (36 + s) d) ∧ lo ≤ w.heap.size))
    (hK : ∀ (v6 v19 v20 v21 v22 v83 v84 v85 v86 v87 v88 v89 v90 v91 v92 v93 v94 v95 v96 v97 v98 v99 v100 v101 v102 v103 v104 v105 v106 v107 v108 v109 v110 v111 v112 v113 v114 v115 v116 v117 v118 v119 v120 v121 : Value) (xv2 : Value) (V : World), ((d + 1) ≤ D ∧ KS W0 V b H M ((gb, Obj.cells #[.int .i64 l, .int .i64 (D : Int), .int .i64 c] 24 (0, 0)) :: LK) [] [] ∧ OwV lo V xv2 (secsL M (36 + s) (d + 1)) ∧ lo ≤ V.heap.size) → D - (d + 1) < D - d → K ⟨List.toArray (u0 :: u1 :: u2 :: u3 :: u4 :: u5 :: v6 :: (.pointer (some ⟨gb, 0, none⟩)) :: (.pointer (some ⟨b, 0, none⟩)) :: u9 :: u10 :: (.pointer (some ⟨bw, 0, none⟩)) :: u12 :: u13 :: (.int .i64 (ρ : Int)) :: u15 :: (.int .i64 (s : Int)) :: xv2 :: (.int .i64 (((d + 1) : Nat) : Int)) :: v19 :: v20 :: v21 :: v22 :: u23 :: u24 :: u25 :: u26 :: u27 :: u28 :: u29 :: u30 :: u31 :: u32 :: u33 :: u34 :: u35 :: u36 :: u37 :: u38 :: u39 :: u40 :: u41 :: u42 :: u43 :: u44 :: u45 :: u46 :: u47 :: u48 :: u49 :: u50 :: u51 :: u52 :: u53 :: u54 :: u55 :: u56 :: u57 :: u58 :: u59 :: u60 :: u61 :: u62 :: u63 :: u64 :: u65 :: u66 :: u67 :: u68 :: u69 :: u70 :: u71 :: u72 :: u73 :: u74 :: u75 :: u76 :: u77 :: u78 :: u79 :: u80 :: u81 :: u82 :: v83 :: v84 :: v85 :: v86 :: v87 :: v88 :: v89 :: v90 :: v91 :: v92 :: v93 :: v94 :: v95 :: v96 :: v97 :: v98 :: v99 :: v100 :: v101 :: v102 :: v103 :: v104 :: v105 :: v106 :: v107 :: v108 :: v109 :: v110 :: v111 :: v112 :: v113 :: v114 :: v115 :: v116 :: v117 :: v118 :: v119 :: v120 :: v121 :: u122 :: u123 :: u124 :: u125 :: u126 :: u127 :: []), []⟩ V)
    (hX : ∀ (v6 v19 v20 v21 v22 v83 v84 v85 v86 v87 v88 v89 v90 v91 v92 v93 v94 v95 v96 v97 v98 v99 v100 v101 v102 v103 v104 v105 v106 v107 v108 v109 v110 v111 v112 v113 v114 v115 v116 v117 v118 v119 v120 v121 : Value), (d = D) → Q0 (.exit 4) ⟨List.toArray (u0 :: u1 :: u2 :: u3 :: u4 :: u5 :: v6 :: (.pointer (some ⟨gb, 0, none⟩)) :: (.pointer (some ⟨b, 0, none⟩)) :: u9 :: u10 :: (.pointer (some ⟨bw, 0, none⟩)) :: u12 :: u13 :: (.int .i64 (ρ : Int)) :: u15 :: (.int .i64 (s : Int)) :: xv :: (.int .i64 ((d : Nat) : Int)) :: v19 :: v20 :: v21 :: v22 :: u23 :: u24 :: u25 :: u26 :: u27 :: u28 :: u29 :: u30 :: u31 :: u32 :: u33 :: u34 :: u35 :: u36 :: u37 :: u38 :: u39 :: u40 :: u41 :: u42 :: u43 :: u44 :: u45 :: u46 :: u47 :: u48 :: u49 :: u50 :: u51 :: u52 :: u53 :: u54 :: u55 :: u56 :: u57 :: u58 :: u59 :: u60 :: u61 :: u62 :: u63 :: u64 :: u65 :: u66 :: u67 :: u68 :: u69 :: u70 :: u71 :: u72 :: u73 :: u74 :: u75 :: u76 :: u77 :: u78 :: u79 :: u80 :: u81 :: u82 :: v83 :: v84 :: v85 :: v86 :: v87 :: v88 :: v89 :: v90 :: v91 :: v92 :: v93 :: v94 :: v95 :: v96 :: v97 :: v98 :: v99 :: v100 :: v101 :: v102 :: v103 :: v104 :: v105 :: v106 :: v107 :: v108 :: v109 :: v110 :: v111 :: v112 :: v113 :: v114 :: v115 :: v116 :: v117 :: v118 :: v119 :: v120 :: v121 :: u122 :: u123 :: u124 :: u125 :: u126 :: u127 :: []), []⟩ w) :
    Code.wp Tryz.prog (sub [1, 1, 1, 1, 1, 0, 1, 0, 0, 1, 0, 0, 1, 1, 1, 1, 1, 0, 0, 1, 0, 0, 1, 0, 1, 0, 0] codeUR) (Exit.then K Q0) ⟨List.toArray (u0 :: u1 :: u2 :: u3 :: u4 :: u5 :: u6 :: (.pointer (some ⟨gb, 0, none⟩)) :: (.pointer (some ⟨b, 0, none⟩)) :: u9 :: u10 :: (.pointer (some ⟨bw, 0, none⟩)) :: u12 :: u13 :: (.int .i64 (ρ : Int)) :: u15 :: (.int .i64 (s : Int)) :: xv :: (.int .i64 ((d : Nat) : Int)) :: u19 :: u20 :: u21 :: u22 :: u23 :: u24 :: u25 :: u26 :: u27 :: u28 :: u29 :: u30 :: u31 :: u32 :: u33 :: u34 :: u35 :: u36 :: u37 :: u38 :: u39 :: u40 :: u41 :: u42 :: u43 :: u44 :: u45 :: u46 :: u47 :: u48 :: u49 :: u50 :: u51 :: u52 :: u53 :: u54 :: u55 :: u56 :: u57 :: u58 :: u59 :: u60 :: u61 :: u62 :: u63 :: u64 :: u65 :: u66 :: u67 :: u68 :: u69 :: u70 :: u71 :: u72 :: u73 :: u74 :: u75 :: u76 :: u77 :: u78 :: u79 :: u80 :: u81 :: u82 :: u83 :: u84 :: u85 :: u86 :: u87 :: u88 :: u89 :: u90 :: u91 :: u92 :: u93 :: u94 :: u95 :: u96 :: u97 :: u98 :: u99 :: u100 :: u101 :: u102 :: u103 :: u104 :: u105 :: u106 :: u107 :: u108 :: u109 :: u110 :: u111 :: u112 :: u113 :: u114 :: u115 :: u116 :: u117 :: u118 :: u119 :: u120 :: u121 :: u122 :: u123 :: u124 :: u125 :: u126 :: u127 :: []), []⟩ w := by
  have HK := Lib.hid hK
  have HX := Lib.hid hX
  clear hK hX
  conv => arg 2; whnf
  obtain ⟨hd, hk, hv, hlV⟩ := hI
  have hd8 := gr.d8
  obtain ⟨g1, g2, g3⟩ := hk.gat (g := gb) (l := l) (d := (D : Int)) (c := c) (t := 24) (f := (0, 0)) (by simp)
  by_cases hlt : d < D
  · have i0 : (0 : Int) ≤ (d : Int) := by omega
    have i1 : (d : Int) < (D : Int) := by omega
    have CR := bp_read W0 w b H M hk.bp (d : Int) (36 + (s : Int)) ⟨by omega, by omega⟩ ⟨by omega, by omega⟩
    rw [(um.read hlt hs).1, (um.read hlt hs).2] at CR
    replace CR := Lib.hid CR
    have CRw := (fun V (k : KS W0 V b H M ((gb, Obj.cells #[.int .i64 l, .int .i64 (D : Int), .int .i64 c] 24 (0, 0)) :: LK) [] []) => bch_read_any W0.heap.size bw H2 N V (hwas V fun p hp => (k.kx.kp p (List.mem_cons_of_mem _ hp)).1) (d : Int) (36 + (s : Int)) ⟨by omega, by omega⟩ ⟨by omega, by omega⟩)
    simp only [(un.read hlt hs).1, (un.read hlt hs).2] at CRw
    unfold ptr at CRw
    replace CRw := Lib.hid CRw
    have hy32 := h32 d hlt
    have hz := fun e => hsame e d hlt
    have Hk := Lib.hid hk
    have Hv := Lib.hid hv
    have Hsn := Lib.hid (secsL_succ M (36 + s) d)
    have hln := secsL_len M (36 + s) d
    generalize secsL M (36 + s) d = xs at Hv hln Hsn
    generalize secAt (M.D d).now (36 + s) = y at CR hy32 hz Hsn
    generalize secAt (N.D d).now (36 + s) = z at CRw hz
    clear hk hv HX gr h32 hsame um un hwas
    go_wp2_with fail
    (with_reducible refine CR.out.mono ?_); rintro e w1 ⟨v, rfl, hy, hb1⟩
    obtain ⟨Ay, cy, rfl, _, _⟩ := hy.rd
    rw [hy32]
    have K1 := Hk.out.below hb1
    have CW := Lib.hid (CRw.out _ K1)
    have V1 := Hv.out.below hb1
    have hne := hy.addr_ob (by omega)
    have hvl := Hv.out.lt
    have hb1s := hb1.size
    have Hy := Lib.hid hy.rdbf
    have K1 := Lib.hid K1
    have V1 := Lib.hid V1
    clear CR CRw Hk Hv hb1 hy
    go_wp2_with fail
    (with_reducible refine CW.out.mono ?_); rintro e w2 ⟨v, rfl, hzo, hb2⟩
    obtain ⟨Az, cz, rfl, _, _⟩ := hzo.rd
    have hzr := hzo.rdS.1
    have K2 := Lib.hid (K1.out.below hb2)
    have V2 := Lib.hid (V1.out.below hb2)
    have Hy2 := Lib.hid (show RdBF lo w2 Ay y from (Hy.out.keep hb2.size fun _ _ hp => hb2.cell hp).le (by omega))
    have hb2s := hb2.size
    clear CW K1 V1 hzo Hy hb2
    have Hfin : Hid (∀ (x : World) v' w', Below w2.heap.size w2 x → OwV lo w' v' (xs ++ [y]) → (x.alloc (.cells #[.slice Ay 32 cy] 35)).grownBy w' (Value.ownBlock xv) → KS W0 w' b H M ((gb, Obj.cells #[.int .i64 l, .int .i64 (D : Int), .int .i64 c] 24 (0, 0)) :: LK) [] [] ∧ OwV lo w' v' (secsL M (36 + s) (d + 1)) ∧ lo ≤ w'.heap.size) := fun x v' w' hbx ho hg => by
      have hbm : Below w2.heap.size w2 (x.alloc (.cells #[.slice Ay 32 cy] 35)) := hbx.alloc hbx.size _
      have k := K2.out.below hbm
      refine ⟨k.far hg fun p hp => ?_, by rw [Hsn.out]; exact ho, ?_⟩
      · have h1 := (hvl p hp).1
        exact ⟨by omega, fun q => by have := hlo p q; omega, fun q hq e => by have := hlk q hq; omega⟩
      · have := hg.size; have := hbm.size; omega
    have Hne : Hid (0 < y.length → ∀ a, Ay = some a → some a.block ≠ Value.ownBlock xv) := fun _ a ha e => by
      have h1 := hne a ha
      have h2 := (hvl _ e.symm).2
      omega
    clear hne hvl
    by_cases hsr : s = ρ
    · have e1 : ((s : Int) != (ρ : Int)) = false := by rw [hsr]; exact bne_self_eq_false _
      clear hz hsr
      have BX := Below.refl w2.heap.size w2
      go_wp2_with (at_builtin; refine wpList_append_row rfl _ _ _ rfl Tryz.underlying32 lo _ xs rfl (V2.out.below (BX.alloc BX.size _)) w2.heap.size _ _ Ay cy y rfl (by rw [hy32]; exact hp_new _ _ _ rfl) (Hy2.out.keep (by have := (BX.alloc BX.size (.cells #[.slice Ay 32 cy] 35)).size; exact this) fun _ _ hp => (BX.alloc BX.size _).cell hp) Hne.out (by omega) (by have := (BX.alloc BX.size (.cells #[.slice Ay 32 cy] 35)).size; omega) fun v3 w3 ho3 hg3 => ?_)
      obtain ⟨k3, o3, l3⟩ := Hfin.out w2 v3 w3 BX ho3 hg3
      have K3 := Lib.hid k3
      have O3 := Lib.hid o3
      clear k3 o3 ho3 hg3 Hfin
      go_wp2_with fail
      exact HK.out _ _ _ _ _ _ _ _ _ _ _ _ _ _ _ _ _ _ _ _ _ _ _ _ _ _ _ _ _ _ _ _ _ _ _ _ _ _ _ _ _ _ _ _ _ _ ⟨by omega, K3.out, O3.out, l3⟩ (by omega)
    · have e1 : ((s : Int) != (ρ : Int)) = true := by rw [bne_iff_ne]; omega
      have hzy := hz hsr
      rw [hzy] at hzr
      have CS := Lib.hid (sameT_any (c := cy) (c' := cz) (n' := z.length) hy32.symm (by rw [hzy]) ((Hy2.out.rdb)) hzr)
      clear hz hsr hzr hzy
      go_wp2_with fail
      (with_reducible refine CS.out.mono ?_); rintro e w4 ⟨rfl, m, rfl⟩
      have BX := belowN w2.heap.size w2 m
      go_wp2_with (at_builtin; refine wpList_append_row rfl _ _ _ rfl Tryz.underlying32 lo _ xs rfl (V2.out.below (BX.alloc BX.size _)) (w2.drewN m).heap.size _ _ Ay cy y rfl (by rw [hy32]; exact hp_new _ _ _ rfl) (Hy2.out.keep (by have := (BX.alloc BX.size (.cells #[.slice Ay 32 cy] 35)).size; exact this) fun _ _ hp => (BX.alloc BX.size _).cell hp) Hne.out (by omega) (by have := (BX.alloc BX.size (.cells #[.slice Ay 32 cy] 35)).size; omega) fun v3 w3 ho3 hg3 => ?_)
      obtain ⟨k3, o3, l3⟩ := Hfin.out (w2.drewN m) v3 w3 BX ho3 hg3
      have K3 := Lib.hid k3
      have O3 := Lib.hid o3
      clear k3 o3 ho3 hg3 Hfin
      go_wp2_with fail
      exact HK.out _ _ _ _ _ _ _ _ _ _ _ _ _ _ _ _ _ _ _ _ _ _ _ _ _ _ _ _ _ _ _ _ _ _ _ _ _ _ _ _ _ _ _ _ _ _ ⟨by omega, K3.out, O3.out, l3⟩ (by omega)
  · have i1 : ¬ (d : Int) < (D : Int) := by omega
    have Hin := Lib.hid (show d = D by omega)
    clear HK hk
    go_wp2_with fail
    exact HX.out _ _ _ _ _ _ _ _ _ _ _ _ _ _ _ _ _ _ _ _ _ _ _ _ _ _ _ _ _ _ _ _ _ _ _ _ _ _ _ _ _ _ _ _ Hin.out
set_option maxRecDepth 100000 in
set_option maxHeartbeats 3200000 in
theorem urA {W0 : World} {n l c r : Int} {D F W s ρ b bw gb lo : Nat} {LK : List (Nat × Obj)} {H H2 : BH} {M N : Bch}  {w : World} (u0 u1 u2 u3 u4 u5 u6 u9 u10 u12 u13 u15 u19 u20 u21 u22 u23 u24 u25 u26 u27 u28 u29 u30 u31 u32 u33 u34 u35 u36 u37 u38 u39 u40 u41 u42 u43 u44 u45 u46 u47 u48 u49 u50 u51 u52 u53 u54 u55 u56 u57 u58 u59 u60 u61 u62 u63 u64 u65 u66 u67 u68 u69 u70 u71 u72 u73 u74 u75 u76 u77 u78 u79 u80 u81 u82 u83 u84 u85 u86 u87 u88 u89 u90 u91 u92 u93 u94 u95 u96 u97 u98 u99 u100 u101 u102 u103 u104 u105 u106 u107 u108 u109 u110 u111 u112 u113 u114 u115 u116 u117 u118 u119 u120 u121 u122 u123 u124 u125 u126 u127 : Value) (Q : Exit → Act → World → Prop) (gr : Gr n l c r D F W) (hs : s < 16) (um : Up M D) (un : Up N D) (h32 : ∀ i, i < D → (secAt (M.D i).now (36 + s)).length = 32) (hsame : s ≠ ρ → ∀ i, i < D → secAt (N.D i).now (36 + s) = secAt (M.D i).now (36 + s)) (hwas : ∀ V : World, (∀ p ∈ LK, V.heap[p.1]? = some p.2) → BAt V W0.heap.size bw H2 N) (hlW : W0.heap.size ≤ lo) (hlo : ∀ k, BF b H M.n k → k < lo) (hlk : ∀ q ∈ (gb, Obj.cells #[.int .i64 l, .int .i64 (D : Int), .int .i64 c] 24 (0, 0)) :: LK, q.1 < lo) (hI : (0 ≤ D ∧ KS W0 w b H M ((gb, Obj.cells #[.int .i64 l, .int .i64 (D : Int), .int .i64 c] 24 (0, 0)) :: LK) [] [] ∧ OwV lo w (.slice none 0 0) (secsL M (36 + s) 0) ∧ lo ≤ w.heap.size))
    (hX : ∀ (v6 v19 v20 v21 v22 v83 v84 v85 v86 v87 v88 v89 v90 v91 v92 v93 v94 v95 v96 v97 v98 v99 v100 v101 v102 v103 v104 v105 v106 v107 v108 v109 v110 v111 v112 v113 v114 v115 v116 v117 v118 v119 v120 v121 : Value) (xv : Value) (d : Nat) (V : World), (d ≤ D ∧ KS W0 V b H M ((gb, Obj.cells #[.int .i64 l, .int .i64 (D : Int), .int .i64 c] 24 (0, 0)) :: LK) [] [] ∧ OwV lo V xv (secsL M (36 + s) d) ∧ lo ≤ V.heap.size) → (d = D) → Q (.exit 4) ⟨List.toArray (u0 :: u1 :: u2 :: u3 :: u4 :: u5 :: v6 :: (.pointer (some ⟨gb, 0, none⟩)) :: (.pointer (some ⟨b, 0, none⟩)) :: u9 :: u10 :: (.pointer (some ⟨bw, 0, none⟩)) :: u12 :: u13 :: (.int .i64 (ρ : Int)) :: u15 :: (.int .i64 (s : Int)) :: xv :: (.int .i64 ((d : Nat) : Int)) :: v19 :: v20 :: v21 :: v22 :: u23 :: u24 :: u25 :: u26 :: u27 :: u28 :: u29 :: u30 :: u31 :: u32 :: u33 :: u34 :: u35 :: u36 :: u37 :: u38 :: u39 :: u40 :: u41 :: u42 :: u43 :: u44 :: u45 :: u46 :: u47 :: u48 :: u49 :: u50 :: u51 :: u52 :: u53 :: u54 :: u55 :: u56 :: u57 :: u58 :: u59 :: u60 :: u61 :: u62 :: u63 :: u64 :: u65 :: u66 :: u67 :: u68 :: u69 :: u70 :: u71 :: u72 :: u73 :: u74 :: u75 :: u76 :: u77 :: u78 :: u79 :: u80 :: u81 :: u82 :: v83 :: v84 :: v85 :: v86 :: v87 :: v88 :: v89 :: v90 :: v91 :: v92 :: v93 :: v94 :: v95 :: v96 :: v97 :: v98 :: v99 :: v100 :: v101 :: v102 :: v103 :: v104 :: v105 :: v106 :: v107 :: v108 :: v109 :: v110 :: v111 :: v112 :: v113 :: v114 :: v115 :: v116 :: v117 :: v118 :: v119 :: v120 :: v121 :: u122 :: u123 :: u124 :: u125 :: u126 :: u127 :: []), []⟩ V) :
    Code.wp Tryz.prog (.loop (sub [1, 1, 1, 1, 1, 0, 1, 0, 0, 1, 0, 0, 1, 1, 1, 1, 1, 0, 0, 1, 0, 0, 1, 0, 1, 0, 0] codeUR)) Q ⟨List.toArray (u0 :: u1 :: u2 :: u3 :: u4 :: u5 :: u6 :: (.pointer (some ⟨gb, 0, none⟩)) :: (.pointer (some ⟨b, 0, none⟩)) :: u9 :: u10 :: (.pointer (some ⟨bw, 0, none⟩)) :: u12 :: u13 :: (.int .i64 (ρ : Int)) :: u15 :: (.int .i64 (s : Int)) :: (.slice none 0 0) :: (.int .i64 ((0 : Nat) : Int)) :: u19 :: u20 :: u21 :: u22 :: u23 :: u24 :: u25 :: u26 :: u27 :: u28 :: u29 :: u30 :: u31 :: u32 :: u33 :: u34 :: u35 :: u36 :: u37 :: u38 :: u39 :: u40 :: u41 :: u42 :: u43 :: u44 :: u45 :: u46 :: u47 :: u48 :: u49 :: u50 :: u51 :: u52 :: u53 :: u54 :: u55 :: u56 :: u57 :: u58 :: u59 :: u60 :: u61 :: u62 :: u63 :: u64 :: u65 :: u66 :: u67 :: u68 :: u69 :: u70 :: u71 :: u72 :: u73 :: u74 :: u75 :: u76 :: u77 :: u78 :: u79 :: u80 :: u81 :: u82 :: u83 :: u84 :: u85 :: u86 :: u87 :: u88 :: u89 :: u90 :: u91 :: u92 :: u93 :: u94 :: u95 :: u96 :: u97 :: u98 :: u99 :: u100 :: u101 :: u102 :: u103 :: u104 :: u105 :: u106 :: u107 :: u108 :: u109 :: u110 :: u111 :: u112 :: u113 :: u114 :: u115 :: u116 :: u117 :: u118 :: u119 :: u120 :: u121 :: u122 :: u123 :: u124 :: u125 :: u126 :: u127 :: []), []⟩ w := by
  refine wp_loop_ghost (fun gk a V => ∀ C : Prop, (∀ (u6 u19 u20 u21 u22 u83 u84 u85 u86 u87 u88 u89 u90 u91 u92 u93 u94 u95 u96 u97 u98 u99 u100 u101 u102 u103 u104 u105 u106 u107 u108 u109 u110 u111 u112 u113 u114 u115 u116 u117 u118 u119 u120 u121 : Value) (xv : Value) (d : Nat), gk = D - d → (d ≤ D ∧ KS W0 V b H M ((gb, Obj.cells #[.int .i64 l, .int .i64 (D : Int), .int .i64 c] 24 (0, 0)) :: LK) [] [] ∧ OwV lo V xv (secsL M (36 + s) d) ∧ lo ≤ V.heap.size) → a = ⟨List.toArray (u0 :: u1 :: u2 :: u3 :: u4 :: u5 :: u6 :: (.pointer (some ⟨gb, 0, none⟩)) :: (.pointer (some ⟨b, 0, none⟩)) :: u9 :: u10 :: (.pointer (some ⟨bw, 0, none⟩)) :: u12 :: u13 :: (.int .i64 (ρ : Int)) :: u15 :: (.int .i64 (s : Int)) :: xv :: (.int .i64 ((d : Nat) : Int)) :: u19 :: u20 :: u21 :: u22 :: u23 :: u24 :: u25 :: u26 :: u27 :: u28 :: u29 :: u30 :: u31 :: u32 :: u33 :: u34 :: u35 :: u36 :: u37 :: u38 :: u39 :: u40 :: u41 :: u42 :: u43 :: u44 :: u45 :: u46 :: u47 :: u48 :: u49 :: u50 :: u51 :: u52 :: u53 :: u54 :: u55 :: u56 :: u57 :: u58 :: u59 :: u60 :: u61 :: u62 :: u63 :: u64 :: u65 :: u66 :: u67 :: u68 :: u69 :: u70 :: u71 :: u72 :: u73 :: u74 :: u75 :: u76 :: u77 :: u78 :: u79 :: u80 :: u81 :: u82 :: u83 :: u84 :: u85 :: u86 :: u87 :: u88 :: u89 :: u90 :: u91 :: u92 :: u93 :: u94 :: u95 :: u96 :: u97 :: u98 :: u99 :: u100 :: u101 :: u102 :: u103 :: u104 :: u105 :: u106 :: u107 :: u108 :: u109 :: u110 :: u111 :: u112 :: u113 :: u114 :: u115 :: u116 :: u117 :: u118 :: u119 :: u120 :: u121 :: u122 :: u123 :: u124 :: u125 :: u126 :: u127 :: []), []⟩ → C) → C) (D - 0) ?_ ?_
  · intro C hC
    exact hC _ _ _ _ _ _ _ _ _ _ _ _ _ _ _ _ _ _ _ _ _ _ _ _ _ _ _ _ _ _ _ _ _ _ _ _ _ _ _ _ _ _ _ _ ((.slice none 0 0)) (0) rfl hI rfl
  · intro gk a V hI'
    refine hI' _ ?_
    intro u6 u19 u20 u21 u22 u83 u84 u85 u86 u87 u88 u89 u90 u91 u92 u93 u94 u95 u96 u97 u98 u99 u100 u101 u102 u103 u104 u105 u106 u107 u108 u109 u110 u111 u112 u113 u114 u115 u116 u117 u118 u119 u120 u121 xv d hk hinv ha
    subst ha
    subst hk
    refine urAb _ _ _ _ _ _ _ _ _ _ _ _ _ _ _ _ _ _ _ _ _ _ _ _ _ _ _ _ _ _ _ _ _ _ _ _ _ _ _ _ _ _ _ _ _ _ _ _ _ _ _ _ _ _ _ _ _ _ _ _ _ _ _ _ _ _ _ _ _ _ _ _ _ _ _ _ _ _ _ _ _ _ _ _ _ _ _ _ _ _ _ _ _ _ _ _ _ _ _ _ _ _ _ _ _ _ _ _ _ _ _ _ _ _ _ _ _ _ _ _ _ _ _ gr hs um un h32 hsame hwas hlW hlo hlk hinv (fun v6 v19 v20 v21 v22 v83 v84 v85 v86 v87 v88 v89 v90 v91 v92 v93 v94 v95 v96 v97 v98 v99 v100 v101 v102 v103 v104 v105 v106 v107 v108 v109 v110 v111 v112 v113 v114 v115 v116 v117 v118 v119 v120 v121 xv2 V2 h2 hm => ?_) (fun v6 v19 v20 v21 v22 v83 v84 v85 v86 v87 v88 v89 v90 v91 v92 v93 v94 v95 v96 v97 v98 v99 v100 v101 v102 v103 v104 v105 v106 v107 v108 v109 v110 v111 v112 v113 v114 v115 v116 v117 v118 v119 v120 v121 hx => hX v6 v19 v20 v21 v22 v83 v84 v85 v86 v87 v88 v89 v90 v91 v92 v93 v94 v95 v96 v97 v98 v99 v100 v101 v102 v103 v104 v105 v106 v107 v108 v109 v110 v111 v112 v113 v114 v115 v116 v117 v118 v119 v120 v121 xv d V hinv hx)
    refine ⟨_, hm, fun C hC => ?_⟩
    exact hC v6 v19 v20 v21 v22 v83 v84 v85 v86 v87 v88 v89 v90 v91 v92 v93 v94 v95 v96 v97 v98 v99 v100 v101 v102 v103 v104 v105 v106 v107 v108 v109 v110 v111 v112 v113 v114 v115 v116 v117 v118 v119 v120 v121 (xv2) ((d + 1)) rfl h2 rfl
theorem secs_row {M : Bch} {nn l c : Int} {D F W s : Nat} {ds : Nat → List (List UInt8)} (gr : Gr nn l c (s : Int) D F W) (h : ∀ i, i < D → secAt (M.D i).now (36 + s) = (flG l c D ds s).getD i []) : secsL M (36 + s) D = fillL D F (ds s) := ext_getD (by rw [secsL_len, fillL_len]) fun i hi => by
  rw [secsL_len] at hi
  have e : (secsL M (36 + s) D).getD i [] = secAt (M.D i).now (36 + s) := by simp [secsL, List.getD_eq_getElem?_getD, hi]
  rw [e, h i hi]; unfold flG; rw [gr.eF]
set_option maxRecDepth 100000 in
set_option maxHeartbeats 3200000 in
theorem urBb {W0 : World} {n l c r : Int} {D F W ρ b bw gb : Nat} {LK : List (Nat × Obj)} {H H2 : BH} {M N : Bch} {ds : Nat → List (List UInt8)} {s : Nat} {w : World} (u0 u1 u2 u3 u4 u5 u6 u9 u10 u12 u13 u15 u17 u18 u19 u20 u21 u22 u23 u24 u25 u26 u27 u28 u29 u30 u31 u32 u33 u34 u35 u36 u37 u38 u39 u40 u41 u42 u43 u44 u45 u46 u47 u48 u49 u50 u51 u52 u53 u54 u55 u56 u57 u58 u59 u60 u61 u62 u63 u64 u65 u66 u67 u68 u69 u70 u71 u72 u73 u74 u75 u76 u77 u78 u79 u80 u81 u82 u83 u84 u85 u86 u87 u88 u89 u90 u91 u92 u93 u94 u95 u96 u97 u98 u99 u100 u101 u102 u103 u104 u105 u106 u107 u108 u109 u110 u111 u112 u113 u114 u115 u116 u117 u118 u119 u120 u121 u122 u123 u124 u125 u126 u127 : Value) (K : Act → World → Prop) (Q0 : Exit → Act → World → Prop) (gr : Gr n l c r D F W) (um : Up M D) (un : Up N D) (hda : Dat W ds) (hrow : ∀ s, s < 16 → ∀ i, i < D → secAt (M.D i).now (36 + s) = (flG l c D ds s).getD i []) (hsame : ∀ s, s < 16 → s ≠ ρ → ∀ i, i < D → secAt (N.D i).now (36 + s) = secAt (M.D i).now (36 + s)) (hwas : ∀ V : World, (∀ p ∈ LK, V.heap[p.1]? = some p.2) → BAt V W0.heap.size bw H2 N) (hI : (s ≤ 16 ∧ KS W0 w b H M ((gb, Obj.cells #[.int .i64 l, .int .i64 (D : Int), .int .i64 c] 24 (0, 0)) :: LK) [] []))
    (hK : ∀ (v6 v17 v18 v19 v20 v21 v22 v79 v80 v81 v82 v83 v84 v85 v86 v87 v88 v89 v90 v91 v92 v93 v94 v95 v96 v97 v98 v99 v100 v101 v102 v103 v104 v105 v106 v107 v108 v109 v110 v111 v112 v113 v114 v115 v116 v117 v118 v119 v120 v121 v122 v123 v124 v125 v126 : Value)  (V : World), ((s + 1) ≤ 16 ∧ KS W0 V b H M ((gb, Obj.cells #[.int .i64 l, .int .i64 (D : Int), .int .i64 c] 24 (0, 0)) :: LK) [] []) → 16 - (s + 1) < 16 - s → K ⟨List.toArray (u0 :: u1 :: u2 :: u3 :: u4 :: u5 :: v6 :: (.pointer (some ⟨gb, 0, none⟩)) :: (.pointer (some ⟨b, 0, none⟩)) :: u9 :: u10 :: (.pointer (some ⟨bw, 0, none⟩)) :: u12 :: u13 :: (.int .i64 (ρ : Int)) :: u15 :: (.int .i64 (((s + 1) : Nat) : Int)) :: v17 :: v18 :: v19 :: v20 :: v21 :: v22 :: u23 :: u24 :: u25 :: u26 :: u27 :: u28 :: u29 :: u30 :: u31 :: u32 :: u33 :: u34 :: u35 :: u36 :: u37 :: u38 :: u39 :: u40 :: u41 :: u42 :: u43 :: u44 :: u45 :: u46 :: u47 :: u48 :: u49 :: u50 :: u51 :: u52 :: u53 :: u54 :: u55 :: u56 :: u57 :: u58 :: u59 :: u60 :: u61 :: u62 :: u63 :: u64 :: u65 :: u66 :: u67 :: u68 :: u69 :: u70 :: u71 :: u72 :: u73 :: u74 :: u75 :: u76 :: u77 :: u78 :: v79 :: v80 :: v81 :: v82 :: v83 :: v84 :: v85 :: v86 :: v87 :: v88 :: v89 :: v90 :: v91 :: v92 :: v93 :: v94 :: v95 :: v96 :: v97 :: v98 :: v99 :: v100 :: v101 :: v102 :: v103 :: v104 :: v105 :: v106 :: v107 :: v108 :: v109 :: v110 :: v111 :: v112 :: v113 :: v114 :: v115 :: v116 :: v117 :: v118 :: v119 :: v120 :: v121 :: v122 :: v123 :: v124 :: v125 :: v126 :: u127 :: []), []⟩ V)
    (hX : ∀ (v6 v17 v18 v19 v20 v21 v22 v79 v80 v81 v82 v83 v84 v85 v86 v87 v88 v89 v90 v91 v92 v93 v94 v95 v96 v97 v98 v99 v100 v101 v102 v103 v104 v105 v106 v107 v108 v109 v110 v111 v112 v113 v114 v115 v116 v117 v118 v119 v120 v121 v122 v123 v124 v125 v126 : Value), (s = 16) → Q0 (.exit 2) ⟨List.toArray (u0 :: u1 :: u2 :: u3 :: u4 :: u5 :: v6 :: (.pointer (some ⟨gb, 0, none⟩)) :: (.pointer (some ⟨b, 0, none⟩)) :: u9 :: u10 :: (.pointer (some ⟨bw, 0, none⟩)) :: u12 :: u13 :: (.int .i64 (ρ : Int)) :: u15 :: (.int .i64 ((s : Nat) : Int)) :: v17 :: v18 :: v19 :: v20 :: v21 :: v22 :: u23 :: u24 :: u25 :: u26 :: u27 :: u28 :: u29 :: u30 :: u31 :: u32 :: u33 :: u34 :: u35 :: u36 :: u37 :: u38 :: u39 :: u40 :: u41 :: u42 :: u43 :: u44 :: u45 :: u46 :: u47 :: u48 :: u49 :: u50 :: u51 :: u52 :: u53 :: u54 :: u55 :: u56 :: u57 :: u58 :: u59 :: u60 :: u61 :: u62 :: u63 :: u64 :: u65 :: u66 :: u67 :: u68 :: u69 :: u70 :: u71 :: u72 :: u73 :: u74 :: u75 :: u76 :: u77 :: u78 :: v79 :: v80 :: v81 :: v82 :: v83 :: v84 :: v85 :: v86 :: v87 :: v88 :: v89 :: v90 :: v91 :: v92 :: v93 :: v94 :: v95 :: v96 :: v97 :: v98 :: v99 :: v100 :: v101 :: v102 :: v103 :: v104 :: v105 :: v106 :: v107 :: v108 :: v109 :: v110 :: v111 :: v112 :: v113 :: v114 :: v115 :: v116 :: v117 :: v118 :: v119 :: v120 :: v121 :: v122 :: v123 :: v124 :: v125 :: v126 :: u127 :: []), []⟩ w) :
    Code.wp Tryz.prog (sub [1, 1, 1, 1, 1, 0, 1, 0, 0, 1, 0, 0, 1, 1, 1, 1, 1, 0, 0] codeUR) (Exit.then K Q0) ⟨List.toArray (u0 :: u1 :: u2 :: u3 :: u4 :: u5 :: u6 :: (.pointer (some ⟨gb, 0, none⟩)) :: (.pointer (some ⟨b, 0, none⟩)) :: u9 :: u10 :: (.pointer (some ⟨bw, 0, none⟩)) :: u12 :: u13 :: (.int .i64 (ρ : Int)) :: u15 :: (.int .i64 ((s : Nat) : Int)) :: u17 :: u18 :: u19 :: u20 :: u21 :: u22 :: u23 :: u24 :: u25 :: u26 :: u27 :: u28 :: u29 :: u30 :: u31 :: u32 :: u33 :: u34 :: u35 :: u36 :: u37 :: u38 :: u39 :: u40 :: u41 :: u42 :: u43 :: u44 :: u45 :: u46 :: u47 :: u48 :: u49 :: u50 :: u51 :: u52 :: u53 :: u54 :: u55 :: u56 :: u57 :: u58 :: u59 :: u60 :: u61 :: u62 :: u63 :: u64 :: u65 :: u66 :: u67 :: u68 :: u69 :: u70 :: u71 :: u72 :: u73 :: u74 :: u75 :: u76 :: u77 :: u78 :: u79 :: u80 :: u81 :: u82 :: u83 :: u84 :: u85 :: u86 :: u87 :: u88 :: u89 :: u90 :: u91 :: u92 :: u93 :: u94 :: u95 :: u96 :: u97 :: u98 :: u99 :: u100 :: u101 :: u102 :: u103 :: u104 :: u105 :: u106 :: u107 :: u108 :: u109 :: u110 :: u111 :: u112 :: u113 :: u114 :: u115 :: u116 :: u117 :: u118 :: u119 :: u120 :: u121 :: u122 :: u123 :: u124 :: u125 :: u126 :: u127 :: []), []⟩ w := by
  have HK := Lib.hid hK
  have HX := Lib.hid hX
  clear hK hX
  conv => arg 2; whnf
  obtain ⟨hs, hk⟩ := hI
  have hd8 := gr.d8
  have Hk := Lib.hid hk
  by_cases hlt : s < 16
  · have i0 : (0 : Int) ≤ (s : Int) := by omega
    have i1 : (s : Int) < 16 := by omega
    have grs := gr.at hlt
    have hsr := secs_row grs (hrow s hlt)
    have h32 : ∀ i, i < D → (secAt (M.D i).now (36 + s)).length = 32 := fun i hi => by
      rw [hrow s hlt i hi]
      exact grs.fills (hda.len s) (hda.m s) hi
    have hlo := hk.flt
    have hlk : ∀ q ∈ (gb, Obj.cells #[.int .i64 l, .int .i64 (D : Int), .int .i64 c] 24 (0, 0)) :: LK, q.1 < w.heap.size := fun q hq => (Array.getElem?_eq_some_iff.1 (hk.kx.kp q hq).1).1
    have hlW := hk.bp.bel.size
    have hsm := hsame s hlt
    have hrr : roRight l (D : Int) c (s : Int) (secsL M (36 + s) D) = true := by
      have := row_right (grs.fok (hda.len s) (hda.m s))
      rw [grs.eD, grs.eF] at this
      rw [hsr]; exact this
    have CRt := Lib.hid (fun (V : World) (A : Option Addr) (cp : Nat) (hr : RdR V V.heap.size A (secsL M (36 + s) D)) => grs.right (cp := cp) hr (secsL_len _ _ _))
    rw [hrr] at CRt
    have hsl := secsL_len M (36 + s) D
    have Gr' := Lib.hid gr
    clear hk HX hrr hsr hrow hsame hda gr grs
    go_upto_block 4 with fail
    refine wp_block ?_
    refine urA _ _ _ _ _ _ _ _ _ _ _ _ _ _ _ _ _ _ _ _ _ _ _ _ _ _ _ _ _ _ _ _ _ _ _ _ _ _ _ _ _ _ _ _ _ _ _ _ _ _ _ _ _ _ _ _ _ _ _ _ _ _ _ _ _ _ _ _ _ _ _ _ _ _ _ _ _ _ _ _ _ _ _ _ _ _ _ _ _ _ _ _ _ _ _ _ _ _ _ _ _ _ _ _ _ _ _ _ _ _ _ _ _ _ _ _ _ _ _ _ _ _ Gr'.out hlt um un h32 hsm hwas hlW hlo hlk ⟨Nat.zero_le _, Hk.out, OwV.nil _ _, Nat.le_refl _⟩ (fun v6 v19 v20 v21 v22 v83 v84 v85 v86 v87 v88 v89 v90 v91 v92 v93 v94 v95 v96 v97 v98 v99 v100 v101 v102 v103 v104 v105 v106 v107 v108 v109 v110 v111 v112 v113 v114 v115 v116 v117 v118 v119 v120 v121 xv d V1 hI hx => ?_)
    obtain ⟨_, k1, hv, _⟩ := hI
    rw [hx] at hv
    clear hx
    obtain ⟨A, cp, rfl, _, hr⟩ := hv.rd (by rw [hsl]; omega)
    rw [hsl]
    have CR := Lib.hid (CRt.out V1 A cp hr)
    obtain ⟨g1, g2, g3⟩ := k1.gat (g := gb) (l := l) (d := (D : Int)) (c := c) (t := 24) (f := (0, 0)) (by simp)
    have K1 := Lib.hid k1
    clear k1 hv hr CRt Hk
    go_wp2_with fail
    (with_reducible refine CR.out.mono ?_); rintro e w2 ⟨rfl, hb2⟩
    have K2 := Lib.hid (K1.out.below hb2)
    clear hb2 K1 CR g1 g2 g3
    go_wp2_with fail
    exact HK.out _ _ _ _ _ _ _ _ _ _ _ _ _ _ _ _ _ _ _ _ _ _ _ _ _ _ _ _ _ _ _ _ _ _ _ _ _ _ _ _ _ _ _ _ _ _ _ _ _ _ _ _ _ _ _ _ ⟨by omega, K2.out⟩ (by omega)
  · have i1 : ¬ (s : Int) < 16 := by omega
    have Hin := Lib.hid (show s = 16 by omega)
    clear HK hk
    go_wp2_with fail
    exact HX.out _ _ _ _ _ _ _ _ _ _ _ _ _ _ _ _ _ _ _ _ _ _ _ _ _ _ _ _ _ _ _ _ _ _ _ _ _ _ _ _ _ _ _ _ _ _ _ _ _ _ _ _ _ _ _ Hin.out
set_option maxRecDepth 100000 in
set_option maxHeartbeats 3200000 in
theorem urB {W0 : World} {n l c r : Int} {D F W ρ b bw gb : Nat} {LK : List (Nat × Obj)} {H H2 : BH} {M N : Bch} {ds : Nat → List (List UInt8)}  {w : World} (u0 u1 u2 u3 u4 u5 u6 u9 u10 u12 u13 u15 u17 u18 u19 u20 u21 u22 u23 u24 u25 u26 u27 u28 u29 u30 u31 u32 u33 u34 u35 u36 u37 u38 u39 u40 u41 u42 u43 u44 u45 u46 u47 u48 u49 u50 u51 u52 u53 u54 u55 u56 u57 u58 u59 u60 u61 u62 u63 u64 u65 u66 u67 u68 u69 u70 u71 u72 u73 u74 u75 u76 u77 u78 u79 u80 u81 u82 u83 u84 u85 u86 u87 u88 u89 u90 u91 u92 u93 u94 u95 u96 u97 u98 u99 u100 u101 u102 u103 u104 u105 u106 u107 u108 u109 u110 u111 u112 u113 u114 u115 u116 u117 u118 u119 u120 u121 u122 u123 u124 u125 u126 u127 : Value) (Q : Exit → Act → World → Prop) (gr : Gr n l c r D F W) (um : Up M D) (un : Up N D) (hda : Dat W ds) (hrow : ∀ s, s < 16 → ∀ i, i < D → secAt (M.D i).now (36 + s) = (flG l c D ds s).getD i []) (hsame : ∀ s, s < 16 → s ≠ ρ → ∀ i, i < D → secAt (N.D i).now (36 + s) = secAt (M.D i).now (36 + s)) (hwas : ∀ V : World, (∀ p ∈ LK, V.heap[p.1]? = some p.2) → BAt V W0.heap.size bw H2 N) (hI : (0 ≤ 16 ∧ KS W0 w b H M ((gb, Obj.cells #[.int .i64 l, .int .i64 (D : Int), .int .i64 c] 24 (0, 0)) :: LK) [] []))
    (hX : ∀ (v6 v17 v18 v19 v20 v21 v22 v79 v80 v81 v82 v83 v84 v85 v86 v87 v88 v89 v90 v91 v92 v93 v94 v95 v96 v97 v98 v99 v100 v101 v102 v103 v104 v105 v106 v107 v108 v109 v110 v111 v112 v113 v114 v115 v116 v117 v118 v119 v120 v121 v122 v123 v124 v125 v126 : Value) (s : Nat) (V : World), (s ≤ 16 ∧ KS W0 V b H M ((gb, Obj.cells #[.int .i64 l, .int .i64 (D : Int), .int .i64 c] 24 (0, 0)) :: LK) [] []) → (s = 16) → Q (.exit 2) ⟨List.toArray (u0 :: u1 :: u2 :: u3 :: u4 :: u5 :: v6 :: (.pointer (some ⟨gb, 0, none⟩)) :: (.pointer (some ⟨b, 0, none⟩)) :: u9 :: u10 :: (.pointer (some ⟨bw, 0, none⟩)) :: u12 :: u13 :: (.int .i64 (ρ : Int)) :: u15 :: (.int .i64 ((s : Nat) : Int)) :: v17 :: v18 :: v19 :: v20 :: v21 :: v22 :: u23 :: u24 :: u25 :: u26 :: u27 :: u28 :: u29 :: u30 :: u31 :: u32 :: u33 :: u34 :: u35 :: u36 :: u37 :: u38 :: u39 :: u40 :: u41 :: u42 :: u43 :: u44 :: u45 :: u46 :: u47 :: u48 :: u49 :: u50 :: u51 :: u52 :: u53 :: u54 :: u55 :: u56 :: u57 :: u58 :: u59 :: u60 :: u61 :: u62 :: u63 :: u64 :: u65 :: u66 :: u67 :: u68 :: u69 :: u70 :: u71 :: u72 :: u73 :: u74 :: u75 :: u76 :: u77 :: u78 :: v79 :: v80 :: v81 :: v82 :: v83 :: v84 :: v85 :: v86 :: v87 :: v88 :: v89 :: v90 :: v91 :: v92 :: v93 :: v94 :: v95 :: v96 :: v97 :: v98 :: v99 :: v100 :: v101 :: v102 :: v103 :: v104 :: v105 :: v106 :: v107 :: v108 :: v109 :: v110 :: v111 :: v112 :: v113 :: v114 :: v115 :: v116 :: v117 :: v118 :: v119 :: v120 :: v121 :: v122 :: v123 :: v124 :: v125 :: v126 :: u127 :: []), []⟩ V) :
    Code.wp Tryz.prog (.loop (sub [1, 1, 1, 1, 1, 0, 1, 0, 0, 1, 0, 0, 1, 1, 1, 1, 1, 0, 0] codeUR)) Q ⟨List.toArray (u0 :: u1 :: u2 :: u3 :: u4 :: u5 :: u6 :: (.pointer (some ⟨gb, 0, none⟩)) :: (.pointer (some ⟨b, 0, none⟩)) :: u9 :: u10 :: (.pointer (some ⟨bw, 0, none⟩)) :: u12 :: u13 :: (.int .i64 (ρ : Int)) :: u15 :: (.int .i64 ((0 : Nat) : Int)) :: u17 :: u18 :: u19 :: u20 :: u21 :: u22 :: u23 :: u24 :: u25 :: u26 :: u27 :: u28 :: u29 :: u30 :: u31 :: u32 :: u33 :: u34 :: u35 :: u36 :: u37 :: u38 :: u39 :: u40 :: u41 :: u42 :: u43 :: u44 :: u45 :: u46 :: u47 :: u48 :: u49 :: u50 :: u51 :: u52 :: u53 :: u54 :: u55 :: u56 :: u57 :: u58 :: u59 :: u60 :: u61 :: u62 :: u63 :: u64 :: u65 :: u66 :: u67 :: u68 :: u69 :: u70 :: u71 :: u72 :: u73 :: u74 :: u75 :: u76 :: u77 :: u78 :: u79 :: u80 :: u81 :: u82 :: u83 :: u84 :: u85 :: u86 :: u87 :: u88 :: u89 :: u90 :: u91 :: u92 :: u93 :: u94 :: u95 :: u96 :: u97 :: u98 :: u99 :: u100 :: u101 :: u102 :: u103 :: u104 :: u105 :: u106 :: u107 :: u108 :: u109 :: u110 :: u111 :: u112 :: u113 :: u114 :: u115 :: u116 :: u117 :: u118 :: u119 :: u120 :: u121 :: u122 :: u123 :: u124 :: u125 :: u126 :: u127 :: []), []⟩ w := by
  refine wp_loop_ghost (fun gk a V => ∀ C : Prop, (∀ (u6 u17 u18 u19 u20 u21 u22 u79 u80 u81 u82 u83 u84 u85 u86 u87 u88 u89 u90 u91 u92 u93 u94 u95 u96 u97 u98 u99 u100 u101 u102 u103 u104 u105 u106 u107 u108 u109 u110 u111 u112 u113 u114 u115 u116 u117 u118 u119 u120 u121 u122 u123 u124 u125 u126 : Value) (s : Nat), gk = 16 - s → (s ≤ 16 ∧ KS W0 V b H M ((gb, Obj.cells #[.int .i64 l, .int .i64 (D : Int), .int .i64 c] 24 (0, 0)) :: LK) [] []) → a = ⟨List.toArray (u0 :: u1 :: u2 :: u3 :: u4 :: u5 :: u6 :: (.pointer (some ⟨gb, 0, none⟩)) :: (.pointer (some ⟨b, 0, none⟩)) :: u9 :: u10 :: (.pointer (some ⟨bw, 0, none⟩)) :: u12 :: u13 :: (.int .i64 (ρ : Int)) :: u15 :: (.int .i64 ((s : Nat) : Int)) :: u17 :: u18 :: u19 :: u20 :: u21 :: u22 :: u23 :: u24 :: u25 :: u26 :: u27 :: u28 :: u29 :: u30 :: u31 :: u32 :: u33 :: u34 :: u35 :: u36 :: u37 :: u38 :: u39 :: u40 :: u41 :: u42 :: u43 :: u44 :: u45 :: u46 :: u47 :: u48 :: u49 :: u50 :: u51 :: u52 :: u53 :: u54 :: u55 :: u56 :: u57 :: u58 :: u59 :: u60 :: u61 :: u62 :: u63 :: u64 :: u65 :: u66 :: u67 :: u68 :: u69 :: u70 :: u71 :: u72 :: u73 :: u74 :: u75 :: u76 :: u77 :: u78 :: u79 :: u80 :: u81 :: u82 :: u83 :: u84 :: u85 :: u86 :: u87 :: u88 :: u89 :: u90 :: u91 :: u92 :: u93 :: u94 :: u95 :: u96 :: u97 :: u98 :: u99 :: u100 :: u101 :: u102 :: u103 :: u104 :: u105 :: u106 :: u107 :: u108 :: u109 :: u110 :: u111 :: u112 :: u113 :: u114 :: u115 :: u116 :: u117 :: u118 :: u119 :: u120 :: u121 :: u122 :: u123 :: u124 :: u125 :: u126 :: u127 :: []), []⟩ → C) → C) (16 - 0) ?_ ?_
  · intro C hC
    exact hC _ _ _ _ _ _ _ _ _ _ _ _ _ _ _ _ _ _ _ _ _ _ _ _ _ _ _ _ _ _ _ _ _ _ _ _ _ _ _ _ _ _ _ _ _ _ _ _ _ _ _ _ _ _ _ (0) rfl hI rfl
  · intro gk a V hI'
    refine hI' _ ?_
    intro u6 u17 u18 u19 u20 u21 u22 u79 u80 u81 u82 u83 u84 u85 u86 u87 u88 u89 u90 u91 u92 u93 u94 u95 u96 u97 u98 u99 u100 u101 u102 u103 u104 u105 u106 u107 u108 u109 u110 u111 u112 u113 u114 u115 u116 u117 u118 u119 u120 u121 u122 u123 u124 u125 u126 s hk hinv ha
    subst ha
    subst hk
    refine urBb _ _ _ _ _ _ _ _ _ _ _ _ _ _ _ _ _ _ _ _ _ _ _ _ _ _ _ _ _ _ _ _ _ _ _ _ _ _ _ _ _ _ _ _ _ _ _ _ _ _ _ _ _ _ _ _ _ _ _ _ _ _ _ _ _ _ _ _ _ _ _ _ _ _ _ _ _ _ _ _ _ _ _ _ _ _ _ _ _ _ _ _ _ _ _ _ _ _ _ _ _ _ _ _ _ _ _ _ _ _ _ _ _ _ _ _ _ _ _ _ _ _ _ _ _ gr um un hda hrow hsame hwas hinv (fun v6 v17 v18 v19 v20 v21 v22 v79 v80 v81 v82 v83 v84 v85 v86 v87 v88 v89 v90 v91 v92 v93 v94 v95 v96 v97 v98 v99 v100 v101 v102 v103 v104 v105 v106 v107 v108 v109 v110 v111 v112 v113 v114 v115 v116 v117 v118 v119 v120 v121 v122 v123 v124 v125 v126  V2 h2 hm => ?_) (fun v6 v17 v18 v19 v20 v21 v22 v79 v80 v81 v82 v83 v84 v85 v86 v87 v88 v89 v90 v91 v92 v93 v94 v95 v96 v97 v98 v99 v100 v101 v102 v103 v104 v105 v106 v107 v108 v109 v110 v111 v112 v113 v114 v115 v116 v117 v118 v119 v120 v121 v122 v123 v124 v125 v126 hx => hX v6 v17 v18 v19 v20 v21 v22 v79 v80 v81 v82 v83 v84 v85 v86 v87 v88 v89 v90 v91 v92 v93 v94 v95 v96 v97 v98 v99 v100 v101 v102 v103 v104 v105 v106 v107 v108 v109 v110 v111 v112 v113 v114 v115 v116 v117 v118 v119 v120 v121 v122 v123 v124 v125 v126 s V hinv hx)
    refine ⟨_, hm, fun C hC => ?_⟩
    exact hC v6 v17 v18 v19 v20 v21 v22 v79 v80 v81 v82 v83 v84 v85 v86 v87 v88 v89 v90 v91 v92 v93 v94 v95 v96 v97 v98 v99 v100 v101 v102 v103 v104 v105 v106 v107 v108 v109 v110 v111 v112 v113 v114 v115 v116 v117 v118 v119 v120 v121 v122 v123 v124 v125 v126 ((s + 1)) rfl h2 rfl
end Go.Proofs.YtenkkdnepmoihaaGreatDoor
end
section
set_option maxRecDepth 20000
set_option linter.unusedVariables false
set_option linter.unusedSimpArgs false
namespace Go.Proofs.YtenkkdnepmoihaaGreatDoor
open Go.RowKit

theorem gr531 : Gr 0 5 1 0 3 (roF 5 ((3 : Nat) : Int) 1 0) 2 := by
  have hok : plOk 5 ((3 : Nat) : Int) 1 0 = true := by decide
  have R := ro_of hok
  exact ⟨hok, R, rfl, rfl, rfl, R.hF, by omega, by omega, by omega, by omega, by omega, .inl ⟨rfl, rfl⟩, R.wd, by omega, by omega, by omega, by omega, by omega⟩
theorem new_arr : Arr (Bch.new 3) 3 [true, true, true] 5 1 2 (fun _ => List.replicate 2 (zeroL 32)) := by
  refine ⟨⟨rfl, goodB_new 3, fun i hi t ht _ => ?_⟩, ⟨fun _ => by simp, fun _ => rep_mem⟩⟩
  show secAt Dsk.new.now (36 + t) = _
  rw [new_now, sec_zero (by omega)]
  have g := gr531.at ht
  show _ = (fillL 3 (roF 5 ((3 : Nat) : Int) 1 (t : Int)) (List.replicate 2 (zeroL 32))).getD i []
  rw [zeros_fill g.hF (by omega) (by omega) hi]
  rfl
theorem wakes_plan {x : List UInt8} (hx : x.length = 32) : upE (Bch.new 3) [true, true, true] 5 3 1 3 x = 0 ∧ (upL (Bch.new 3) [true, true, true] 5 3 1 3 x).length = 2 ∧ fillOk 5 3 1 (plOfR 5 3 1 3) (upX (Bch.new 3) [true, true, true] 5 3 1 3 x) = true := by
  have hsv : ∀ i, i < 3 → srvD (Bch.new 3) [true, true, true] i = true := fun i hi => srvD_mk hi (match i, hi with
    | 0, _ => rfl
    | 1, _ => rfl
    | 2, _ => rfl) rfl
  have hc : ((cntB 3 (fun i => !srvD (Bch.new 3) [true, true, true] i) : Nat) : Int) ≤ 5 - 4 := by
    rw [cntB_none fun i hi => by rw [hsv i hi]; rfl]; decide
  have hr : (1 : Nat) < 16 := by omega
  have hE := new_arr.ok gr531 hr hc
  have e3 : plN 5 ((3 : Nat) : Int) 1 ((1 : Nat) : Int) ((1 : Nat) : Int) = 3 := by decide
  obtain ⟨h0, h1, _⟩ := up_at (k := 1) (gr531.at hr) (by omega) hx hE
  rw [e3] at h0 h1
  refine ⟨h0, ?_, new_arr.fok gr531 hx h0⟩
  show (upL (Bch.new 3) [true, true, true] 5 ((3 : Nat) : Int) 1 3 x).length = 2
  rw [h1]
  have hk := (ksL_facts (k := 1) (gr531.at hr) (by omega)).2.2.1
  unfold upIts
  rw [List.length_map, List.filter_eq_self.2 fun i hi => hsv i (hk i hi)]
  rfl
set_option maxRecDepth 100000 in
set_option maxHeartbeats 1600000 in
theorem wakesUpd_any (hu : UpdP) (W : World) : Calls Tryz.prog 21 #[] W fun e w' => e = .returned (.bool true) ∧ Below W.heap.size W w' := by
  have hpn := ptr_eq
  have CN := Lib.hid (bp_new 3 W W (Below.refl _ _) (by omega))
  have CSc := Lib.hid (fun V => sector_any 4 V (by omega))
  have hx := sectorB_len 4
  generalize sectorB 4 = x at CSc hx
  obtain ⟨p0, p1, p2⟩ := wakes_plan hx
  have P1 := Lib.hid (show upS (Bch.new 3) [true, true, true] 5 3 1 3 x 1 = 1 from if_neg (by rw [p0]; decide))
  have CP := fun (W w : World) (b : Nat) (H : BH) (h : BP W w b H (Bch.new 3)) (LA : Option Addr) (hr : RdOX (BF b H 3) w LA [true, true, true]) (XA : Option Addr) (hxr : RdB w w.heap.size XA x) => hu.plan W w b H (Bch.new 3) h [true, true, true] LA 3 3 rfl hr 5 3 1 3 ⟨by omega, by omega⟩ ⟨by omega, by omega⟩ ⟨by omega, by omega⟩ ⟨by omega, by omega⟩ XA 32 32 x hx (Nat.le_refl _) hxr 1 ⟨by omega, by omega⟩ (fun _ => p2)
  rw [p0, P1.out, p1] at CP
  have CP := Lib.hid CP
  clear hu p0 p1 p2
  go_enter Tryz.func21, Tryz.ntmps21
  go_wp2_with fail
  refine CN.out.mono ?_
  rintro e w1 ⟨b, H, rfl, hp, _, _⟩
  unfold ptr
  have kk : KS W w1 b H (Bch.new 3) [] [] [] := ⟨⟨hp, fun _ h => absurd h (by simp)⟩, fun _ h => absurd h (by simp), fun _ h => absurd h (by simp)⟩
  have K1 := Lib.hid (kk.add (.cells ([true, true, true].map Value.bool).toArray 4))
  clear kk hp CN
  go_wp2_with fail
  (with_reducible refine (CSc.out _).mono ?_); rintro e w2 ⟨gx, rfl, ho, hb2⟩
  have k2 := K1.out.slice hb2 ho.rdbf
  have CP2 := Lib.hid (CP.out W w2 b H k2.bp (some ⟨w1.heap.size, 0, none⟩) (k2.lv (g := w1.heap.size) (t := 4) (f := (0, 0)) (lv := [true, true, true]) (by simp) rfl (by simp)) (some ⟨gx, 0, none⟩) ho.rdS.1)
  have F2 := k2.bp.bel
  clear k2 ho hb2 CP K1
  go_wp2_with fail
  (with_reducible refine CP2.out.mono ?_); rintro e w3 ⟨A3, c3, rfl, _, _, hb3⟩
  have F3 := F2.trans (hb3.mono F2.size)
  clear hb3 CP2 F2
  go_wp2_with fail
  go_ret
  exact ⟨rfl, F3.alloc F3.size _⟩
end Go.Proofs.YtenkkdnepmoihaaGreatDoor
end
