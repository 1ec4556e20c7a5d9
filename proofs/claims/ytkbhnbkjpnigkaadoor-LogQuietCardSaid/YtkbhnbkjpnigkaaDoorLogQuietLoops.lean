/- LogQuiet: its loops. -/
import Derived.Test.YtkbhnbkjpnigkaaDoorLogQuietMath
import Derived.Test.YtkbhnbkjpnigkaaDoorLcaa
import Derived.StillTail
import Derived.StillTailTactics
set_option linter.unusedVariables false
set_option linter.unusedSimpArgs false
namespace Go.Proofs.YtkbhnbkjpnigkaaDoor
open Go.RowKit

noncomputable def codeLQ : Code := Tryd.f4.body.getD .skip
set_option maxRecDepth 100000 in
set_option maxHeartbeats 3200000 in
theorem lqAb {w0 : World} {b p n c B : Nat} {s : Int} {A : Option Addr} {H : BH} {N : Bch} {j : Nat} {l : List It} {w : World} (u0 u1 u2 u3 u4 u5 u6 u7 u8 u10 u12 u13 u14 u15 u16 u17 u18 u19 u20 u21 u22 u23 u24 u25 u26 u27 u28 u29 u30 u31 u32 u33 u34 u35 u36 u37 u41 u42 u43 u44 u45 u46 u47 u48 u49 u50 u51 u52 u53 u54 u55 u56 u57 u58 u59 u60 u61 u62 u63 u64 u65 u66 u67 u68 u69 u70 u71 u72 u73 u74 u75 u76 u77 u78 u79 u80 u81 u82 u83 u84 u85 u86 u87 u88 u89 u90 u91 u92 u93 u94 u95 u96 u97 u98 u99 u100 u101 u102 u103 u104 u105 u106 u107 u108 u109 u110 u111 u112 u113 u114 u115 u116 u117 u118 u119 u120 u121 u122 u123 u124 u125 u126 u127 u128 u129 u130 u131 u132 u133 u134 u135 u136 u137 u138 u139 u140 u141 u142 u143 u144 u145 u146 u147 u148 u149 u150 u151 u152 u153 u154 u155 u156 u157 : Value) (K : Act → World → Prop) (Q0 : Exit → Act → World → Prop) (hoff : ∀ k, B ≤ k → ¬ BF b H N.n k) (hW : w0.heap.size ≤ B) (hp : ∀ g, A = some ⟨g, 0, none⟩ → g ≠ p) (hn : n ≤ 1000) (hI : (j ≤ n ∧ l.length = n ∧ KR w0 w b H N [(p, Obj.cells #[.int .i64 s, .slice A n c] 29 (0, 0))] [] (fun _ => False) ∧ OwIt 43 w B B (.slice A n c) l ∧ Its64 l ∧ ∀ k, k < j → 0 ≤ (itN l k).d ∧ (itN l k).d < 4))
    (hK : ∀ (v12 v41 v42 v43 v44 v45 v46 v47 v48 v49 v50 v51 v52 v53 v54 v55 : Value) (l2 : List It) (V : World), ((j + 1) ≤ n ∧ l2.length = n ∧ KR w0 V b H N [(p, Obj.cells #[.int .i64 s, .slice A n c] 29 (0, 0))] [] (fun _ => False) ∧ OwIt 43 V B B (.slice A n c) l2 ∧ Its64 l2 ∧ ∀ k, k < (j + 1) → 0 ≤ (itN l2 k).d ∧ (itN l2 k).d < 4) → n - (j + 1) < n - j → K ⟨List.toArray (u0 :: u1 :: u2 :: u3 :: u4 :: u5 :: u6 :: u7 :: u8 :: (.pointer (some ⟨b, 0, none⟩)) :: u10 :: (.pointer (some ⟨p, 0, none⟩)) :: v12 :: u13 :: u14 :: u15 :: u16 :: u17 :: u18 :: u19 :: u20 :: u21 :: u22 :: u23 :: u24 :: u25 :: u26 :: u27 :: u28 :: u29 :: u30 :: u31 :: u32 :: u33 :: u34 :: u35 :: u36 :: u37 :: (.slice A n c) :: (.int .i64 ((n : Nat) : Int)) :: (.int .i64 (((j + 1) : Nat) : Int)) :: v41 :: v42 :: v43 :: v44 :: v45 :: v46 :: v47 :: v48 :: v49 :: v50 :: v51 :: v52 :: v53 :: v54 :: v55 :: u56 :: u57 :: u58 :: u59 :: u60 :: u61 :: u62 :: u63 :: u64 :: u65 :: u66 :: u67 :: u68 :: u69 :: u70 :: u71 :: u72 :: u73 :: u74 :: u75 :: u76 :: u77 :: u78 :: u79 :: u80 :: u81 :: u82 :: u83 :: u84 :: u85 :: u86 :: u87 :: u88 :: u89 :: u90 :: u91 :: u92 :: u93 :: u94 :: u95 :: u96 :: u97 :: u98 :: u99 :: u100 :: u101 :: u102 :: u103 :: u104 :: u105 :: u106 :: u107 :: u108 :: u109 :: u110 :: u111 :: u112 :: u113 :: u114 :: u115 :: u116 :: u117 :: u118 :: u119 :: u120 :: u121 :: u122 :: u123 :: u124 :: u125 :: u126 :: u127 :: u128 :: u129 :: u130 :: u131 :: u132 :: u133 :: u134 :: u135 :: u136 :: u137 :: u138 :: u139 :: u140 :: u141 :: u142 :: u143 :: u144 :: u145 :: u146 :: u147 :: u148 :: u149 :: u150 :: u151 :: u152 :: u153 :: u154 :: u155 :: u156 :: u157 :: []), []⟩ V)
    (hX : ∀ (v12 v41 v42 v43 v44 v45 v46 v47 v48 v49 v50 v51 v52 v53 v54 v55 : Value), (j = n) → Q0 (.exit 0) ⟨List.toArray (u0 :: u1 :: u2 :: u3 :: u4 :: u5 :: u6 :: u7 :: u8 :: (.pointer (some ⟨b, 0, none⟩)) :: u10 :: (.pointer (some ⟨p, 0, none⟩)) :: v12 :: u13 :: u14 :: u15 :: u16 :: u17 :: u18 :: u19 :: u20 :: u21 :: u22 :: u23 :: u24 :: u25 :: u26 :: u27 :: u28 :: u29 :: u30 :: u31 :: u32 :: u33 :: u34 :: u35 :: u36 :: u37 :: (.slice A n c) :: (.int .i64 ((n : Nat) : Int)) :: (.int .i64 ((j : Nat) : Int)) :: v41 :: v42 :: v43 :: v44 :: v45 :: v46 :: v47 :: v48 :: v49 :: v50 :: v51 :: v52 :: v53 :: v54 :: v55 :: u56 :: u57 :: u58 :: u59 :: u60 :: u61 :: u62 :: u63 :: u64 :: u65 :: u66 :: u67 :: u68 :: u69 :: u70 :: u71 :: u72 :: u73 :: u74 :: u75 :: u76 :: u77 :: u78 :: u79 :: u80 :: u81 :: u82 :: u83 :: u84 :: u85 :: u86 :: u87 :: u88 :: u89 :: u90 :: u91 :: u92 :: u93 :: u94 :: u95 :: u96 :: u97 :: u98 :: u99 :: u100 :: u101 :: u102 :: u103 :: u104 :: u105 :: u106 :: u107 :: u108 :: u109 :: u110 :: u111 :: u112 :: u113 :: u114 :: u115 :: u116 :: u117 :: u118 :: u119 :: u120 :: u121 :: u122 :: u123 :: u124 :: u125 :: u126 :: u127 :: u128 :: u129 :: u130 :: u131 :: u132 :: u133 :: u134 :: u135 :: u136 :: u137 :: u138 :: u139 :: u140 :: u141 :: u142 :: u143 :: u144 :: u145 :: u146 :: u147 :: u148 :: u149 :: u150 :: u151 :: u152 :: u153 :: u154 :: u155 :: u156 :: u157 :: []), []⟩ w) :
    Code.wp Tryd.prog (sub [1, 1, 1, 1, 0, 1, 0, 0] codeLQ) (Exit.then K Q0) ⟨List.toArray (u0 :: u1 :: u2 :: u3 :: u4 :: u5 :: u6 :: u7 :: u8 :: (.pointer (some ⟨b, 0, none⟩)) :: u10 :: (.pointer (some ⟨p, 0, none⟩)) :: u12 :: u13 :: u14 :: u15 :: u16 :: u17 :: u18 :: u19 :: u20 :: u21 :: u22 :: u23 :: u24 :: u25 :: u26 :: u27 :: u28 :: u29 :: u30 :: u31 :: u32 :: u33 :: u34 :: u35 :: u36 :: u37 :: (.slice A n c) :: (.int .i64 ((n : Nat) : Int)) :: (.int .i64 ((j : Nat) : Int)) :: u41 :: u42 :: u43 :: u44 :: u45 :: u46 :: u47 :: u48 :: u49 :: u50 :: u51 :: u52 :: u53 :: u54 :: u55 :: u56 :: u57 :: u58 :: u59 :: u60 :: u61 :: u62 :: u63 :: u64 :: u65 :: u66 :: u67 :: u68 :: u69 :: u70 :: u71 :: u72 :: u73 :: u74 :: u75 :: u76 :: u77 :: u78 :: u79 :: u80 :: u81 :: u82 :: u83 :: u84 :: u85 :: u86 :: u87 :: u88 :: u89 :: u90 :: u91 :: u92 :: u93 :: u94 :: u95 :: u96 :: u97 :: u98 :: u99 :: u100 :: u101 :: u102 :: u103 :: u104 :: u105 :: u106 :: u107 :: u108 :: u109 :: u110 :: u111 :: u112 :: u113 :: u114 :: u115 :: u116 :: u117 :: u118 :: u119 :: u120 :: u121 :: u122 :: u123 :: u124 :: u125 :: u126 :: u127 :: u128 :: u129 :: u130 :: u131 :: u132 :: u133 :: u134 :: u135 :: u136 :: u137 :: u138 :: u139 :: u140 :: u141 :: u142 :: u143 :: u144 :: u145 :: u146 :: u147 :: u148 :: u149 :: u150 :: u151 :: u152 :: u153 :: u154 :: u155 :: u156 :: u157 :: []), []⟩ w := by
  have HK := Lib.hid hK
  have HX := Lib.hid hX
  clear hK hX
  conv => arg 2; whnf
  obtain ⟨hj, hl, hK, hO, h64, hd⟩ := hI
  by_cases hlt : j < n
  · have HK1 := Lib.hid hK
    have HO := Lib.hid hO
    have H64 := Lib.hid h64
    have HD := Lib.hid hd
    have Hl := Lib.hid hl
    have Hoff := Lib.hid hoff
    have Hp := Lib.hid hp
    obtain ⟨A5, c5, e5, hc5, hrd⟩ := hO.rd
    injection e5 with e5 e6 e7
    rw [← e5] at hrd
    clear e5 e6 e7
    obtain ⟨g, rfl, hg, _⟩ := hrd.2 (by omega)
    obtain ⟨D, cd, hrg, _, _⟩ := OwIt.cell hO hl j hlt
    obtain ⟨xs, hx1, _⟩ := (hO.below (Below.refl _ _).drew)
    rw [hl] at hx1
    have f0 := hx1.frozenAt (j * 3)
    have d64 := (h64 j (by omega)).d
    obtain ⟨y, hy⟩ : ∃ y, itN l j = y := ⟨_, rfl⟩
    have hgl : B ≤ g := (hO.lt g rfl).1
    have W4 := Lib.hid (fun V => within_any (itN l j).d 4 V d64 (by omega))
    have b4 := withinI_bd (itN l j).d 4 (by omega)
    have HS := Lib.hid (OwIt.setD (hO.below (Below.refl _ _).drew) hl j hlt (withinI (itN l j).d 4))
    have HI := Lib.hid (show Its64 (l.set j ⟨withinI (itN l j).d 4, (itN l j).a, (itN l j).b⟩) from its64_set h64 j _ ⟨by dsimp only; omega, (h64 j (by omega)).a⟩)
    have HDn := Lib.hid (show ∀ k, k < j + 1 → 0 ≤ (itN (l.set j ⟨withinI (itN l j).d 4, (itN l j).a, (itN l j).b⟩) k).d ∧ (itN (l.set j ⟨withinI (itN l j).d 4, (itN l j).a, (itN l j).b⟩) k).d < 4 from fun k hk => by
      by_cases e : k = j
      · subst e
        rw [show itN (l.set k ⟨withinI (itN l k).d 4, (itN l k).a, (itN l k).b⟩) k = ⟨withinI (itN l k).d 4, (itN l k).a, (itN l k).b⟩ from by simp [itN, List.getD_eq_getElem?_getD, show k < l.length by omega]]
        dsimp only; omega
      · rw [show itN (l.set j ⟨withinI (itN l j).d 4, (itN l j).a, (itN l j).b⟩) k = itN l k from by simp [itN, List.getD_eq_getElem?_getD, List.getElem?_set, Ne.symm e]]
        exact hd k (by omega))
    generalize l.set j ⟨withinI (itN l j).d 4, (itN l j).a, (itN l j).b⟩ = l2 at HS HI HDn
    have Hl2 : Hid (l2.length = n) := by
      obtain ⟨xs, h1, h2, _⟩ := HS.out.1
      obtain ⟨A', c', e', _, _⟩ := HS.out.1.rd
      injection e' with _ e' _
      exact Lib.hid e'.symm
    have c0 : w.drew.cell? ⟨g, j * 3, none⟩ = some (.int .i64 (itN l j).d) := hrg 0 _ rfl
    obtain ⟨_, c1⟩ := (hK.below (Below.refl _ _).drew).box2 (List.mem_cons_self ..)
    generalize withinI (itN l j).d 4 = z at W4 b4 HS
    generalize (itN l j).d = d0 at c0 W4 d64
    have k0 : (0 : Int) ≤ (j : Int) := by omega
    have k1 : (j : Int) < (n : Int) := by omega
    clear hK hO h64 hd hl HX hrd hrg hx1 hoff hp hy hc5 d64
    go_wp2_with fail
    refine wp_region_still_tail 12 (by kernel_rfl) (by kernel_rfl) ?_
    simp only [List.take_succ_cons, List.take_zero, List.drop_succ_cons, List.drop_zero]
    change wpStill _ _ w.drew _ _ _
    generalize hwd : w.drew = wd at c0 c1 f0 HS ⊢
    have Hwd := Lib.hid hwd
    clear hwd
    repeat (first | still_step | (still_call (W4.out _)))
    refine wpStill_nil ?_
    change wpList _ _ _ _ _ w.drew
    rw [Hwd.out]
    go_wp2_with fail
    refine HK.out _ _ _ _ _ _ _ _ _ _ _ _ _ _ _ _ l2 _ ⟨by omega, Hl2.out, ?_, HS.out.1, HI.out, HDn.out⟩ (by omega)
    have hz : KR w0 wd b H N [(p, Obj.cells #[.int .i64 s, .slice (some ⟨g, 0, none⟩) n c] 29 (0, 0))] [] (fun _ => False) := by rw [← Hwd.out]; exact HK1.out.below (Below.refl _ _).drew
    exact hz.far HS.out.2 (by omega) (Hoff.out g hgl) (fun q hq => by rw [List.mem_singleton.1 hq]; exact fun e => Hp.out g rfl e.symm)
  · have i1 : ¬ (j : Int) < (n : Int) := by omega
    have hde : j = n := by omega
    have Hde := Lib.hid hde
    clear HK hde hK hO h64 hd hl
    go_wp2_with fail
    exact HX.out _ _ _ _ _ _ _ _ _ _ _ _ _ _ _ _ Hde.out
set_option maxRecDepth 100000 in
set_option maxHeartbeats 3200000 in
theorem lqA {w0 : World} {b p n c B : Nat} {s : Int} {A : Option Addr} {H : BH} {N : Bch} {l0 : List It} {w : World} (u0 u1 u2 u3 u4 u5 u6 u7 u8 u10 u12 u13 u14 u15 u16 u17 u18 u19 u20 u21 u22 u23 u24 u25 u26 u27 u28 u29 u30 u31 u32 u33 u34 u35 u36 u37 u41 u42 u43 u44 u45 u46 u47 u48 u49 u50 u51 u52 u53 u54 u55 u56 u57 u58 u59 u60 u61 u62 u63 u64 u65 u66 u67 u68 u69 u70 u71 u72 u73 u74 u75 u76 u77 u78 u79 u80 u81 u82 u83 u84 u85 u86 u87 u88 u89 u90 u91 u92 u93 u94 u95 u96 u97 u98 u99 u100 u101 u102 u103 u104 u105 u106 u107 u108 u109 u110 u111 u112 u113 u114 u115 u116 u117 u118 u119 u120 u121 u122 u123 u124 u125 u126 u127 u128 u129 u130 u131 u132 u133 u134 u135 u136 u137 u138 u139 u140 u141 u142 u143 u144 u145 u146 u147 u148 u149 u150 u151 u152 u153 u154 u155 u156 u157 : Value) (Q : Exit → Act → World → Prop) (hoff : ∀ k, B ≤ k → ¬ BF b H N.n k) (hW : w0.heap.size ≤ B) (hp : ∀ g, A = some ⟨g, 0, none⟩ → g ≠ p) (hn : n ≤ 1000) (hI : (0 ≤ n ∧ l0.length = n ∧ KR w0 w b H N [(p, Obj.cells #[.int .i64 s, .slice A n c] 29 (0, 0))] [] (fun _ => False) ∧ OwIt 43 w B B (.slice A n c) l0 ∧ Its64 l0 ∧ ∀ k, k < 0 → 0 ≤ (itN l0 k).d ∧ (itN l0 k).d < 4))
    (hX : ∀ (v12 v41 v42 v43 v44 v45 v46 v47 v48 v49 v50 v51 v52 v53 v54 v55 : Value) (j : Nat) (l : List It) (V : World), (j ≤ n ∧ l.length = n ∧ KR w0 V b H N [(p, Obj.cells #[.int .i64 s, .slice A n c] 29 (0, 0))] [] (fun _ => False) ∧ OwIt 43 V B B (.slice A n c) l ∧ Its64 l ∧ ∀ k, k < j → 0 ≤ (itN l k).d ∧ (itN l k).d < 4) → (j = n) → Q (.exit 0) ⟨List.toArray (u0 :: u1 :: u2 :: u3 :: u4 :: u5 :: u6 :: u7 :: u8 :: (.pointer (some ⟨b, 0, none⟩)) :: u10 :: (.pointer (some ⟨p, 0, none⟩)) :: v12 :: u13 :: u14 :: u15 :: u16 :: u17 :: u18 :: u19 :: u20 :: u21 :: u22 :: u23 :: u24 :: u25 :: u26 :: u27 :: u28 :: u29 :: u30 :: u31 :: u32 :: u33 :: u34 :: u35 :: u36 :: u37 :: (.slice A n c) :: (.int .i64 ((n : Nat) : Int)) :: (.int .i64 ((j : Nat) : Int)) :: v41 :: v42 :: v43 :: v44 :: v45 :: v46 :: v47 :: v48 :: v49 :: v50 :: v51 :: v52 :: v53 :: v54 :: v55 :: u56 :: u57 :: u58 :: u59 :: u60 :: u61 :: u62 :: u63 :: u64 :: u65 :: u66 :: u67 :: u68 :: u69 :: u70 :: u71 :: u72 :: u73 :: u74 :: u75 :: u76 :: u77 :: u78 :: u79 :: u80 :: u81 :: u82 :: u83 :: u84 :: u85 :: u86 :: u87 :: u88 :: u89 :: u90 :: u91 :: u92 :: u93 :: u94 :: u95 :: u96 :: u97 :: u98 :: u99 :: u100 :: u101 :: u102 :: u103 :: u104 :: u105 :: u106 :: u107 :: u108 :: u109 :: u110 :: u111 :: u112 :: u113 :: u114 :: u115 :: u116 :: u117 :: u118 :: u119 :: u120 :: u121 :: u122 :: u123 :: u124 :: u125 :: u126 :: u127 :: u128 :: u129 :: u130 :: u131 :: u132 :: u133 :: u134 :: u135 :: u136 :: u137 :: u138 :: u139 :: u140 :: u141 :: u142 :: u143 :: u144 :: u145 :: u146 :: u147 :: u148 :: u149 :: u150 :: u151 :: u152 :: u153 :: u154 :: u155 :: u156 :: u157 :: []), []⟩ V) :
    Code.wp Tryd.prog (.loop (sub [1, 1, 1, 1, 0, 1, 0, 0] codeLQ)) Q ⟨List.toArray (u0 :: u1 :: u2 :: u3 :: u4 :: u5 :: u6 :: u7 :: u8 :: (.pointer (some ⟨b, 0, none⟩)) :: u10 :: (.pointer (some ⟨p, 0, none⟩)) :: u12 :: u13 :: u14 :: u15 :: u16 :: u17 :: u18 :: u19 :: u20 :: u21 :: u22 :: u23 :: u24 :: u25 :: u26 :: u27 :: u28 :: u29 :: u30 :: u31 :: u32 :: u33 :: u34 :: u35 :: u36 :: u37 :: (.slice A n c) :: (.int .i64 ((n : Nat) : Int)) :: (.int .i64 ((0 : Nat) : Int)) :: u41 :: u42 :: u43 :: u44 :: u45 :: u46 :: u47 :: u48 :: u49 :: u50 :: u51 :: u52 :: u53 :: u54 :: u55 :: u56 :: u57 :: u58 :: u59 :: u60 :: u61 :: u62 :: u63 :: u64 :: u65 :: u66 :: u67 :: u68 :: u69 :: u70 :: u71 :: u72 :: u73 :: u74 :: u75 :: u76 :: u77 :: u78 :: u79 :: u80 :: u81 :: u82 :: u83 :: u84 :: u85 :: u86 :: u87 :: u88 :: u89 :: u90 :: u91 :: u92 :: u93 :: u94 :: u95 :: u96 :: u97 :: u98 :: u99 :: u100 :: u101 :: u102 :: u103 :: u104 :: u105 :: u106 :: u107 :: u108 :: u109 :: u110 :: u111 :: u112 :: u113 :: u114 :: u115 :: u116 :: u117 :: u118 :: u119 :: u120 :: u121 :: u122 :: u123 :: u124 :: u125 :: u126 :: u127 :: u128 :: u129 :: u130 :: u131 :: u132 :: u133 :: u134 :: u135 :: u136 :: u137 :: u138 :: u139 :: u140 :: u141 :: u142 :: u143 :: u144 :: u145 :: u146 :: u147 :: u148 :: u149 :: u150 :: u151 :: u152 :: u153 :: u154 :: u155 :: u156 :: u157 :: []), []⟩ w := by
  refine wp_loop_ghost (fun gk a V => ∀ C : Prop, (∀ (u12 u41 u42 u43 u44 u45 u46 u47 u48 u49 u50 u51 u52 u53 u54 u55 : Value) (j : Nat) (l : List It), gk = n - j → (j ≤ n ∧ l.length = n ∧ KR w0 V b H N [(p, Obj.cells #[.int .i64 s, .slice A n c] 29 (0, 0))] [] (fun _ => False) ∧ OwIt 43 V B B (.slice A n c) l ∧ Its64 l ∧ ∀ k, k < j → 0 ≤ (itN l k).d ∧ (itN l k).d < 4) → a = ⟨List.toArray (u0 :: u1 :: u2 :: u3 :: u4 :: u5 :: u6 :: u7 :: u8 :: (.pointer (some ⟨b, 0, none⟩)) :: u10 :: (.pointer (some ⟨p, 0, none⟩)) :: u12 :: u13 :: u14 :: u15 :: u16 :: u17 :: u18 :: u19 :: u20 :: u21 :: u22 :: u23 :: u24 :: u25 :: u26 :: u27 :: u28 :: u29 :: u30 :: u31 :: u32 :: u33 :: u34 :: u35 :: u36 :: u37 :: (.slice A n c) :: (.int .i64 ((n : Nat) : Int)) :: (.int .i64 ((j : Nat) : Int)) :: u41 :: u42 :: u43 :: u44 :: u45 :: u46 :: u47 :: u48 :: u49 :: u50 :: u51 :: u52 :: u53 :: u54 :: u55 :: u56 :: u57 :: u58 :: u59 :: u60 :: u61 :: u62 :: u63 :: u64 :: u65 :: u66 :: u67 :: u68 :: u69 :: u70 :: u71 :: u72 :: u73 :: u74 :: u75 :: u76 :: u77 :: u78 :: u79 :: u80 :: u81 :: u82 :: u83 :: u84 :: u85 :: u86 :: u87 :: u88 :: u89 :: u90 :: u91 :: u92 :: u93 :: u94 :: u95 :: u96 :: u97 :: u98 :: u99 :: u100 :: u101 :: u102 :: u103 :: u104 :: u105 :: u106 :: u107 :: u108 :: u109 :: u110 :: u111 :: u112 :: u113 :: u114 :: u115 :: u116 :: u117 :: u118 :: u119 :: u120 :: u121 :: u122 :: u123 :: u124 :: u125 :: u126 :: u127 :: u128 :: u129 :: u130 :: u131 :: u132 :: u133 :: u134 :: u135 :: u136 :: u137 :: u138 :: u139 :: u140 :: u141 :: u142 :: u143 :: u144 :: u145 :: u146 :: u147 :: u148 :: u149 :: u150 :: u151 :: u152 :: u153 :: u154 :: u155 :: u156 :: u157 :: []), []⟩ → C) → C) (n - 0) ?_ ?_
  · intro C hC
    exact hC _ _ _ _ _ _ _ _ _ _ _ _ _ _ _ _ (0) (l0) rfl hI rfl
  · intro gk a V hI'
    refine hI' _ ?_
    intro u12 u41 u42 u43 u44 u45 u46 u47 u48 u49 u50 u51 u52 u53 u54 u55 j l hk hinv ha
    subst ha
    subst hk
    refine lqAb _ _ _ _ _ _ _ _ _ _ _ _ _ _ _ _ _ _ _ _ _ _ _ _ _ _ _ _ _ _ _ _ _ _ _ _ _ _ _ _ _ _ _ _ _ _ _ _ _ _ _ _ _ _ _ _ _ _ _ _ _ _ _ _ _ _ _ _ _ _ _ _ _ _ _ _ _ _ _ _ _ _ _ _ _ _ _ _ _ _ _ _ _ _ _ _ _ _ _ _ _ _ _ _ _ _ _ _ _ _ _ _ _ _ _ _ _ _ _ _ _ _ _ _ _ _ _ _ _ _ _ _ _ _ _ _ _ _ _ _ _ _ _ _ _ _ _ _ _ _ _ _ _ _ _ hoff hW hp hn hinv (fun v12 v41 v42 v43 v44 v45 v46 v47 v48 v49 v50 v51 v52 v53 v54 v55 l2 V2 h2 hm => ?_) (fun v12 v41 v42 v43 v44 v45 v46 v47 v48 v49 v50 v51 v52 v53 v54 v55 hx => hX v12 v41 v42 v43 v44 v45 v46 v47 v48 v49 v50 v51 v52 v53 v54 v55 j l V hinv hx)
    refine ⟨_, hm, fun C hC => ?_⟩
    exact hC v12 v41 v42 v43 v44 v45 v46 v47 v48 v49 v50 v51 v52 v53 v54 v55 ((j + 1)) (l2) rfl h2 rfl
set_option maxRecDepth 100000 in
set_option maxHeartbeats 3200000 in
theorem lqBb {w0 : World} {b bc : Nat} {bA : Option Addr} {back : List Int} {K0 : List (Nat × Obj)} {R0 : List (Option Addr × List It)} {i : Nat} {H : BH} {N : Bch} {w : World} (u0 u1 u2 u4 u5 u6 u7 u8 u10 u11 u12 u14 u15 u16 u17 u18 u19 u20 u21 u22 u23 u24 u25 u26 u27 u28 u29 u30 u31 u32 u33 u34 u35 u36 u37 u38 u39 u40 u41 u42 u43 u44 u45 u46 u47 u48 u49 u50 u51 u52 u53 u54 u55 u56 u57 u58 u59 u60 u61 u62 u63 u64 u65 u66 u67 u68 u69 u70 u71 u72 u73 u74 u75 u76 u77 u78 u79 u80 u81 u82 u83 u84 u85 u86 u87 u88 u89 u90 u91 u92 u93 u94 u95 u96 u97 u98 u99 u100 u101 u102 u103 u104 u105 u106 u107 u108 u109 u110 u111 u112 u113 u114 u115 u116 u117 u118 u119 u120 u121 u122 u123 u124 u125 u126 u127 u128 u129 u130 u131 u132 u133 u134 u135 u136 u137 u138 u139 u140 u141 u142 u143 u144 u145 u146 u147 u148 u149 u150 u151 u152 u153 u154 u155 u156 u157 : Value) (K : Act → World → Prop) (Q0 : Exit → Act → World → Prop) (hb : RdZ w0 w0.heap.size bA back) (hI : (i ≤ 64 ∧ KR w0 w b H N K0 R0 (fun _ => False) ∧ DmG N back i))
    (hK : ∀ (v14 v60 v61 v62 v63 v64 v65 v66 v67 v68 v69 v70 v71 v72 v73 v74 v75 v76 v77 v78 v79 v80 v81 : Value) (H2 : BH) (N2 : Bch) (V : World), ((i + 1) ≤ 64 ∧ KR w0 V b H2 N2 K0 R0 (fun _ => False) ∧ DmG N2 back (i + 1)) → 64 - (i + 1) < 64 - i → K ⟨List.toArray (u0 :: u1 :: u2 :: (.slice bA back.length bc) :: u4 :: u5 :: u6 :: u7 :: u8 :: (.pointer (some ⟨b, 0, none⟩)) :: u10 :: u11 :: u12 :: (.int .i64 (((i + 1) : Nat) : Int)) :: v14 :: u15 :: u16 :: u17 :: u18 :: u19 :: u20 :: u21 :: u22 :: u23 :: u24 :: u25 :: u26 :: u27 :: u28 :: u29 :: u30 :: u31 :: u32 :: u33 :: u34 :: u35 :: u36 :: u37 :: u38 :: u39 :: u40 :: u41 :: u42 :: u43 :: u44 :: u45 :: u46 :: u47 :: u48 :: u49 :: u50 :: u51 :: u52 :: u53 :: u54 :: u55 :: u56 :: u57 :: u58 :: u59 :: v60 :: v61 :: v62 :: v63 :: v64 :: v65 :: v66 :: v67 :: v68 :: v69 :: v70 :: v71 :: v72 :: v73 :: v74 :: v75 :: v76 :: v77 :: v78 :: v79 :: v80 :: v81 :: u82 :: u83 :: u84 :: u85 :: u86 :: u87 :: u88 :: u89 :: u90 :: u91 :: u92 :: u93 :: u94 :: u95 :: u96 :: u97 :: u98 :: u99 :: u100 :: u101 :: u102 :: u103 :: u104 :: u105 :: u106 :: u107 :: u108 :: u109 :: u110 :: u111 :: u112 :: u113 :: u114 :: u115 :: u116 :: u117 :: u118 :: u119 :: u120 :: u121 :: u122 :: u123 :: u124 :: u125 :: u126 :: u127 :: u128 :: u129 :: u130 :: u131 :: u132 :: u133 :: u134 :: u135 :: u136 :: u137 :: u138 :: u139 :: u140 :: u141 :: u142 :: u143 :: u144 :: u145 :: u146 :: u147 :: u148 :: u149 :: u150 :: u151 :: u152 :: u153 :: u154 :: u155 :: u156 :: u157 :: []), []⟩ V)
    (hX : ∀ (v14 v60 v61 v62 v63 v64 v65 v66 v67 v68 v69 v70 v71 v72 v73 v74 v75 v76 v77 v78 v79 v80 v81 : Value), (i = 64) → Q0 (.exit 2) ⟨List.toArray (u0 :: u1 :: u2 :: (.slice bA back.length bc) :: u4 :: u5 :: u6 :: u7 :: u8 :: (.pointer (some ⟨b, 0, none⟩)) :: u10 :: u11 :: u12 :: (.int .i64 ((i : Nat) : Int)) :: v14 :: u15 :: u16 :: u17 :: u18 :: u19 :: u20 :: u21 :: u22 :: u23 :: u24 :: u25 :: u26 :: u27 :: u28 :: u29 :: u30 :: u31 :: u32 :: u33 :: u34 :: u35 :: u36 :: u37 :: u38 :: u39 :: u40 :: u41 :: u42 :: u43 :: u44 :: u45 :: u46 :: u47 :: u48 :: u49 :: u50 :: u51 :: u52 :: u53 :: u54 :: u55 :: u56 :: u57 :: u58 :: u59 :: v60 :: v61 :: v62 :: v63 :: v64 :: v65 :: v66 :: v67 :: v68 :: v69 :: v70 :: v71 :: v72 :: v73 :: v74 :: v75 :: v76 :: v77 :: v78 :: v79 :: v80 :: v81 :: u82 :: u83 :: u84 :: u85 :: u86 :: u87 :: u88 :: u89 :: u90 :: u91 :: u92 :: u93 :: u94 :: u95 :: u96 :: u97 :: u98 :: u99 :: u100 :: u101 :: u102 :: u103 :: u104 :: u105 :: u106 :: u107 :: u108 :: u109 :: u110 :: u111 :: u112 :: u113 :: u114 :: u115 :: u116 :: u117 :: u118 :: u119 :: u120 :: u121 :: u122 :: u123 :: u124 :: u125 :: u126 :: u127 :: u128 :: u129 :: u130 :: u131 :: u132 :: u133 :: u134 :: u135 :: u136 :: u137 :: u138 :: u139 :: u140 :: u141 :: u142 :: u143 :: u144 :: u145 :: u146 :: u147 :: u148 :: u149 :: u150 :: u151 :: u152 :: u153 :: u154 :: u155 :: u156 :: u157 :: []), []⟩ w) :
    Code.wp Tryd.prog (sub [1, 1, 1, 1, 1, 1, 0, 1, 0, 0] codeLQ) (Exit.then K Q0) ⟨List.toArray (u0 :: u1 :: u2 :: (.slice bA back.length bc) :: u4 :: u5 :: u6 :: u7 :: u8 :: (.pointer (some ⟨b, 0, none⟩)) :: u10 :: u11 :: u12 :: (.int .i64 ((i : Nat) : Int)) :: u14 :: u15 :: u16 :: u17 :: u18 :: u19 :: u20 :: u21 :: u22 :: u23 :: u24 :: u25 :: u26 :: u27 :: u28 :: u29 :: u30 :: u31 :: u32 :: u33 :: u34 :: u35 :: u36 :: u37 :: u38 :: u39 :: u40 :: u41 :: u42 :: u43 :: u44 :: u45 :: u46 :: u47 :: u48 :: u49 :: u50 :: u51 :: u52 :: u53 :: u54 :: u55 :: u56 :: u57 :: u58 :: u59 :: u60 :: u61 :: u62 :: u63 :: u64 :: u65 :: u66 :: u67 :: u68 :: u69 :: u70 :: u71 :: u72 :: u73 :: u74 :: u75 :: u76 :: u77 :: u78 :: u79 :: u80 :: u81 :: u82 :: u83 :: u84 :: u85 :: u86 :: u87 :: u88 :: u89 :: u90 :: u91 :: u92 :: u93 :: u94 :: u95 :: u96 :: u97 :: u98 :: u99 :: u100 :: u101 :: u102 :: u103 :: u104 :: u105 :: u106 :: u107 :: u108 :: u109 :: u110 :: u111 :: u112 :: u113 :: u114 :: u115 :: u116 :: u117 :: u118 :: u119 :: u120 :: u121 :: u122 :: u123 :: u124 :: u125 :: u126 :: u127 :: u128 :: u129 :: u130 :: u131 :: u132 :: u133 :: u134 :: u135 :: u136 :: u137 :: u138 :: u139 :: u140 :: u141 :: u142 :: u143 :: u144 :: u145 :: u146 :: u147 :: u148 :: u149 :: u150 :: u151 :: u152 :: u153 :: u154 :: u155 :: u156 :: u157 :: []), []⟩ w := by
  have HK := Lib.hid hK
  have HX := Lib.hid hX
  clear hK hX
  conv => arg 2; whnf
  obtain ⟨hi, hK, hG⟩ := hI
  by_cases hlt : i < 64
  · have HK1 := Lib.hid hK
    have HG := Lib.hid hG
    have Hb := Lib.hid (hb.keep (w' := w) hK.kx.bp.bel.size fun p hp => hK.kx.bp.bel.cell hp)
    have HSt := Lib.hid (dm_step hG hlt)
    have k0 : (0 : Int) ≤ (i : Int) := by omega
    have k1 : (i : Int) < 64 := by omega
    have hd4 : i % 4 < 4 := Nat.mod_lt _ (by omega)
    have he16 : i / 4 < 16 := by omega
    have t1 : (i : Int).tmod 4 = ((i % 4 : Nat) : Int) := by rw [Int.tmod_eq_emod_of_nonneg (by omega)]; omega
    have t2 : (i : Int).tdiv 4 = ((i / 4 : Nat) : Int) := by rw [Int.tdiv_eq_ediv_of_nonneg (by omega)]; omega
    have t3 : IntKind.i64.wrap ((i / 4 : Nat) : Int) = ((i / 4 : Nat) : Int) := by rw [IntKind.wrap_i64]; omega
    have t4 : IntKind.i64.wrap (36 + ((i / 4 : Nat) : Int)) = ((36 + i / 4 : Nat) : Int) := by rw [IntKind.wrap_i64]; omega
    have t5 : IntKind.i64.wrap ((i % 4 : Nat) : Int) = ((i % 4 : Nat) : Int) := by rw [IntKind.wrap_i64]; omega
    have t6 : IntKind.i64.wrap ((i : Int) + 1) = ((i + 1 : Nat) : Int) := by rw [IntKind.wrap_i64]; omega
    obtain ⟨d, hd⟩ : ∃ d, i % 4 = d := ⟨_, rfl⟩
    obtain ⟨e, he⟩ : ∃ e, i / 4 = e := ⟨_, rfl⟩
    rw [hd] at HSt t1 t5 hd4
    rw [he] at HSt t2 t3 t4 he16
    clear hK hG hb HX hd he
    by_cases hib : i < back.length
    · have Hn := Lib.hid (nOf_in hib)
      rw [Hn.out] at HSt
      obtain ⟨bz, oz, rfl, hbz, hcz⟩ := Hb.out.2.2 (by omega)
      have hcl := hcz i hib
      have z64 := Hb.out.bd i
      have k2 : (i : Int) < (back.length : Int) := by omega
      clear hcz
      generalize back.getD i 0 = z at hcl z64 HSt
      clear Hn Hb
      have CS := Lib.hid (fun V => sector_any z V z64)
      go_wp2_with (go_at_call 18; (with_reducible refine (CS.out _).mono ?_); rintro e w1 ⟨g1, rfl, ho1, hb1⟩)
      have K1 := Lib.hid (HK1.out.below hb1)
      have R1 := Lib.hid ho1.rdS.1
      clear ho1 hb1
      refine (kr_damage K1.out ((d : Nat) : Int) ((36 + e : Nat) : Int) (sectorB z) (some ⟨g1, 0, none⟩) 32 32 (sectorB_len _).symm ⟨by omega, by omega⟩ ⟨by omega, by omega⟩ R1.out HG.out.good).mono ?_
      rintro e w2 ⟨rfl, H2, k2⟩
      have K2 := Lib.hid k2
      clear k2
      go_wp2_with fail
      exact HK.out _ _ _ _ _ _ _ _ _ _ _ _ _ _ _ _ _ _ _ _ _ _ _ H2 _ _ ⟨by omega, K2.out, HSt.out⟩ (by omega)
    · have k2 : ¬ (i : Int) < (back.length : Int) := by omega
      rw [nOf_out hib] at HSt
      clear Hb
      have CS := Lib.hid (fun V => sector_any (i : Int) V (by omega))
      go_wp2_with (go_at_call 18; (with_reducible refine (CS.out _).mono ?_); rintro e w1 ⟨g1, rfl, ho1, hb1⟩)
      have K1 := Lib.hid (HK1.out.below hb1)
      have R1 := Lib.hid ho1.rdS.1
      clear ho1 hb1
      refine (kr_damage K1.out ((d : Nat) : Int) ((36 + e : Nat) : Int) (sectorB (i : Int)) (some ⟨g1, 0, none⟩) 32 32 (sectorB_len _).symm ⟨by omega, by omega⟩ ⟨by omega, by omega⟩ R1.out HG.out.good).mono ?_
      rintro e w2 ⟨rfl, H2, k2⟩
      have K2 := Lib.hid k2
      clear k2
      go_wp2_with fail
      exact HK.out _ _ _ _ _ _ _ _ _ _ _ _ _ _ _ _ _ _ _ _ _ _ _ H2 _ _ ⟨by omega, K2.out, HSt.out⟩ (by omega)
  · have i1 : ¬ (i : Int) < 64 := by omega
    have hde : i = 64 := by omega
    have Hde := Lib.hid hde
    clear HK hde hK hG
    go_wp2_with fail
    exact HX.out _ _ _ _ _ _ _ _ _ _ _ _ _ _ _ _ _ _ _ _ _ _ _ Hde.out
set_option maxRecDepth 100000 in
set_option maxHeartbeats 3200000 in
theorem lqB {w0 : World} {b bc : Nat} {bA : Option Addr} {back : List Int} {K0 : List (Nat × Obj)} {R0 : List (Option Addr × List It)} {H0 : BH} {N0 : Bch} {w : World} (u0 u1 u2 u4 u5 u6 u7 u8 u10 u11 u12 u14 u15 u16 u17 u18 u19 u20 u21 u22 u23 u24 u25 u26 u27 u28 u29 u30 u31 u32 u33 u34 u35 u36 u37 u38 u39 u40 u41 u42 u43 u44 u45 u46 u47 u48 u49 u50 u51 u52 u53 u54 u55 u56 u57 u58 u59 u60 u61 u62 u63 u64 u65 u66 u67 u68 u69 u70 u71 u72 u73 u74 u75 u76 u77 u78 u79 u80 u81 u82 u83 u84 u85 u86 u87 u88 u89 u90 u91 u92 u93 u94 u95 u96 u97 u98 u99 u100 u101 u102 u103 u104 u105 u106 u107 u108 u109 u110 u111 u112 u113 u114 u115 u116 u117 u118 u119 u120 u121 u122 u123 u124 u125 u126 u127 u128 u129 u130 u131 u132 u133 u134 u135 u136 u137 u138 u139 u140 u141 u142 u143 u144 u145 u146 u147 u148 u149 u150 u151 u152 u153 u154 u155 u156 u157 : Value) (Q : Exit → Act → World → Prop) (hb : RdZ w0 w0.heap.size bA back) (hI : (0 ≤ 64 ∧ KR w0 w b H0 N0 K0 R0 (fun _ => False) ∧ DmG N0 back 0))
    (hX : ∀ (v14 v60 v61 v62 v63 v64 v65 v66 v67 v68 v69 v70 v71 v72 v73 v74 v75 v76 v77 v78 v79 v80 v81 : Value) (i : Nat) (H : BH) (N : Bch) (V : World), (i ≤ 64 ∧ KR w0 V b H N K0 R0 (fun _ => False) ∧ DmG N back i) → (i = 64) → Q (.exit 2) ⟨List.toArray (u0 :: u1 :: u2 :: (.slice bA back.length bc) :: u4 :: u5 :: u6 :: u7 :: u8 :: (.pointer (some ⟨b, 0, none⟩)) :: u10 :: u11 :: u12 :: (.int .i64 ((i : Nat) : Int)) :: v14 :: u15 :: u16 :: u17 :: u18 :: u19 :: u20 :: u21 :: u22 :: u23 :: u24 :: u25 :: u26 :: u27 :: u28 :: u29 :: u30 :: u31 :: u32 :: u33 :: u34 :: u35 :: u36 :: u37 :: u38 :: u39 :: u40 :: u41 :: u42 :: u43 :: u44 :: u45 :: u46 :: u47 :: u48 :: u49 :: u50 :: u51 :: u52 :: u53 :: u54 :: u55 :: u56 :: u57 :: u58 :: u59 :: v60 :: v61 :: v62 :: v63 :: v64 :: v65 :: v66 :: v67 :: v68 :: v69 :: v70 :: v71 :: v72 :: v73 :: v74 :: v75 :: v76 :: v77 :: v78 :: v79 :: v80 :: v81 :: u82 :: u83 :: u84 :: u85 :: u86 :: u87 :: u88 :: u89 :: u90 :: u91 :: u92 :: u93 :: u94 :: u95 :: u96 :: u97 :: u98 :: u99 :: u100 :: u101 :: u102 :: u103 :: u104 :: u105 :: u106 :: u107 :: u108 :: u109 :: u110 :: u111 :: u112 :: u113 :: u114 :: u115 :: u116 :: u117 :: u118 :: u119 :: u120 :: u121 :: u122 :: u123 :: u124 :: u125 :: u126 :: u127 :: u128 :: u129 :: u130 :: u131 :: u132 :: u133 :: u134 :: u135 :: u136 :: u137 :: u138 :: u139 :: u140 :: u141 :: u142 :: u143 :: u144 :: u145 :: u146 :: u147 :: u148 :: u149 :: u150 :: u151 :: u152 :: u153 :: u154 :: u155 :: u156 :: u157 :: []), []⟩ V) :
    Code.wp Tryd.prog (.loop (sub [1, 1, 1, 1, 1, 1, 0, 1, 0, 0] codeLQ)) Q ⟨List.toArray (u0 :: u1 :: u2 :: (.slice bA back.length bc) :: u4 :: u5 :: u6 :: u7 :: u8 :: (.pointer (some ⟨b, 0, none⟩)) :: u10 :: u11 :: u12 :: (.int .i64 ((0 : Nat) : Int)) :: u14 :: u15 :: u16 :: u17 :: u18 :: u19 :: u20 :: u21 :: u22 :: u23 :: u24 :: u25 :: u26 :: u27 :: u28 :: u29 :: u30 :: u31 :: u32 :: u33 :: u34 :: u35 :: u36 :: u37 :: u38 :: u39 :: u40 :: u41 :: u42 :: u43 :: u44 :: u45 :: u46 :: u47 :: u48 :: u49 :: u50 :: u51 :: u52 :: u53 :: u54 :: u55 :: u56 :: u57 :: u58 :: u59 :: u60 :: u61 :: u62 :: u63 :: u64 :: u65 :: u66 :: u67 :: u68 :: u69 :: u70 :: u71 :: u72 :: u73 :: u74 :: u75 :: u76 :: u77 :: u78 :: u79 :: u80 :: u81 :: u82 :: u83 :: u84 :: u85 :: u86 :: u87 :: u88 :: u89 :: u90 :: u91 :: u92 :: u93 :: u94 :: u95 :: u96 :: u97 :: u98 :: u99 :: u100 :: u101 :: u102 :: u103 :: u104 :: u105 :: u106 :: u107 :: u108 :: u109 :: u110 :: u111 :: u112 :: u113 :: u114 :: u115 :: u116 :: u117 :: u118 :: u119 :: u120 :: u121 :: u122 :: u123 :: u124 :: u125 :: u126 :: u127 :: u128 :: u129 :: u130 :: u131 :: u132 :: u133 :: u134 :: u135 :: u136 :: u137 :: u138 :: u139 :: u140 :: u141 :: u142 :: u143 :: u144 :: u145 :: u146 :: u147 :: u148 :: u149 :: u150 :: u151 :: u152 :: u153 :: u154 :: u155 :: u156 :: u157 :: []), []⟩ w := by
  refine wp_loop_ghost (fun gk a V => ∀ C : Prop, (∀ (u14 u60 u61 u62 u63 u64 u65 u66 u67 u68 u69 u70 u71 u72 u73 u74 u75 u76 u77 u78 u79 u80 u81 : Value) (i : Nat) (H : BH) (N : Bch), gk = 64 - i → (i ≤ 64 ∧ KR w0 V b H N K0 R0 (fun _ => False) ∧ DmG N back i) → a = ⟨List.toArray (u0 :: u1 :: u2 :: (.slice bA back.length bc) :: u4 :: u5 :: u6 :: u7 :: u8 :: (.pointer (some ⟨b, 0, none⟩)) :: u10 :: u11 :: u12 :: (.int .i64 ((i : Nat) : Int)) :: u14 :: u15 :: u16 :: u17 :: u18 :: u19 :: u20 :: u21 :: u22 :: u23 :: u24 :: u25 :: u26 :: u27 :: u28 :: u29 :: u30 :: u31 :: u32 :: u33 :: u34 :: u35 :: u36 :: u37 :: u38 :: u39 :: u40 :: u41 :: u42 :: u43 :: u44 :: u45 :: u46 :: u47 :: u48 :: u49 :: u50 :: u51 :: u52 :: u53 :: u54 :: u55 :: u56 :: u57 :: u58 :: u59 :: u60 :: u61 :: u62 :: u63 :: u64 :: u65 :: u66 :: u67 :: u68 :: u69 :: u70 :: u71 :: u72 :: u73 :: u74 :: u75 :: u76 :: u77 :: u78 :: u79 :: u80 :: u81 :: u82 :: u83 :: u84 :: u85 :: u86 :: u87 :: u88 :: u89 :: u90 :: u91 :: u92 :: u93 :: u94 :: u95 :: u96 :: u97 :: u98 :: u99 :: u100 :: u101 :: u102 :: u103 :: u104 :: u105 :: u106 :: u107 :: u108 :: u109 :: u110 :: u111 :: u112 :: u113 :: u114 :: u115 :: u116 :: u117 :: u118 :: u119 :: u120 :: u121 :: u122 :: u123 :: u124 :: u125 :: u126 :: u127 :: u128 :: u129 :: u130 :: u131 :: u132 :: u133 :: u134 :: u135 :: u136 :: u137 :: u138 :: u139 :: u140 :: u141 :: u142 :: u143 :: u144 :: u145 :: u146 :: u147 :: u148 :: u149 :: u150 :: u151 :: u152 :: u153 :: u154 :: u155 :: u156 :: u157 :: []), []⟩ → C) → C) (64 - 0) ?_ ?_
  · intro C hC
    exact hC _ _ _ _ _ _ _ _ _ _ _ _ _ _ _ _ _ _ _ _ _ _ _ (0) (H0) (N0) rfl hI rfl
  · intro gk a V hI'
    refine hI' _ ?_
    intro u14 u60 u61 u62 u63 u64 u65 u66 u67 u68 u69 u70 u71 u72 u73 u74 u75 u76 u77 u78 u79 u80 u81 i H N hk hinv ha
    subst ha
    subst hk
    refine lqBb _ _ _ _ _ _ _ _ _ _ _ _ _ _ _ _ _ _ _ _ _ _ _ _ _ _ _ _ _ _ _ _ _ _ _ _ _ _ _ _ _ _ _ _ _ _ _ _ _ _ _ _ _ _ _ _ _ _ _ _ _ _ _ _ _ _ _ _ _ _ _ _ _ _ _ _ _ _ _ _ _ _ _ _ _ _ _ _ _ _ _ _ _ _ _ _ _ _ _ _ _ _ _ _ _ _ _ _ _ _ _ _ _ _ _ _ _ _ _ _ _ _ _ _ _ _ _ _ _ _ _ _ _ _ _ _ _ _ _ _ _ _ _ _ _ _ _ _ _ _ _ _ _ _ _ _ _ hb hinv (fun v14 v60 v61 v62 v63 v64 v65 v66 v67 v68 v69 v70 v71 v72 v73 v74 v75 v76 v77 v78 v79 v80 v81 H2 N2 V2 h2 hm => ?_) (fun v14 v60 v61 v62 v63 v64 v65 v66 v67 v68 v69 v70 v71 v72 v73 v74 v75 v76 v77 v78 v79 v80 v81 hx => hX v14 v60 v61 v62 v63 v64 v65 v66 v67 v68 v69 v70 v71 v72 v73 v74 v75 v76 v77 v78 v79 v80 v81 i H N V hinv hx)
    refine ⟨_, hm, fun C hC => ?_⟩
    exact hC v14 v60 v61 v62 v63 v64 v65 v66 v67 v68 v69 v70 v71 v72 v73 v74 v75 v76 v77 v78 v79 v80 v81 ((i + 1)) (H2) (N2) rfl h2 rfl
set_option maxRecDepth 100000 in
set_option maxHeartbeats 3200000 in
theorem lqDb {w1 : World} {b p c bc lg i : Nat} {s0 : List UInt8} {lv : List Bool} {A bA : Option Addr} {back : List Int} {l : List It} {m : Nat} {X : Option Addr} {xc : Nat} {w : World} (u0 u1 u2 u4 u5 u6 u7 u8 u10 u12 u13 u14 u17 u19 u20 u21 u22 u23 u24 u25 u26 u27 u28 u29 u30 u31 u32 u33 u34 u35 u36 u37 u38 u39 u40 u41 u42 u43 u44 u45 u46 u47 u48 u49 u50 u51 u52 u53 u54 u55 u56 u57 u58 u59 u60 u61 u62 u63 u64 u65 u66 u67 u68 u69 u70 u71 u72 u73 u74 u75 u76 u77 u78 u79 u80 u81 u82 u83 u84 u85 u86 u87 u88 u89 u90 u91 u92 u93 u94 u95 u96 u97 u98 u99 u100 u101 u102 u103 u104 u105 u106 u107 u108 u109 u113 u114 u115 u116 u117 u118 u119 u120 u121 u122 u123 u124 u125 u126 u127 u128 u129 u130 u131 u132 u133 u134 u135 u136 u137 u138 u139 u140 u141 u142 u143 u144 u145 u146 u147 u148 u149 u150 u151 u152 u153 u154 u155 u156 u157 : Value) (K : Act → World → Prop) (Q0 : Exit → Act → World → Prop) (hlv : ∀ j, j < 4 → w1.cell? ⟨lg, j, none⟩ = some (.bool (lv.getD j false))) (hi : i < 64) (hr : RdI w1 w1.heap.size A l) (h32 : ∀ x ∈ l, x.b.length = 32) (hl3 : l.length ≤ 3) (hI : (m ≤ l.length ∧ RdB w w.heap.size X (wnt l lv (i % 4) (36 + i / 4) s0 m) ∧ Below w1.heap.size w1 w))
    (hK : ∀ (v20 v113 v114 v115 v116 v117 v118 v119 v120 v121 v122 v123 v124 v125 v126 v127 v128 v129 v130 v131 v132 v133 v134 v135 v136 v137 v138 : Value) (X2 : Option Addr) (xc2 : Nat) (V : World), ((m + 1) ≤ l.length ∧ RdB V V.heap.size X2 (wnt l lv (i % 4) (36 + i / 4) s0 (m + 1)) ∧ Below w1.heap.size w1 V) → l.length - (m + 1) < l.length - m → K ⟨List.toArray (u0 :: u1 :: u2 :: (.slice bA back.length bc) :: u4 :: u5 :: u6 :: u7 :: u8 :: (.pointer (some ⟨b, 0, none⟩)) :: u10 :: (.pointer (some ⟨p, 0, none⟩)) :: u12 :: u13 :: u14 :: (.slice (some ⟨lg, 0, none⟩) 4 4) :: (.int .i64 ((i : Nat) : Int)) :: u17 :: (.slice X2 32 xc2) :: u19 :: v20 :: u21 :: u22 :: u23 :: u24 :: u25 :: u26 :: u27 :: u28 :: u29 :: u30 :: u31 :: u32 :: u33 :: u34 :: u35 :: u36 :: u37 :: u38 :: u39 :: u40 :: u41 :: u42 :: u43 :: u44 :: u45 :: u46 :: u47 :: u48 :: u49 :: u50 :: u51 :: u52 :: u53 :: u54 :: u55 :: u56 :: u57 :: u58 :: u59 :: u60 :: u61 :: u62 :: u63 :: u64 :: u65 :: u66 :: u67 :: u68 :: u69 :: u70 :: u71 :: u72 :: u73 :: u74 :: u75 :: u76 :: u77 :: u78 :: u79 :: u80 :: u81 :: u82 :: u83 :: u84 :: u85 :: u86 :: u87 :: u88 :: u89 :: u90 :: u91 :: u92 :: u93 :: u94 :: u95 :: u96 :: u97 :: u98 :: u99 :: u100 :: u101 :: u102 :: u103 :: u104 :: u105 :: u106 :: u107 :: u108 :: u109 :: (.slice A l.length c) :: (.int .i64 ((l.length : Nat) : Int)) :: (.int .i64 (((m + 1) : Nat) : Int)) :: v113 :: v114 :: v115 :: v116 :: v117 :: v118 :: v119 :: v120 :: v121 :: v122 :: v123 :: v124 :: v125 :: v126 :: v127 :: v128 :: v129 :: v130 :: v131 :: v132 :: v133 :: v134 :: v135 :: v136 :: v137 :: v138 :: u139 :: u140 :: u141 :: u142 :: u143 :: u144 :: u145 :: u146 :: u147 :: u148 :: u149 :: u150 :: u151 :: u152 :: u153 :: u154 :: u155 :: u156 :: u157 :: []), []⟩ V)
    (hX : ∀ (v20 v113 v114 v115 v116 v117 v118 v119 v120 v121 v122 v123 v124 v125 v126 v127 v128 v129 v130 v131 v132 v133 v134 v135 v136 v137 v138 : Value), (m = l.length) → Q0 (.exit 6) ⟨List.toArray (u0 :: u1 :: u2 :: (.slice bA back.length bc) :: u4 :: u5 :: u6 :: u7 :: u8 :: (.pointer (some ⟨b, 0, none⟩)) :: u10 :: (.pointer (some ⟨p, 0, none⟩)) :: u12 :: u13 :: u14 :: (.slice (some ⟨lg, 0, none⟩) 4 4) :: (.int .i64 ((i : Nat) : Int)) :: u17 :: (.slice X 32 xc) :: u19 :: v20 :: u21 :: u22 :: u23 :: u24 :: u25 :: u26 :: u27 :: u28 :: u29 :: u30 :: u31 :: u32 :: u33 :: u34 :: u35 :: u36 :: u37 :: u38 :: u39 :: u40 :: u41 :: u42 :: u43 :: u44 :: u45 :: u46 :: u47 :: u48 :: u49 :: u50 :: u51 :: u52 :: u53 :: u54 :: u55 :: u56 :: u57 :: u58 :: u59 :: u60 :: u61 :: u62 :: u63 :: u64 :: u65 :: u66 :: u67 :: u68 :: u69 :: u70 :: u71 :: u72 :: u73 :: u74 :: u75 :: u76 :: u77 :: u78 :: u79 :: u80 :: u81 :: u82 :: u83 :: u84 :: u85 :: u86 :: u87 :: u88 :: u89 :: u90 :: u91 :: u92 :: u93 :: u94 :: u95 :: u96 :: u97 :: u98 :: u99 :: u100 :: u101 :: u102 :: u103 :: u104 :: u105 :: u106 :: u107 :: u108 :: u109 :: (.slice A l.length c) :: (.int .i64 ((l.length : Nat) : Int)) :: (.int .i64 ((m : Nat) : Int)) :: v113 :: v114 :: v115 :: v116 :: v117 :: v118 :: v119 :: v120 :: v121 :: v122 :: v123 :: v124 :: v125 :: v126 :: v127 :: v128 :: v129 :: v130 :: v131 :: v132 :: v133 :: v134 :: v135 :: v136 :: v137 :: v138 :: u139 :: u140 :: u141 :: u142 :: u143 :: u144 :: u145 :: u146 :: u147 :: u148 :: u149 :: u150 :: u151 :: u152 :: u153 :: u154 :: u155 :: u156 :: u157 :: []), []⟩ w) :
    Code.wp Tryd.prog (sub [1, 1, 1, 1, 1, 1, 1, 1, 1, 0, 1, 0, 0, 1, 0, 0, 1, 1, 1, 0, 1, 0, 0] codeLQ) (Exit.then K Q0) ⟨List.toArray (u0 :: u1 :: u2 :: (.slice bA back.length bc) :: u4 :: u5 :: u6 :: u7 :: u8 :: (.pointer (some ⟨b, 0, none⟩)) :: u10 :: (.pointer (some ⟨p, 0, none⟩)) :: u12 :: u13 :: u14 :: (.slice (some ⟨lg, 0, none⟩) 4 4) :: (.int .i64 ((i : Nat) : Int)) :: u17 :: (.slice X 32 xc) :: u19 :: u20 :: u21 :: u22 :: u23 :: u24 :: u25 :: u26 :: u27 :: u28 :: u29 :: u30 :: u31 :: u32 :: u33 :: u34 :: u35 :: u36 :: u37 :: u38 :: u39 :: u40 :: u41 :: u42 :: u43 :: u44 :: u45 :: u46 :: u47 :: u48 :: u49 :: u50 :: u51 :: u52 :: u53 :: u54 :: u55 :: u56 :: u57 :: u58 :: u59 :: u60 :: u61 :: u62 :: u63 :: u64 :: u65 :: u66 :: u67 :: u68 :: u69 :: u70 :: u71 :: u72 :: u73 :: u74 :: u75 :: u76 :: u77 :: u78 :: u79 :: u80 :: u81 :: u82 :: u83 :: u84 :: u85 :: u86 :: u87 :: u88 :: u89 :: u90 :: u91 :: u92 :: u93 :: u94 :: u95 :: u96 :: u97 :: u98 :: u99 :: u100 :: u101 :: u102 :: u103 :: u104 :: u105 :: u106 :: u107 :: u108 :: u109 :: (.slice A l.length c) :: (.int .i64 ((l.length : Nat) : Int)) :: (.int .i64 ((m : Nat) : Int)) :: u113 :: u114 :: u115 :: u116 :: u117 :: u118 :: u119 :: u120 :: u121 :: u122 :: u123 :: u124 :: u125 :: u126 :: u127 :: u128 :: u129 :: u130 :: u131 :: u132 :: u133 :: u134 :: u135 :: u136 :: u137 :: u138 :: u139 :: u140 :: u141 :: u142 :: u143 :: u144 :: u145 :: u146 :: u147 :: u148 :: u149 :: u150 :: u151 :: u152 :: u153 :: u154 :: u155 :: u156 :: u157 :: []), []⟩ w := by
  have HK := Lib.hid hK
  have HX := Lib.hid hX
  clear hK hX
  conv => arg 2; whnf
  obtain ⟨hm, hX1, hB⟩ := hI
  by_cases hlt : m < l.length
  · have HX1 := Lib.hid hX1
    have HB := Lib.hid hB
    have Hno := Lib.hid (fun h => wnt_no (l := l) (lv := lv) (j := i % 4) (k := 36 + i / 4) (s := s0) (m := m) hlt (Nat.mod_lt _ (by omega)) h)
    have Hye := Lib.hid (fun h1 h2 h3 => wnt_yes (l := l) (lv := lv) (j := i % 4) (k := 36 + i / 4) (s := s0) (m := m) hlt (Nat.mod_lt _ (by omega)) h1 h2 h3)
    obtain ⟨g, rfl, hg, hc⟩ := hr.2 (by omega)
    obtain ⟨D, cd, hrp, hrd⟩ := hc m hlt
    have hy32 := h32 _ (itN_mem hlt)
    have k0 : (0 : Int) ≤ (i : Int) := by omega
    have k1 : (i : Int) < 64 := by omega
    have hd4 : i % 4 < 4 := Nat.mod_lt _ (by omega)
    have he16 : i / 4 < 16 := by omega
    have t1 : (i : Int).tmod 4 = ((i % 4 : Nat) : Int) := by rw [Int.tmod_eq_emod_of_nonneg (by omega)]; omega
    have t2 : (i : Int).tdiv 4 = ((i / 4 : Nat) : Int) := by rw [Int.tdiv_eq_ediv_of_nonneg (by omega)]; omega
    have t3 : IntKind.i64.wrap ((i / 4 : Nat) : Int) = ((i / 4 : Nat) : Int) := by rw [IntKind.wrap_i64]; omega
    have t4 : IntKind.i64.wrap (36 + ((i / 4 : Nat) : Int)) = ((36 + i / 4 : Nat) : Int) := by rw [IntKind.wrap_i64]; omega
    have t5 : IntKind.i64.wrap ((i % 4 : Nat) : Int) = ((i % 4 : Nat) : Int) := by rw [IntKind.wrap_i64]; omega
    have t6 : IntKind.i64.wrap ((i : Int) + 1) = ((i + 1 : Nat) : Int) := by rw [IntKind.wrap_i64]; omega
    have hcl := (hB.cell (World.block_lt_of_cell? _ _ (hlv _ hd4))).trans (hlv _ hd4)
    obtain ⟨d, hd⟩ : ∃ d, i % 4 = d := ⟨_, rfl⟩
    obtain ⟨e, he⟩ : ∃ e, i / 4 = e := ⟨_, rfl⟩
    rw [hd] at Hno Hye t1 t5 hd4 hcl HX1
    rw [he] at Hno Hye t2 t3 t4 he16 HX1
    have Hd := Lib.hid hd
    have He := Lib.hid he
    generalize itN l m = y at hrp hrd hy32 Hno Hye
    obtain ⟨yd, ya, yb⟩ := y
    dsimp only at hrp hrd hy32 Hno Hye
    rw [hy32] at hrp
    obtain ⟨f, hf⟩ : ∃ f : Int, ((36 + e : Nat) : Int) = f := ⟨_, rfl⟩
    rw [hf] at t4 Hno Hye
    clear hf
    have Hrp := Lib.hid (rangeAt_keep (w' := w) hrp fun k => hB.cell hg)
    have HY := Lib.hid (hrd.below hB (Nat.le_refl _) |>.more hB.size)
    have BX := Lib.hid (below1 w (.cells #[.int .i64 yd, .int .i64 ya, .slice D 32 cd] 43))
    have BB := Lib.hid (hB.trans (BX.out.mono hB.size))
    have hlgs : lg < w.heap.size := World.block_lt_of_cell? _ _ hcl
    have hcl2 := (BX.out.cell (p := ⟨lg, d, none⟩) hlgs).trans hcl
    have HXA := Lib.hid ((HX1.out.below BX.out (Nat.le_refl _)).more BX.out.size)
    have HYA := Lib.hid ((HY.out.below BX.out (Nat.le_refl _)).more BX.out.size)
    have k2 : (m : Int) < (l.length : Int) := by omega
    have k3 : (0 : Int) ≤ (m : Int) := by omega
    have d0 : (0 : Int) ≤ (d : Int) := by omega
    have d1 : (d : Int) < 4 := by omega
    clear hX1 hB HX hc hrd hrp hlv hr h32 hy32 hd he
    by_cases x1 : yd = (d : Int)
    · subst x1
      by_cases x2 : ya = f
      · subst x2
        cases x3 : lv.getD d false with
        | true =>
          have Hw := Lib.hid (Hye.out rfl rfl x3)
          rw [x3] at hcl hcl2
          clear x3 Hno Hye
          go_wp2_with ((with_reducible refine (id ?_ : wpList _ _ _ (⟨some 115, _, _, _, _, _⟩ :: _) _ _)); refine wpList_load_mid rfl 43 _ (by rfl) g (m * 3) (by rfl) [.int .i64 (d : Int), .int .i64 ya, .slice D 32 cd] _ Hrp.out Tryd.underlying43 rfl (by kernel_rfl) ?_)
          exact HK.out _ _ _ _ _ _ _ _ _ _ _ _ _ _ _ _ _ _ _ _ _ _ _ _ _ _ _ D cd _ ⟨by omega, by rw [Hd.out, He.out, Hw.out]; exact HYA.out, BB.out⟩ (by omega)
        | false =>
          have Hw := Lib.hid (Hno.out (fun h => by rw [x3] at h; cases h.2.2))
          rw [x3] at hcl hcl2
          clear x3 Hno Hye
          go_wp2_with ((with_reducible refine (id ?_ : wpList _ _ _ (⟨some 115, _, _, _, _, _⟩ :: _) _ _)); refine wpList_load_mid rfl 43 _ (by rfl) g (m * 3) (by rfl) [.int .i64 (d : Int), .int .i64 ya, .slice D 32 cd] _ Hrp.out Tryd.underlying43 rfl (by kernel_rfl) ?_)
          exact HK.out _ _ _ _ _ _ _ _ _ _ _ _ _ _ _ _ _ _ _ _ _ _ _ _ _ _ _ X xc _ ⟨by omega, by rw [Hd.out, He.out, Hw.out]; exact HXA.out, BB.out⟩ (by omega)
      · have y2 : (ya == f) = false := by rw [beq_eq_false_iff_ne]; exact x2
        have Hw := Lib.hid (Hno.out (fun h => x2 h.2.1))
        clear x2 Hno Hye
        go_wp2_with ((with_reducible refine (id ?_ : wpList _ _ _ (⟨some 115, _, _, _, _, _⟩ :: _) _ _)); refine wpList_load_mid rfl 43 _ (by rfl) g (m * 3) (by rfl) [.int .i64 (d : Int), .int .i64 ya, .slice D 32 cd] _ Hrp.out Tryd.underlying43 rfl (by kernel_rfl) ?_)
        exact HK.out _ _ _ _ _ _ _ _ _ _ _ _ _ _ _ _ _ _ _ _ _ _ _ _ _ _ _ X xc _ ⟨by omega, by rw [Hd.out, He.out, Hw.out]; exact HXA.out, BB.out⟩ (by omega)
    · have y1 : (yd == (d : Int)) = false := by rw [beq_eq_false_iff_ne]; exact x1
      have Hw := Lib.hid (Hno.out (fun h => x1 h.1))
      clear x1 Hno Hye
      go_wp2_with ((with_reducible refine (id ?_ : wpList _ _ _ (⟨some 115, _, _, _, _, _⟩ :: _) _ _)); refine wpList_load_mid rfl 43 _ (by rfl) g (m * 3) (by rfl) [.int .i64 yd, .int .i64 ya, .slice D 32 cd] _ Hrp.out Tryd.underlying43 rfl (by kernel_rfl) ?_)
      exact HK.out _ _ _ _ _ _ _ _ _ _ _ _ _ _ _ _ _ _ _ _ _ _ _ _ _ _ _ X xc _ ⟨by omega, by rw [Hd.out, He.out, Hw.out]; exact HXA.out, BB.out⟩ (by omega)
  · have i1 : ¬ (m : Int) < (l.length : Int) := by omega
    have hde : m = l.length := by omega
    have Hde := Lib.hid hde
    clear HK hde hX1 hB
    go_wp2_with fail
    exact HX.out _ _ _ _ _ _ _ _ _ _ _ _ _ _ _ _ _ _ _ _ _ _ _ _ _ _ _ Hde.out
set_option maxRecDepth 100000 in
set_option maxHeartbeats 3200000 in
theorem lqD {w1 : World} {b p c bc lg i : Nat} {s0 : List UInt8} {lv : List Bool} {A bA : Option Addr} {back : List Int} {l : List It} {X0 : Option Addr} {xc0 : Nat} {w : World} (u0 u1 u2 u4 u5 u6 u7 u8 u10 u12 u13 u14 u17 u19 u20 u21 u22 u23 u24 u25 u26 u27 u28 u29 u30 u31 u32 u33 u34 u35 u36 u37 u38 u39 u40 u41 u42 u43 u44 u45 u46 u47 u48 u49 u50 u51 u52 u53 u54 u55 u56 u57 u58 u59 u60 u61 u62 u63 u64 u65 u66 u67 u68 u69 u70 u71 u72 u73 u74 u75 u76 u77 u78 u79 u80 u81 u82 u83 u84 u85 u86 u87 u88 u89 u90 u91 u92 u93 u94 u95 u96 u97 u98 u99 u100 u101 u102 u103 u104 u105 u106 u107 u108 u109 u113 u114 u115 u116 u117 u118 u119 u120 u121 u122 u123 u124 u125 u126 u127 u128 u129 u130 u131 u132 u133 u134 u135 u136 u137 u138 u139 u140 u141 u142 u143 u144 u145 u146 u147 u148 u149 u150 u151 u152 u153 u154 u155 u156 u157 : Value) (Q : Exit → Act → World → Prop) (hlv : ∀ j, j < 4 → w1.cell? ⟨lg, j, none⟩ = some (.bool (lv.getD j false))) (hi : i < 64) (hr : RdI w1 w1.heap.size A l) (h32 : ∀ x ∈ l, x.b.length = 32) (hl3 : l.length ≤ 3) (hI : (0 ≤ l.length ∧ RdB w w.heap.size X0 (wnt l lv (i % 4) (36 + i / 4) s0 0) ∧ Below w1.heap.size w1 w))
    (hX : ∀ (v20 v113 v114 v115 v116 v117 v118 v119 v120 v121 v122 v123 v124 v125 v126 v127 v128 v129 v130 v131 v132 v133 v134 v135 v136 v137 v138 : Value) (m : Nat) (X : Option Addr) (xc : Nat) (V : World), (m ≤ l.length ∧ RdB V V.heap.size X (wnt l lv (i % 4) (36 + i / 4) s0 m) ∧ Below w1.heap.size w1 V) → (m = l.length) → Q (.exit 6) ⟨List.toArray (u0 :: u1 :: u2 :: (.slice bA back.length bc) :: u4 :: u5 :: u6 :: u7 :: u8 :: (.pointer (some ⟨b, 0, none⟩)) :: u10 :: (.pointer (some ⟨p, 0, none⟩)) :: u12 :: u13 :: u14 :: (.slice (some ⟨lg, 0, none⟩) 4 4) :: (.int .i64 ((i : Nat) : Int)) :: u17 :: (.slice X 32 xc) :: u19 :: v20 :: u21 :: u22 :: u23 :: u24 :: u25 :: u26 :: u27 :: u28 :: u29 :: u30 :: u31 :: u32 :: u33 :: u34 :: u35 :: u36 :: u37 :: u38 :: u39 :: u40 :: u41 :: u42 :: u43 :: u44 :: u45 :: u46 :: u47 :: u48 :: u49 :: u50 :: u51 :: u52 :: u53 :: u54 :: u55 :: u56 :: u57 :: u58 :: u59 :: u60 :: u61 :: u62 :: u63 :: u64 :: u65 :: u66 :: u67 :: u68 :: u69 :: u70 :: u71 :: u72 :: u73 :: u74 :: u75 :: u76 :: u77 :: u78 :: u79 :: u80 :: u81 :: u82 :: u83 :: u84 :: u85 :: u86 :: u87 :: u88 :: u89 :: u90 :: u91 :: u92 :: u93 :: u94 :: u95 :: u96 :: u97 :: u98 :: u99 :: u100 :: u101 :: u102 :: u103 :: u104 :: u105 :: u106 :: u107 :: u108 :: u109 :: (.slice A l.length c) :: (.int .i64 ((l.length : Nat) : Int)) :: (.int .i64 ((m : Nat) : Int)) :: v113 :: v114 :: v115 :: v116 :: v117 :: v118 :: v119 :: v120 :: v121 :: v122 :: v123 :: v124 :: v125 :: v126 :: v127 :: v128 :: v129 :: v130 :: v131 :: v132 :: v133 :: v134 :: v135 :: v136 :: v137 :: v138 :: u139 :: u140 :: u141 :: u142 :: u143 :: u144 :: u145 :: u146 :: u147 :: u148 :: u149 :: u150 :: u151 :: u152 :: u153 :: u154 :: u155 :: u156 :: u157 :: []), []⟩ V) :
    Code.wp Tryd.prog (.loop (sub [1, 1, 1, 1, 1, 1, 1, 1, 1, 0, 1, 0, 0, 1, 0, 0, 1, 1, 1, 0, 1, 0, 0] codeLQ)) Q ⟨List.toArray (u0 :: u1 :: u2 :: (.slice bA back.length bc) :: u4 :: u5 :: u6 :: u7 :: u8 :: (.pointer (some ⟨b, 0, none⟩)) :: u10 :: (.pointer (some ⟨p, 0, none⟩)) :: u12 :: u13 :: u14 :: (.slice (some ⟨lg, 0, none⟩) 4 4) :: (.int .i64 ((i : Nat) : Int)) :: u17 :: (.slice X0 32 xc0) :: u19 :: u20 :: u21 :: u22 :: u23 :: u24 :: u25 :: u26 :: u27 :: u28 :: u29 :: u30 :: u31 :: u32 :: u33 :: u34 :: u35 :: u36 :: u37 :: u38 :: u39 :: u40 :: u41 :: u42 :: u43 :: u44 :: u45 :: u46 :: u47 :: u48 :: u49 :: u50 :: u51 :: u52 :: u53 :: u54 :: u55 :: u56 :: u57 :: u58 :: u59 :: u60 :: u61 :: u62 :: u63 :: u64 :: u65 :: u66 :: u67 :: u68 :: u69 :: u70 :: u71 :: u72 :: u73 :: u74 :: u75 :: u76 :: u77 :: u78 :: u79 :: u80 :: u81 :: u82 :: u83 :: u84 :: u85 :: u86 :: u87 :: u88 :: u89 :: u90 :: u91 :: u92 :: u93 :: u94 :: u95 :: u96 :: u97 :: u98 :: u99 :: u100 :: u101 :: u102 :: u103 :: u104 :: u105 :: u106 :: u107 :: u108 :: u109 :: (.slice A l.length c) :: (.int .i64 ((l.length : Nat) : Int)) :: (.int .i64 ((0 : Nat) : Int)) :: u113 :: u114 :: u115 :: u116 :: u117 :: u118 :: u119 :: u120 :: u121 :: u122 :: u123 :: u124 :: u125 :: u126 :: u127 :: u128 :: u129 :: u130 :: u131 :: u132 :: u133 :: u134 :: u135 :: u136 :: u137 :: u138 :: u139 :: u140 :: u141 :: u142 :: u143 :: u144 :: u145 :: u146 :: u147 :: u148 :: u149 :: u150 :: u151 :: u152 :: u153 :: u154 :: u155 :: u156 :: u157 :: []), []⟩ w := by
  refine wp_loop_ghost (fun gk a V => ∀ C : Prop, (∀ (u20 u113 u114 u115 u116 u117 u118 u119 u120 u121 u122 u123 u124 u125 u126 u127 u128 u129 u130 u131 u132 u133 u134 u135 u136 u137 u138 : Value) (m : Nat) (X : Option Addr) (xc : Nat), gk = l.length - m → (m ≤ l.length ∧ RdB V V.heap.size X (wnt l lv (i % 4) (36 + i / 4) s0 m) ∧ Below w1.heap.size w1 V) → a = ⟨List.toArray (u0 :: u1 :: u2 :: (.slice bA back.length bc) :: u4 :: u5 :: u6 :: u7 :: u8 :: (.pointer (some ⟨b, 0, none⟩)) :: u10 :: (.pointer (some ⟨p, 0, none⟩)) :: u12 :: u13 :: u14 :: (.slice (some ⟨lg, 0, none⟩) 4 4) :: (.int .i64 ((i : Nat) : Int)) :: u17 :: (.slice X 32 xc) :: u19 :: u20 :: u21 :: u22 :: u23 :: u24 :: u25 :: u26 :: u27 :: u28 :: u29 :: u30 :: u31 :: u32 :: u33 :: u34 :: u35 :: u36 :: u37 :: u38 :: u39 :: u40 :: u41 :: u42 :: u43 :: u44 :: u45 :: u46 :: u47 :: u48 :: u49 :: u50 :: u51 :: u52 :: u53 :: u54 :: u55 :: u56 :: u57 :: u58 :: u59 :: u60 :: u61 :: u62 :: u63 :: u64 :: u65 :: u66 :: u67 :: u68 :: u69 :: u70 :: u71 :: u72 :: u73 :: u74 :: u75 :: u76 :: u77 :: u78 :: u79 :: u80 :: u81 :: u82 :: u83 :: u84 :: u85 :: u86 :: u87 :: u88 :: u89 :: u90 :: u91 :: u92 :: u93 :: u94 :: u95 :: u96 :: u97 :: u98 :: u99 :: u100 :: u101 :: u102 :: u103 :: u104 :: u105 :: u106 :: u107 :: u108 :: u109 :: (.slice A l.length c) :: (.int .i64 ((l.length : Nat) : Int)) :: (.int .i64 ((m : Nat) : Int)) :: u113 :: u114 :: u115 :: u116 :: u117 :: u118 :: u119 :: u120 :: u121 :: u122 :: u123 :: u124 :: u125 :: u126 :: u127 :: u128 :: u129 :: u130 :: u131 :: u132 :: u133 :: u134 :: u135 :: u136 :: u137 :: u138 :: u139 :: u140 :: u141 :: u142 :: u143 :: u144 :: u145 :: u146 :: u147 :: u148 :: u149 :: u150 :: u151 :: u152 :: u153 :: u154 :: u155 :: u156 :: u157 :: []), []⟩ → C) → C) (l.length - 0) ?_ ?_
  · intro C hC
    exact hC _ _ _ _ _ _ _ _ _ _ _ _ _ _ _ _ _ _ _ _ _ _ _ _ _ _ _ (0) (X0) (xc0) rfl hI rfl
  · intro gk a V hI'
    refine hI' _ ?_
    intro u20 u113 u114 u115 u116 u117 u118 u119 u120 u121 u122 u123 u124 u125 u126 u127 u128 u129 u130 u131 u132 u133 u134 u135 u136 u137 u138 m X xc hk hinv ha
    subst ha
    subst hk
    refine lqDb _ _ _ _ _ _ _ _ _ _ _ _ _ _ _ _ _ _ _ _ _ _ _ _ _ _ _ _ _ _ _ _ _ _ _ _ _ _ _ _ _ _ _ _ _ _ _ _ _ _ _ _ _ _ _ _ _ _ _ _ _ _ _ _ _ _ _ _ _ _ _ _ _ _ _ _ _ _ _ _ _ _ _ _ _ _ _ _ _ _ _ _ _ _ _ _ _ _ _ _ _ _ _ _ _ _ _ _ _ _ _ _ _ _ _ _ _ _ _ _ _ _ _ _ _ _ _ _ _ _ _ _ _ _ _ _ _ _ _ _ _ _ _ _ _ _ _ _ _ _ _ hlv hi hr h32 hl3 hinv (fun v20 v113 v114 v115 v116 v117 v118 v119 v120 v121 v122 v123 v124 v125 v126 v127 v128 v129 v130 v131 v132 v133 v134 v135 v136 v137 v138 X2 xc2 V2 h2 hm => ?_) (fun v20 v113 v114 v115 v116 v117 v118 v119 v120 v121 v122 v123 v124 v125 v126 v127 v128 v129 v130 v131 v132 v133 v134 v135 v136 v137 v138 hx => hX v20 v113 v114 v115 v116 v117 v118 v119 v120 v121 v122 v123 v124 v125 v126 v127 v128 v129 v130 v131 v132 v133 v134 v135 v136 v137 v138 m X xc V hinv hx)
    refine ⟨_, hm, fun C hC => ?_⟩
    exact hC v20 v113 v114 v115 v116 v117 v118 v119 v120 v121 v122 v123 v124 v125 v126 v127 v128 v129 v130 v131 v132 v133 v134 v135 v136 v137 v138 ((m + 1)) (X2) (xc2) rfl h2 rfl
end Go.Proofs.YtkbhnbkjpnigkaaDoor
