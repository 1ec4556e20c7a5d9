/- Texts put together: BackupNewestLoops, BackupNewestFind. -/
import Derived.Test.YtjnemopocmhfkaaDoorBnav
import Derived.Test.YtjnemopocmhfkaaDoorBnaa
section
set_option linter.unusedVariables false
set_option linter.unusedSimpArgs false
namespace Go.Proofs.YtjnemopocmhfkaaDoor
open Go.RowKit

noncomputable def codeBN : Code := Tryd.f3.body.getD .skip
set_option maxRecDepth 100000 in
set_option maxHeartbeats 3200000 in
theorem bnBb {W0 : World} {A A2 : Option Addr} {zs ms : List Int} {cl cl2 b gh ga gl i : Nat} {lv : List Bool} {fh : Nat → Nat} {H : BH} {M : Bch} {j : Nat} {w : World} (u2 u3 u6 u11 u12 u13 u14 u15 u16 u17 u18 u19 u20 u21 u22 u23 u24 u25 u26 u27 u28 u29 u30 u31 u32 u33 u34 u35 u36 u37 u38 u39 u40 u41 u42 u43 u44 u45 u46 u47 u48 u49 u50 u51 u52 u53 u54 u55 u56 u57 u58 u59 u62 u63 u64 u65 u66 u67 u68 u69 u70 u71 u72 u73 u74 u75 u76 u77 u78 u79 u80 u81 u82 u83 u84 u85 u86 u87 u88 u89 u90 u91 u92 u93 u94 u95 u96 u97 u98 u99 u100 u101 u102 u103 u104 u105 u106 u107 u108 u109 u110 u111 u112 u113 u114 u115 u116 u117 u118 u119 u120 u121 u122 u123 u124 u125 u126 u127 u128 u129 u130 u131 u132 : Value) (K : Act → World → Prop) (Q0 : Exit → Act → World → Prop) (hlv : lv.length = 3) (n1 : gl ≠ gh) (n2 : ga ≠ gh) (hi : i < 10) (hI : (j ≤ 3 ∧ KS W0 w b H M [(gl, Obj.cells (lv.map Value.bool).toArray 4 (0, 0)), (gh, Obj.cells (hv3 (hU lv (i + 1) fh j)) 27 (0, 0)), (ga, Obj.cells #[.bool true, .bool true, .bool true] 4 (0, 0))] [] []))
    (hK : ∀ (v11 v62 v63 v64 v65 v66 v67 v68 v69 v70 v71 v72 : Value)  (V : World), ((j + 1) ≤ 3 ∧ KS W0 V b H M [(gl, Obj.cells (lv.map Value.bool).toArray 4 (0, 0)), (gh, Obj.cells (hv3 (hU lv (i + 1) fh (j + 1))) 27 (0, 0)), (ga, Obj.cells #[.bool true, .bool true, .bool true] 4 (0, 0))] [] []) → 3 - (j + 1) < 3 - j → K ⟨List.toArray ((.slice A zs.length cl) :: (.slice A2 ms.length cl2) :: u2 :: u3 :: (.bool false) :: (.pointer (some ⟨b, 0, none⟩)) :: u6 :: (.pointer (some ⟨gh, 0, none⟩)) :: (.slice (some ⟨ga, 0, none⟩) 3 3) :: (.int .i64 ((i : Nat) : Int)) :: (.slice (some ⟨gl, 0, none⟩) 3 3) :: v11 :: u12 :: u13 :: u14 :: u15 :: u16 :: u17 :: u18 :: u19 :: u20 :: u21 :: u22 :: u23 :: u24 :: u25 :: u26 :: u27 :: u28 :: u29 :: u30 :: u31 :: u32 :: u33 :: u34 :: u35 :: u36 :: u37 :: u38 :: u39 :: u40 :: u41 :: u42 :: u43 :: u44 :: u45 :: u46 :: u47 :: u48 :: u49 :: u50 :: u51 :: u52 :: u53 :: u54 :: u55 :: u56 :: u57 :: u58 :: u59 :: (.int .i64 3) :: (.int .i64 (((j + 1) : Nat) : Int)) :: v62 :: v63 :: v64 :: v65 :: v66 :: v67 :: v68 :: v69 :: v70 :: v71 :: v72 :: u73 :: u74 :: u75 :: u76 :: u77 :: u78 :: u79 :: u80 :: u81 :: u82 :: u83 :: u84 :: u85 :: u86 :: u87 :: u88 :: u89 :: u90 :: u91 :: u92 :: u93 :: u94 :: u95 :: u96 :: u97 :: u98 :: u99 :: u100 :: u101 :: u102 :: u103 :: u104 :: u105 :: u106 :: u107 :: u108 :: u109 :: u110 :: u111 :: u112 :: u113 :: u114 :: u115 :: u116 :: u117 :: u118 :: u119 :: u120 :: u121 :: u122 :: u123 :: u124 :: u125 :: u126 :: u127 :: u128 :: u129 :: u130 :: u131 :: u132 :: []), []⟩ V)
    (hX : ∀ (v11 v62 v63 v64 v65 v66 v67 v68 v69 v70 v71 v72 : Value), (j = 3) → Q0 (.exit 2) ⟨List.toArray ((.slice A zs.length cl) :: (.slice A2 ms.length cl2) :: u2 :: u3 :: (.bool false) :: (.pointer (some ⟨b, 0, none⟩)) :: u6 :: (.pointer (some ⟨gh, 0, none⟩)) :: (.slice (some ⟨ga, 0, none⟩) 3 3) :: (.int .i64 ((i : Nat) : Int)) :: (.slice (some ⟨gl, 0, none⟩) 3 3) :: v11 :: u12 :: u13 :: u14 :: u15 :: u16 :: u17 :: u18 :: u19 :: u20 :: u21 :: u22 :: u23 :: u24 :: u25 :: u26 :: u27 :: u28 :: u29 :: u30 :: u31 :: u32 :: u33 :: u34 :: u35 :: u36 :: u37 :: u38 :: u39 :: u40 :: u41 :: u42 :: u43 :: u44 :: u45 :: u46 :: u47 :: u48 :: u49 :: u50 :: u51 :: u52 :: u53 :: u54 :: u55 :: u56 :: u57 :: u58 :: u59 :: (.int .i64 3) :: (.int .i64 ((j : Nat) : Int)) :: v62 :: v63 :: v64 :: v65 :: v66 :: v67 :: v68 :: v69 :: v70 :: v71 :: v72 :: u73 :: u74 :: u75 :: u76 :: u77 :: u78 :: u79 :: u80 :: u81 :: u82 :: u83 :: u84 :: u85 :: u86 :: u87 :: u88 :: u89 :: u90 :: u91 :: u92 :: u93 :: u94 :: u95 :: u96 :: u97 :: u98 :: u99 :: u100 :: u101 :: u102 :: u103 :: u104 :: u105 :: u106 :: u107 :: u108 :: u109 :: u110 :: u111 :: u112 :: u113 :: u114 :: u115 :: u116 :: u117 :: u118 :: u119 :: u120 :: u121 :: u122 :: u123 :: u124 :: u125 :: u126 :: u127 :: u128 :: u129 :: u130 :: u131 :: u132 :: []), []⟩ w) :
    Code.wp Tryd.prog (sub [1, 1, 1, 1, 1, 0, 1, 0, 0, 1, 0, 0, 1, 1, 1, 0, 0] codeBN) (Exit.then K Q0) ⟨List.toArray ((.slice A zs.length cl) :: (.slice A2 ms.length cl2) :: u2 :: u3 :: (.bool false) :: (.pointer (some ⟨b, 0, none⟩)) :: u6 :: (.pointer (some ⟨gh, 0, none⟩)) :: (.slice (some ⟨ga, 0, none⟩) 3 3) :: (.int .i64 ((i : Nat) : Int)) :: (.slice (some ⟨gl, 0, none⟩) 3 3) :: u11 :: u12 :: u13 :: u14 :: u15 :: u16 :: u17 :: u18 :: u19 :: u20 :: u21 :: u22 :: u23 :: u24 :: u25 :: u26 :: u27 :: u28 :: u29 :: u30 :: u31 :: u32 :: u33 :: u34 :: u35 :: u36 :: u37 :: u38 :: u39 :: u40 :: u41 :: u42 :: u43 :: u44 :: u45 :: u46 :: u47 :: u48 :: u49 :: u50 :: u51 :: u52 :: u53 :: u54 :: u55 :: u56 :: u57 :: u58 :: u59 :: (.int .i64 3) :: (.int .i64 ((j : Nat) : Int)) :: u62 :: u63 :: u64 :: u65 :: u66 :: u67 :: u68 :: u69 :: u70 :: u71 :: u72 :: u73 :: u74 :: u75 :: u76 :: u77 :: u78 :: u79 :: u80 :: u81 :: u82 :: u83 :: u84 :: u85 :: u86 :: u87 :: u88 :: u89 :: u90 :: u91 :: u92 :: u93 :: u94 :: u95 :: u96 :: u97 :: u98 :: u99 :: u100 :: u101 :: u102 :: u103 :: u104 :: u105 :: u106 :: u107 :: u108 :: u109 :: u110 :: u111 :: u112 :: u113 :: u114 :: u115 :: u116 :: u117 :: u118 :: u119 :: u120 :: u121 :: u122 :: u123 :: u124 :: u125 :: u126 :: u127 :: u128 :: u129 :: u130 :: u131 :: u132 :: []), []⟩ w := by
  have HK := Lib.hid hK
  have HX := Lib.hid hX
  clear hK hX
  conv => arg 2; whnf
  obtain ⟨hj, hk⟩ := hI
  by_cases hlt : j < 3
  · have i0 : (0 : Int) ≤ (j : Int) := by omega
    have i1 : (j : Int) < 3 := by omega
    have i2 : (0 : Int) ≤ (i : Int) := by omega
    have i3 : (i : Int) < 10 := by omega
    have hcl : w.cell? ⟨gl, j, none⟩ = some (.bool (lv.getD j false)) := by
      rw [cell_of_row w gl j _ _ _ (hk.kx.kp _ (List.mem_cons_self ..)).1, List.getElem?_toArray, List.getElem?_map, List.getElem?_eq_getElem (by omega)]
      simp [List.getD_eq_getElem?_getD, hlv, hlt]
    have HKs := Lib.hid hk
    cases hb : lv.getD j false with
    | false =>
      rw [hb] at hcl
      have HU := Lib.hid (hU_no (z := i + 1) (h := fh) hb)
      clear hk hlv n1 n2 HX hb
      go_wp2_with fail
      exact HK.out _ _ _ _ _ _ _ _ _ _ _ _ _ ⟨by omega, by rw [HU.out]; exact HKs.out⟩ (by omega)
    | true =>
      rw [hb] at hcl
      obtain ⟨hc, hf⟩ := ks_hcell hk (gh := gh) (h := hU lv (i + 1) fh j) (by simp) hlt
      have HN := Lib.hid (ks_hput hk n1 n2 (hv3_set (z := i + 1) (h := fh) hlt hb))
      rw [show (((i + 1 : Nat) : Int)) = (i : Int) + 1 from rfl] at HN
      generalize ((hU lv (i + 1) fh j j : Nat) : Int) = y at hc
      clear hk hlv n1 n2 HX hb HKs
      go_wp2_with fail
      exact HK.out _ _ _ _ _ _ _ _ _ _ _ _ _ ⟨by omega, HN.out⟩ (by omega)
  · have i1 : ¬ (j : Int) < 3 := by omega
    have Hin := Lib.hid (show j = 3 by omega)
    clear HK hk
    go_wp2_with fail
    exact HX.out _ _ _ _ _ _ _ _ _ _ _ _ Hin.out
set_option maxRecDepth 100000 in
set_option maxHeartbeats 3200000 in
theorem bnB {W0 : World} {A A2 : Option Addr} {zs ms : List Int} {cl cl2 b gh ga gl i : Nat} {lv : List Bool} {fh : Nat → Nat} {H : BH} {M : Bch}  {w : World} (u2 u3 u6 u11 u12 u13 u14 u15 u16 u17 u18 u19 u20 u21 u22 u23 u24 u25 u26 u27 u28 u29 u30 u31 u32 u33 u34 u35 u36 u37 u38 u39 u40 u41 u42 u43 u44 u45 u46 u47 u48 u49 u50 u51 u52 u53 u54 u55 u56 u57 u58 u59 u62 u63 u64 u65 u66 u67 u68 u69 u70 u71 u72 u73 u74 u75 u76 u77 u78 u79 u80 u81 u82 u83 u84 u85 u86 u87 u88 u89 u90 u91 u92 u93 u94 u95 u96 u97 u98 u99 u100 u101 u102 u103 u104 u105 u106 u107 u108 u109 u110 u111 u112 u113 u114 u115 u116 u117 u118 u119 u120 u121 u122 u123 u124 u125 u126 u127 u128 u129 u130 u131 u132 : Value) (Q : Exit → Act → World → Prop) (hlv : lv.length = 3) (n1 : gl ≠ gh) (n2 : ga ≠ gh) (hi : i < 10) (hI : (0 ≤ 3 ∧ KS W0 w b H M [(gl, Obj.cells (lv.map Value.bool).toArray 4 (0, 0)), (gh, Obj.cells (hv3 (hU lv (i + 1) fh 0)) 27 (0, 0)), (ga, Obj.cells #[.bool true, .bool true, .bool true] 4 (0, 0))] [] []))
    (hX : ∀ (v11 v62 v63 v64 v65 v66 v67 v68 v69 v70 v71 v72 : Value) (j : Nat) (V : World), (j ≤ 3 ∧ KS W0 V b H M [(gl, Obj.cells (lv.map Value.bool).toArray 4 (0, 0)), (gh, Obj.cells (hv3 (hU lv (i + 1) fh j)) 27 (0, 0)), (ga, Obj.cells #[.bool true, .bool true, .bool true] 4 (0, 0))] [] []) → (j = 3) → Q (.exit 2) ⟨List.toArray ((.slice A zs.length cl) :: (.slice A2 ms.length cl2) :: u2 :: u3 :: (.bool false) :: (.pointer (some ⟨b, 0, none⟩)) :: u6 :: (.pointer (some ⟨gh, 0, none⟩)) :: (.slice (some ⟨ga, 0, none⟩) 3 3) :: (.int .i64 ((i : Nat) : Int)) :: (.slice (some ⟨gl, 0, none⟩) 3 3) :: v11 :: u12 :: u13 :: u14 :: u15 :: u16 :: u17 :: u18 :: u19 :: u20 :: u21 :: u22 :: u23 :: u24 :: u25 :: u26 :: u27 :: u28 :: u29 :: u30 :: u31 :: u32 :: u33 :: u34 :: u35 :: u36 :: u37 :: u38 :: u39 :: u40 :: u41 :: u42 :: u43 :: u44 :: u45 :: u46 :: u47 :: u48 :: u49 :: u50 :: u51 :: u52 :: u53 :: u54 :: u55 :: u56 :: u57 :: u58 :: u59 :: (.int .i64 3) :: (.int .i64 ((j : Nat) : Int)) :: v62 :: v63 :: v64 :: v65 :: v66 :: v67 :: v68 :: v69 :: v70 :: v71 :: v72 :: u73 :: u74 :: u75 :: u76 :: u77 :: u78 :: u79 :: u80 :: u81 :: u82 :: u83 :: u84 :: u85 :: u86 :: u87 :: u88 :: u89 :: u90 :: u91 :: u92 :: u93 :: u94 :: u95 :: u96 :: u97 :: u98 :: u99 :: u100 :: u101 :: u102 :: u103 :: u104 :: u105 :: u106 :: u107 :: u108 :: u109 :: u110 :: u111 :: u112 :: u113 :: u114 :: u115 :: u116 :: u117 :: u118 :: u119 :: u120 :: u121 :: u122 :: u123 :: u124 :: u125 :: u126 :: u127 :: u128 :: u129 :: u130 :: u131 :: u132 :: []), []⟩ V) :
    Code.wp Tryd.prog (.loop (sub [1, 1, 1, 1, 1, 0, 1, 0, 0, 1, 0, 0, 1, 1, 1, 0, 0] codeBN)) Q ⟨List.toArray ((.slice A zs.length cl) :: (.slice A2 ms.length cl2) :: u2 :: u3 :: (.bool false) :: (.pointer (some ⟨b, 0, none⟩)) :: u6 :: (.pointer (some ⟨gh, 0, none⟩)) :: (.slice (some ⟨ga, 0, none⟩) 3 3) :: (.int .i64 ((i : Nat) : Int)) :: (.slice (some ⟨gl, 0, none⟩) 3 3) :: u11 :: u12 :: u13 :: u14 :: u15 :: u16 :: u17 :: u18 :: u19 :: u20 :: u21 :: u22 :: u23 :: u24 :: u25 :: u26 :: u27 :: u28 :: u29 :: u30 :: u31 :: u32 :: u33 :: u34 :: u35 :: u36 :: u37 :: u38 :: u39 :: u40 :: u41 :: u42 :: u43 :: u44 :: u45 :: u46 :: u47 :: u48 :: u49 :: u50 :: u51 :: u52 :: u53 :: u54 :: u55 :: u56 :: u57 :: u58 :: u59 :: (.int .i64 3) :: (.int .i64 ((0 : Nat) : Int)) :: u62 :: u63 :: u64 :: u65 :: u66 :: u67 :: u68 :: u69 :: u70 :: u71 :: u72 :: u73 :: u74 :: u75 :: u76 :: u77 :: u78 :: u79 :: u80 :: u81 :: u82 :: u83 :: u84 :: u85 :: u86 :: u87 :: u88 :: u89 :: u90 :: u91 :: u92 :: u93 :: u94 :: u95 :: u96 :: u97 :: u98 :: u99 :: u100 :: u101 :: u102 :: u103 :: u104 :: u105 :: u106 :: u107 :: u108 :: u109 :: u110 :: u111 :: u112 :: u113 :: u114 :: u115 :: u116 :: u117 :: u118 :: u119 :: u120 :: u121 :: u122 :: u123 :: u124 :: u125 :: u126 :: u127 :: u128 :: u129 :: u130 :: u131 :: u132 :: []), []⟩ w := by
  refine wp_loop_ghost (fun gk a V => ∀ C : Prop, (∀ (u11 u62 u63 u64 u65 u66 u67 u68 u69 u70 u71 u72 : Value) (j : Nat), gk = 3 - j → (j ≤ 3 ∧ KS W0 V b H M [(gl, Obj.cells (lv.map Value.bool).toArray 4 (0, 0)), (gh, Obj.cells (hv3 (hU lv (i + 1) fh j)) 27 (0, 0)), (ga, Obj.cells #[.bool true, .bool true, .bool true] 4 (0, 0))] [] []) → a = ⟨List.toArray ((.slice A zs.length cl) :: (.slice A2 ms.length cl2) :: u2 :: u3 :: (.bool false) :: (.pointer (some ⟨b, 0, none⟩)) :: u6 :: (.pointer (some ⟨gh, 0, none⟩)) :: (.slice (some ⟨ga, 0, none⟩) 3 3) :: (.int .i64 ((i : Nat) : Int)) :: (.slice (some ⟨gl, 0, none⟩) 3 3) :: u11 :: u12 :: u13 :: u14 :: u15 :: u16 :: u17 :: u18 :: u19 :: u20 :: u21 :: u22 :: u23 :: u24 :: u25 :: u26 :: u27 :: u28 :: u29 :: u30 :: u31 :: u32 :: u33 :: u34 :: u35 :: u36 :: u37 :: u38 :: u39 :: u40 :: u41 :: u42 :: u43 :: u44 :: u45 :: u46 :: u47 :: u48 :: u49 :: u50 :: u51 :: u52 :: u53 :: u54 :: u55 :: u56 :: u57 :: u58 :: u59 :: (.int .i64 3) :: (.int .i64 ((j : Nat) : Int)) :: u62 :: u63 :: u64 :: u65 :: u66 :: u67 :: u68 :: u69 :: u70 :: u71 :: u72 :: u73 :: u74 :: u75 :: u76 :: u77 :: u78 :: u79 :: u80 :: u81 :: u82 :: u83 :: u84 :: u85 :: u86 :: u87 :: u88 :: u89 :: u90 :: u91 :: u92 :: u93 :: u94 :: u95 :: u96 :: u97 :: u98 :: u99 :: u100 :: u101 :: u102 :: u103 :: u104 :: u105 :: u106 :: u107 :: u108 :: u109 :: u110 :: u111 :: u112 :: u113 :: u114 :: u115 :: u116 :: u117 :: u118 :: u119 :: u120 :: u121 :: u122 :: u123 :: u124 :: u125 :: u126 :: u127 :: u128 :: u129 :: u130 :: u131 :: u132 :: []), []⟩ → C) → C) (3 - 0) ?_ ?_
  · intro C hC
    exact hC _ _ _ _ _ _ _ _ _ _ _ _ (0) rfl hI rfl
  · intro gk a V hI'
    refine hI' _ ?_
    intro u11 u62 u63 u64 u65 u66 u67 u68 u69 u70 u71 u72 j hk hinv ha
    subst ha
    subst hk
    refine bnBb _ _ _ _ _ _ _ _ _ _ _ _ _ _ _ _ _ _ _ _ _ _ _ _ _ _ _ _ _ _ _ _ _ _ _ _ _ _ _ _ _ _ _ _ _ _ _ _ _ _ _ _ _ _ _ _ _ _ _ _ _ _ _ _ _ _ _ _ _ _ _ _ _ _ _ _ _ _ _ _ _ _ _ _ _ _ _ _ _ _ _ _ _ _ _ _ _ _ _ _ _ _ _ _ _ _ _ _ _ _ _ _ _ _ _ _ _ _ _ _ _ _ _ _ _ hlv n1 n2 hi hinv (fun v11 v62 v63 v64 v65 v66 v67 v68 v69 v70 v71 v72  V2 h2 hm => ?_) (fun v11 v62 v63 v64 v65 v66 v67 v68 v69 v70 v71 v72 hx => hX v11 v62 v63 v64 v65 v66 v67 v68 v69 v70 v71 v72 j V hinv hx)
    refine ⟨_, hm, fun C hC => ?_⟩
    exact hC v11 v62 v63 v64 v65 v66 v67 v68 v69 v70 v71 v72 ((j + 1)) rfl h2 rfl
set_option maxRecDepth 100000 in
set_option maxHeartbeats 3200000 in
theorem bnAb {W0 : World} {A A2 : Option Addr} {zs ms : List Int} {cl cl2 b gh ga : Nat} {i : Nat} {fh : Nat → Nat} {H : BH} {N : Bch} {w : World} (u2 u3 u6 u10 u11 u12 u13 u14 u15 u16 u17 u18 u19 u20 u21 u22 u23 u24 u25 u26 u27 u28 u29 u30 u31 u32 u33 u34 u35 u36 u37 u38 u39 u40 u41 u42 u43 u44 u45 u46 u47 u48 u49 u50 u51 u52 u53 u54 u55 u56 u57 u58 u59 u60 u61 u62 u63 u64 u65 u66 u67 u68 u69 u70 u71 u72 u73 u74 u75 u76 u77 u78 u79 u80 u81 u82 u83 u84 u85 u86 u87 u88 u89 u90 u91 u92 u93 u94 u95 u96 u97 u98 u99 u100 u101 u102 u103 u104 u105 u106 u107 u108 u109 u110 u111 u112 u113 u114 u115 u116 u117 u118 u119 u120 u121 u122 u123 u124 u125 u126 u127 u128 u129 u130 u131 u132 : Value) (K : Act → World → Prop) (Q0 : Exit → Act → World → Prop) (hcl : zs.length ≤ cl) (hz : RdZ W0 W0.heap.size A zs) (hm : RdZ W0 W0.heap.size A2 ms) (ht : TabOk W0) (n2 : ga ≠ gh) (hI : (i ≤ 10 ∧ KS W0 w b H N [(gh, Obj.cells (hv3 fh) 27 (0, 0)), (ga, Obj.cells #[.bool true, .bool true, .bool true] 4 (0, 0))] [] [] ∧ Cl N 3 ∧ N.done ≤ 12 * i ∧ Nst N fh i zs))
    (hK : ∀ (v10 v11 v29 v30 v31 v32 v33 v34 v35 v36 v37 v38 v39 v40 v41 v42 v43 v44 v45 v46 v47 v48 v49 v50 v51 v52 v53 v54 v55 v56 v57 v58 v59 v60 v61 v62 v63 v64 v65 v66 v67 v68 v69 v70 v71 v72 : Value) (fh2 : Nat → Nat) (H2 : BH) (N2 : Bch) (V : World), ((i + 1) ≤ 10 ∧ KS W0 V b H2 N2 [(gh, Obj.cells (hv3 fh2) 27 (0, 0)), (ga, Obj.cells #[.bool true, .bool true, .bool true] 4 (0, 0))] [] [] ∧ Cl N2 3 ∧ N2.done ≤ 12 * (i + 1) ∧ Nst N2 fh2 (i + 1) zs) → 10 - (i + 1) < 10 - i → K ⟨List.toArray ((.slice A zs.length cl) :: (.slice A2 ms.length cl2) :: u2 :: u3 :: (.bool false) :: (.pointer (some ⟨b, 0, none⟩)) :: u6 :: (.pointer (some ⟨gh, 0, none⟩)) :: (.slice (some ⟨ga, 0, none⟩) 3 3) :: (.int .i64 (((i + 1) : Nat) : Int)) :: v10 :: v11 :: u12 :: u13 :: u14 :: u15 :: u16 :: u17 :: u18 :: u19 :: u20 :: u21 :: u22 :: u23 :: u24 :: u25 :: u26 :: u27 :: u28 :: v29 :: v30 :: v31 :: v32 :: v33 :: v34 :: v35 :: v36 :: v37 :: v38 :: v39 :: v40 :: v41 :: v42 :: v43 :: v44 :: v45 :: v46 :: v47 :: v48 :: v49 :: v50 :: v51 :: v52 :: v53 :: v54 :: v55 :: v56 :: v57 :: v58 :: v59 :: v60 :: v61 :: v62 :: v63 :: v64 :: v65 :: v66 :: v67 :: v68 :: v69 :: v70 :: v71 :: v72 :: u73 :: u74 :: u75 :: u76 :: u77 :: u78 :: u79 :: u80 :: u81 :: u82 :: u83 :: u84 :: u85 :: u86 :: u87 :: u88 :: u89 :: u90 :: u91 :: u92 :: u93 :: u94 :: u95 :: u96 :: u97 :: u98 :: u99 :: u100 :: u101 :: u102 :: u103 :: u104 :: u105 :: u106 :: u107 :: u108 :: u109 :: u110 :: u111 :: u112 :: u113 :: u114 :: u115 :: u116 :: u117 :: u118 :: u119 :: u120 :: u121 :: u122 :: u123 :: u124 :: u125 :: u126 :: u127 :: u128 :: u129 :: u130 :: u131 :: u132 :: []), []⟩ V)
    (hX : ∀ (v10 v11 v29 v30 v31 v32 v33 v34 v35 v36 v37 v38 v39 v40 v41 v42 v43 v44 v45 v46 v47 v48 v49 v50 v51 v52 v53 v54 v55 v56 v57 v58 v59 v60 v61 v62 v63 v64 v65 v66 v67 v68 v69 v70 v71 v72 : Value), (True) → Q0 (.exit 0) ⟨List.toArray ((.slice A zs.length cl) :: (.slice A2 ms.length cl2) :: u2 :: u3 :: (.bool false) :: (.pointer (some ⟨b, 0, none⟩)) :: u6 :: (.pointer (some ⟨gh, 0, none⟩)) :: (.slice (some ⟨ga, 0, none⟩) 3 3) :: (.int .i64 ((i : Nat) : Int)) :: v10 :: v11 :: u12 :: u13 :: u14 :: u15 :: u16 :: u17 :: u18 :: u19 :: u20 :: u21 :: u22 :: u23 :: u24 :: u25 :: u26 :: u27 :: u28 :: v29 :: v30 :: v31 :: v32 :: v33 :: v34 :: v35 :: v36 :: v37 :: v38 :: v39 :: v40 :: v41 :: v42 :: v43 :: v44 :: v45 :: v46 :: v47 :: v48 :: v49 :: v50 :: v51 :: v52 :: v53 :: v54 :: v55 :: v56 :: v57 :: v58 :: v59 :: v60 :: v61 :: v62 :: v63 :: v64 :: v65 :: v66 :: v67 :: v68 :: v69 :: v70 :: v71 :: v72 :: u73 :: u74 :: u75 :: u76 :: u77 :: u78 :: u79 :: u80 :: u81 :: u82 :: u83 :: u84 :: u85 :: u86 :: u87 :: u88 :: u89 :: u90 :: u91 :: u92 :: u93 :: u94 :: u95 :: u96 :: u97 :: u98 :: u99 :: u100 :: u101 :: u102 :: u103 :: u104 :: u105 :: u106 :: u107 :: u108 :: u109 :: u110 :: u111 :: u112 :: u113 :: u114 :: u115 :: u116 :: u117 :: u118 :: u119 :: u120 :: u121 :: u122 :: u123 :: u124 :: u125 :: u126 :: u127 :: u128 :: u129 :: u130 :: u131 :: u132 :: []), []⟩ w) :
    Code.wp Tryd.prog (sub [1, 1, 1, 1, 1, 0, 1, 0, 0] codeBN) (Exit.then K Q0) ⟨List.toArray ((.slice A zs.length cl) :: (.slice A2 ms.length cl2) :: u2 :: u3 :: (.bool false) :: (.pointer (some ⟨b, 0, none⟩)) :: u6 :: (.pointer (some ⟨gh, 0, none⟩)) :: (.slice (some ⟨ga, 0, none⟩) 3 3) :: (.int .i64 ((i : Nat) : Int)) :: u10 :: u11 :: u12 :: u13 :: u14 :: u15 :: u16 :: u17 :: u18 :: u19 :: u20 :: u21 :: u22 :: u23 :: u24 :: u25 :: u26 :: u27 :: u28 :: u29 :: u30 :: u31 :: u32 :: u33 :: u34 :: u35 :: u36 :: u37 :: u38 :: u39 :: u40 :: u41 :: u42 :: u43 :: u44 :: u45 :: u46 :: u47 :: u48 :: u49 :: u50 :: u51 :: u52 :: u53 :: u54 :: u55 :: u56 :: u57 :: u58 :: u59 :: u60 :: u61 :: u62 :: u63 :: u64 :: u65 :: u66 :: u67 :: u68 :: u69 :: u70 :: u71 :: u72 :: u73 :: u74 :: u75 :: u76 :: u77 :: u78 :: u79 :: u80 :: u81 :: u82 :: u83 :: u84 :: u85 :: u86 :: u87 :: u88 :: u89 :: u90 :: u91 :: u92 :: u93 :: u94 :: u95 :: u96 :: u97 :: u98 :: u99 :: u100 :: u101 :: u102 :: u103 :: u104 :: u105 :: u106 :: u107 :: u108 :: u109 :: u110 :: u111 :: u112 :: u113 :: u114 :: u115 :: u116 :: u117 :: u118 :: u119 :: u120 :: u121 :: u122 :: u123 :: u124 :: u125 :: u126 :: u127 :: u128 :: u129 :: u130 :: u131 :: u132 :: []), []⟩ w := by
  have HK := Lib.hid hK
  have HX := Lib.hid hX
  clear hK hX
  conv => arg 2; whnf
  obtain ⟨hi, hk, hc, hd, hs⟩ := hI
  have HCl := Lib.hid hcl
  have Hz := Lib.hid hz
  have Hm := Lib.hid hm
  have Ht := Lib.hid ht
  have hml := hm.1
  by_cases hlm : i < ms.length
  · by_cases hlt : i < 10
    · have i0 : (0 : Int) ≤ (i : Int) := by omega
      have i1 : (i : Int) < 10 := by omega
      have i2 : (i : Int) < (ms.length : Int) := by omega
      obtain ⟨ab, ao, rfl, hab, hac⟩ := (hk.rdz hm).2.2 (by omega)
      have hcell := hac i hlm
      have hxb := hm.bd i
      generalize ms.getD i 0 = x at hcell hxb
      clear hac
      have HKs := Lib.hid hk
      have CL := Lib.hid (ks_live hk x 3 hxb (by omega))
      rw [show ((3 : Nat) : Int) = 3 from rfl] at CL
      obtain ⟨M, hM⟩ := nst_put hc hs hlt (liveL x 3)
      have HM := Lib.hid hM
      have Hdl := Lib.hid (datB_len zs i)
      have Hps := Lib.hid (show ∀ d, d < N.n → (N.D d).ps.length ≤ 1999000 from fun d _ => by rw [hc.ps d]; exact Nat.zero_le _)
      have Hdn := Lib.hid (show N.done ≤ 1999000 by omega)
      have Hd0 := Lib.hid hd
      have hzl := hz.1
      obtain ⟨q, hq⟩ : ∃ q, i % 3 = q := ⟨_, rfl⟩
      have hq3 : q < 3 := by omega
      have r1 : (i : Int).tmod 3 = (q : Int) := by rw [Int.tmod_eq_emod_of_nonneg i0]; omega
      have r2 : (i : Int) % 3 = (q : Int) := by omega
      rw [hq] at Hdl
      have HDt : Hid (datB zs i = sectorsB (zs.drop (min i zs.length)) (1 + i % 3)) := rfl
      rw [hq] at HDt
      generalize datB zs i = ds at HM Hdl HDt
      have CS0 := Lib.hid (fun (m : Nat) (V : World) (b : Nat) (H : BH) (N : Bch) (K : List (Nat × Obj)) (R : List (Option Addr × List (List UInt8))) (S : List (Option Addr × List UInt8)) (h : KS W0 V b H N K R S) => ks_sectors h (A := if cl = m then A else A.map (·.add m)) (zs := zs.drop m) (zs.length - m) (cl - m) (1 + q) (by simp) (hz.drop m cl hcl) (by omega))
      rw [show ((1 + q : Nat) : Int) = 1 + (q : Int) by omega] at CS0
      clear hk hc hd hs hM hz hm hq hab HX hxb
      by_cases hmn : zs.length < i
      · have CS := Lib.hid (CS0.out zs.length)
        rw [show min i zs.length = zs.length by omega] at HDt
        rw [← HDt.out] at CS
        have i3 : (zs.length : Int) < (i : Int) := by omega
        have k2 : (zs.length : Int) ≤ (cl : Int) := by omega
        clear CS0 HDt
        by_cases hck : cl = zs.length
        · subst hck
          rw [if_pos rfl, Nat.sub_self] at CS
          go_wp2_with fail
          (with_reducible refine CL.out.mono ?_); rintro e w1 ⟨gl, rfl, k1⟩
          have K1 := Lib.hid k1
          have hgl : gl ≠ gh := fun e2 => by
            subst e2
            have h1 := (k1.kx.kp _ (List.mem_cons_self ..)).1
            have h2 := (k1.kx.kp (gl, Obj.cells (hv3 fh) 27 (0, 0)) (by simp)).1
            dsimp only at h1 h2
            rw [h1] at h2
            injection h2 with h2
            injection h2 with _ h3 _
            exact absurd h3 (by decide)
          have Hgl := Lib.hid hgl
          clear CL k1 HKs hgl
          have C1 := Lib.hid (CS.out _ _ _ _ _ _ _ K1.out)
          clear CS
          go_wp2_with fail
          (with_reducible refine C1.out.mono ?_); rintro e w2 ⟨A5, c5, rfl, k2⟩
          have K2 := Lib.hid k2
          have C2 := Lib.hid (ks_bput K2.out (liveL x 3) (some ⟨gl, 0, none⟩) 3 3 (liveL_len _ _).symm (k2.lv (g := gl) (lv := liveL x 3) (t := 4) (f := (0, 0)) (by simp) rfl (by rw [liveL_len]; omega)) 1 (i : Int) (by omega) (by omega) (A2 := A5) (ds := ds) (1 + q) c5 Hdl.out (by omega) (k2.rx _ (List.mem_cons_self ..)) Hps.out Hdn.out Ht.out)
          rw [HM.out.1] at C2
          clear C1 k2 K1 Hps Hdn
          go_wp2_with fail
          (with_reducible refine C2.out.mono ?_); rintro e w3 ⟨rfl, H3, k3⟩
          have K3 := Lib.hid (k3.less (R' := []) (S' := []) (fun p hp => hp) (fun p hp => by cases hp) (fun p hp => by cases hp))
          clear k3 C2 K2
          go_upto_block 2 with fail
          refine wp_block ?_
          refine bnB _ _ _ _ _ _ _ _ _ _ _ _ _ _ _ _ _ _ _ _ _ _ _ _ _ _ _ _ _ _ _ _ _ _ _ _ _ _ _ _ _ _ _ _ _ _ _ _ _ _ _ _ _ _ _ _ _ _ _ _ _ _ _ _ _ _ _ _ _ _ _ _ _ _ _ _ _ _ _ _ _ _ _ _ _ _ _ _ _ _ _ _ _ _ _ _ _ _ _ _ _ _ _ _ _ _ _ _ _ _ _ _ _ _ _ _ _ _ _ _ _ _ _ _ (lv := liveL x 3) (fh := fh) (liveL_len _ _) Hgl.out n2 hlt ⟨Nat.zero_le _, by rw [hU_zero]; exact K3.out⟩ (fun v11 v62 v63 v64 v65 v66 v67 v68 v69 v70 v71 v72 j V2 hI2 hx2 => ?_)
          have hk2 := hI2.2
          rw [hx2] at hk2
          have K4 := Lib.hid (hk2.less (K' := [(gh, Obj.cells (hv3 (hU (liveL x 3) (i + 1) fh 3)) 27 (0, 0)), (ga, Obj.cells #[.bool true, .bool true, .bool true] 4 (0, 0))] ) (R' := []) (S' := []) (fun p hp => List.mem_cons_of_mem _ hp) (fun p hp => hp) (fun p hp => hp))
          clear hI2 hx2 hk2 K3
          go_wp2_with fail
          exact HK.out _ _ _ _ _ _ _ _ _ _ _ _ _ _ _ _ _ _ _ _ _ _ _ _ _ _ _ _ _ _ _ _ _ _ _ _ _ _ _ _ _ _ _ _ _ _ _ H3 M _ ⟨by omega, K4.out, HM.out.2.1, by have := HM.out.2.2.1; have := Hd0.out; omega, HM.out.2.2.2⟩ (by omega)
        · rw [if_neg hck, Nat.sub_self] at CS
          go_wp2_with fail
          (with_reducible refine CL.out.mono ?_); rintro e w1 ⟨gl, rfl, k1⟩
          have K1 := Lib.hid k1
          have hgl : gl ≠ gh := fun e2 => by
            subst e2
            have h1 := (k1.kx.kp _ (List.mem_cons_self ..)).1
            have h2 := (k1.kx.kp (gl, Obj.cells (hv3 fh) 27 (0, 0)) (by simp)).1
            dsimp only at h1 h2
            rw [h1] at h2
            injection h2 with h2
            injection h2 with _ h3 _
            exact absurd h3 (by decide)
          have Hgl := Lib.hid hgl
          clear CL k1 HKs hgl
          have C1 := Lib.hid (CS.out _ _ _ _ _ _ _ K1.out)
          clear CS
          go_wp2_with fail
          (with_reducible refine C1.out.mono ?_); rintro e w2 ⟨A5, c5, rfl, k2⟩
          have K2 := Lib.hid k2
          have C2 := Lib.hid (ks_bput K2.out (liveL x 3) (some ⟨gl, 0, none⟩) 3 3 (liveL_len _ _).symm (k2.lv (g := gl) (lv := liveL x 3) (t := 4) (f := (0, 0)) (by simp) rfl (by rw [liveL_len]; omega)) 1 (i : Int) (by omega) (by omega) (A2 := A5) (ds := ds) (1 + q) c5 Hdl.out (by omega) (k2.rx _ (List.mem_cons_self ..)) Hps.out Hdn.out Ht.out)
          rw [HM.out.1] at C2
          clear C1 k2 K1 Hps Hdn
          go_wp2_with fail
          (with_reducible refine C2.out.mono ?_); rintro e w3 ⟨rfl, H3, k3⟩
          have K3 := Lib.hid (k3.less (R' := []) (S' := []) (fun p hp => hp) (fun p hp => by cases hp) (fun p hp => by cases hp))
          clear k3 C2 K2
          go_upto_block 2 with fail
          refine wp_block ?_
          refine bnB _ _ _ _ _ _ _ _ _ _ _ _ _ _ _ _ _ _ _ _ _ _ _ _ _ _ _ _ _ _ _ _ _ _ _ _ _ _ _ _ _ _ _ _ _ _ _ _ _ _ _ _ _ _ _ _ _ _ _ _ _ _ _ _ _ _ _ _ _ _ _ _ _ _ _ _ _ _ _ _ _ _ _ _ _ _ _ _ _ _ _ _ _ _ _ _ _ _ _ _ _ _ _ _ _ _ _ _ _ _ _ _ _ _ _ _ _ _ _ _ _ _ _ _ (lv := liveL x 3) (fh := fh) (liveL_len _ _) Hgl.out n2 hlt ⟨Nat.zero_le _, by rw [hU_zero]; exact K3.out⟩ (fun v11 v62 v63 v64 v65 v66 v67 v68 v69 v70 v71 v72 j V2 hI2 hx2 => ?_)
          have hk2 := hI2.2
          rw [hx2] at hk2
          have K4 := Lib.hid (hk2.less (K' := [(gh, Obj.cells (hv3 (hU (liveL x 3) (i + 1) fh 3)) 27 (0, 0)), (ga, Obj.cells #[.bool true, .bool true, .bool true] 4 (0, 0))] ) (R' := []) (S' := []) (fun p hp => List.mem_cons_of_mem _ hp) (fun p hp => hp) (fun p hp => hp))
          clear hI2 hx2 hk2 K3
          go_wp2_with fail
          exact HK.out _ _ _ _ _ _ _ _ _ _ _ _ _ _ _ _ _ _ _ _ _ _ _ _ _ _ _ _ _ _ _ _ _ _ _ _ _ _ _ _ _ _ _ _ _ _ _ H3 M _ ⟨by omega, K4.out, HM.out.2.1, by have := HM.out.2.2.1; have := Hd0.out; omega, HM.out.2.2.2⟩ (by omega)
      · have CS := Lib.hid (CS0.out i)
        rw [show min i zs.length = i by omega] at HDt
        rw [← HDt.out] at CS
        have i3 : ¬ (zs.length : Int) < (i : Int) := by omega
        have k1 : (i : Int) ≤ (zs.length : Int) := by omega
        have k2 : (i : Int) ≤ (cl : Int) := by omega
        clear CS0 HDt
        by_cases hck : cl = i
        · have hck2 := hck.symm
          subst hck2
          rw [if_pos rfl, show zs.length - i = 0 by omega, Nat.sub_self] at CS
          go_wp2_with fail
          (with_reducible refine CL.out.mono ?_); rintro e w1 ⟨gl, rfl, k1⟩
          have K1 := Lib.hid k1
          have hgl : gl ≠ gh := fun e2 => by
            subst e2
            have h1 := (k1.kx.kp _ (List.mem_cons_self ..)).1
            have h2 := (k1.kx.kp (gl, Obj.cells (hv3 fh) 27 (0, 0)) (by simp)).1
            dsimp only at h1 h2
            rw [h1] at h2
            injection h2 with h2
            injection h2 with _ h3 _
            exact absurd h3 (by decide)
          have Hgl := Lib.hid hgl
          clear CL k1 HKs hgl
          have C1 := Lib.hid (CS.out _ _ _ _ _ _ _ K1.out)
          clear CS
          go_wp2_with fail
          (with_reducible refine C1.out.mono ?_); rintro e w2 ⟨A5, c5, rfl, k2⟩
          have K2 := Lib.hid k2
          have C2 := Lib.hid (ks_bput K2.out (liveL x 3) (some ⟨gl, 0, none⟩) 3 3 (liveL_len _ _).symm (k2.lv (g := gl) (lv := liveL x 3) (t := 4) (f := (0, 0)) (by simp) rfl (by rw [liveL_len]; omega)) 1 (i : Int) (by omega) (by omega) (A2 := A5) (ds := ds) (1 + q) c5 Hdl.out (by omega) (k2.rx _ (List.mem_cons_self ..)) Hps.out Hdn.out Ht.out)
          rw [HM.out.1] at C2
          clear C1 k2 K1 Hps Hdn
          go_wp2_with fail
          (with_reducible refine C2.out.mono ?_); rintro e w3 ⟨rfl, H3, k3⟩
          have K3 := Lib.hid (k3.less (R' := []) (S' := []) (fun p hp => hp) (fun p hp => by cases hp) (fun p hp => by cases hp))
          clear k3 C2 K2
          go_upto_block 2 with fail
          refine wp_block ?_
          refine bnB _ _ _ _ _ _ _ _ _ _ _ _ _ _ _ _ _ _ _ _ _ _ _ _ _ _ _ _ _ _ _ _ _ _ _ _ _ _ _ _ _ _ _ _ _ _ _ _ _ _ _ _ _ _ _ _ _ _ _ _ _ _ _ _ _ _ _ _ _ _ _ _ _ _ _ _ _ _ _ _ _ _ _ _ _ _ _ _ _ _ _ _ _ _ _ _ _ _ _ _ _ _ _ _ _ _ _ _ _ _ _ _ _ _ _ _ _ _ _ _ _ _ _ _ (lv := liveL x 3) (fh := fh) (liveL_len _ _) Hgl.out n2 hlt ⟨Nat.zero_le _, by rw [hU_zero]; exact K3.out⟩ (fun v11 v62 v63 v64 v65 v66 v67 v68 v69 v70 v71 v72 j V2 hI2 hx2 => ?_)
          have hk2 := hI2.2
          rw [hx2] at hk2
          have K4 := Lib.hid (hk2.less (K' := [(gh, Obj.cells (hv3 (hU (liveL x 3) (i + 1) fh 3)) 27 (0, 0)), (ga, Obj.cells #[.bool true, .bool true, .bool true] 4 (0, 0))] ) (R' := []) (S' := []) (fun p hp => List.mem_cons_of_mem _ hp) (fun p hp => hp) (fun p hp => hp))
          clear hI2 hx2 hk2 K3
          go_wp2_with fail
          exact HK.out _ _ _ _ _ _ _ _ _ _ _ _ _ _ _ _ _ _ _ _ _ _ _ _ _ _ _ _ _ _ _ _ _ _ _ _ _ _ _ _ _ _ _ _ _ _ _ H3 M _ ⟨by omega, K4.out, HM.out.2.1, by have := HM.out.2.2.1; have := Hd0.out; omega, HM.out.2.2.2⟩ (by omega)
        · rw [if_neg hck] at CS
          go_wp2_with fail
          (with_reducible refine CL.out.mono ?_); rintro e w1 ⟨gl, rfl, k1⟩
          have K1 := Lib.hid k1
          have hgl : gl ≠ gh := fun e2 => by
            subst e2
            have h1 := (k1.kx.kp _ (List.mem_cons_self ..)).1
            have h2 := (k1.kx.kp (gl, Obj.cells (hv3 fh) 27 (0, 0)) (by simp)).1
            dsimp only at h1 h2
            rw [h1] at h2
            injection h2 with h2
            injection h2 with _ h3 _
            exact absurd h3 (by decide)
          have Hgl := Lib.hid hgl
          clear CL k1 HKs hgl
          have C1 := Lib.hid (CS.out _ _ _ _ _ _ _ K1.out)
          clear CS
          go_wp2_with fail
          (with_reducible refine C1.out.mono ?_); rintro e w2 ⟨A5, c5, rfl, k2⟩
          have K2 := Lib.hid k2
          have C2 := Lib.hid (ks_bput K2.out (liveL x 3) (some ⟨gl, 0, none⟩) 3 3 (liveL_len _ _).symm (k2.lv (g := gl) (lv := liveL x 3) (t := 4) (f := (0, 0)) (by simp) rfl (by rw [liveL_len]; omega)) 1 (i : Int) (by omega) (by omega) (A2 := A5) (ds := ds) (1 + q) c5 Hdl.out (by omega) (k2.rx _ (List.mem_cons_self ..)) Hps.out Hdn.out Ht.out)
          rw [HM.out.1] at C2
          clear C1 k2 K1 Hps Hdn
          go_wp2_with fail
          (with_reducible refine C2.out.mono ?_); rintro e w3 ⟨rfl, H3, k3⟩
          have K3 := Lib.hid (k3.less (R' := []) (S' := []) (fun p hp => hp) (fun p hp => by cases hp) (fun p hp => by cases hp))
          clear k3 C2 K2
          go_upto_block 2 with fail
          refine wp_block ?_
          refine bnB _ _ _ _ _ _ _ _ _ _ _ _ _ _ _ _ _ _ _ _ _ _ _ _ _ _ _ _ _ _ _ _ _ _ _ _ _ _ _ _ _ _ _ _ _ _ _ _ _ _ _ _ _ _ _ _ _ _ _ _ _ _ _ _ _ _ _ _ _ _ _ _ _ _ _ _ _ _ _ _ _ _ _ _ _ _ _ _ _ _ _ _ _ _ _ _ _ _ _ _ _ _ _ _ _ _ _ _ _ _ _ _ _ _ _ _ _ _ _ _ _ _ _ _ (lv := liveL x 3) (fh := fh) (liveL_len _ _) Hgl.out n2 hlt ⟨Nat.zero_le _, by rw [hU_zero]; exact K3.out⟩ (fun v11 v62 v63 v64 v65 v66 v67 v68 v69 v70 v71 v72 j V2 hI2 hx2 => ?_)
          have hk2 := hI2.2
          rw [hx2] at hk2
          have K4 := Lib.hid (hk2.less (K' := [(gh, Obj.cells (hv3 (hU (liveL x 3) (i + 1) fh 3)) 27 (0, 0)), (ga, Obj.cells #[.bool true, .bool true, .bool true] 4 (0, 0))] ) (R' := []) (S' := []) (fun p hp => List.mem_cons_of_mem _ hp) (fun p hp => hp) (fun p hp => hp))
          clear hI2 hx2 hk2 K3
          go_wp2_with fail
          exact HK.out _ _ _ _ _ _ _ _ _ _ _ _ _ _ _ _ _ _ _ _ _ _ _ _ _ _ _ _ _ _ _ _ _ _ _ _ _ _ _ _ _ _ _ _ _ _ _ H3 M _ ⟨by omega, K4.out, HM.out.2.1, by have := HM.out.2.2.1; have := Hd0.out; omega, HM.out.2.2.2⟩ (by omega)
    · have i1 : ¬ (i : Int) < 10 := by omega
      have i2 : (i : Int) < (ms.length : Int) := by omega
      clear HK hk
      go_wp2_with fail
      exact HX.out _ _ _ _ _ _ _ _ _ _ _ _ _ _ _ _ _ _ _ _ _ _ _ _ _ _ _ _ _ _ _ _ _ _ _ _ _ _ _ _ _ _ _ _ _ _ trivial
  · have i2 : ¬ (i : Int) < (ms.length : Int) := by omega
    clear HK hk
    go_wp2_with fail
    exact HX.out _ _ _ _ _ _ _ _ _ _ _ _ _ _ _ _ _ _ _ _ _ _ _ _ _ _ _ _ _ _ _ _ _ _ _ _ _ _ _ _ _ _ _ _ _ _ trivial
set_option maxRecDepth 100000 in
set_option maxHeartbeats 3200000 in
theorem bnA {W0 : World} {A A2 : Option Addr} {zs ms : List Int} {cl cl2 b gh ga : Nat} {fh0 : Nat → Nat} {H0 : BH} {N0 : Bch} {w : World} (u2 u3 u6 u10 u11 u12 u13 u14 u15 u16 u17 u18 u19 u20 u21 u22 u23 u24 u25 u26 u27 u28 u29 u30 u31 u32 u33 u34 u35 u36 u37 u38 u39 u40 u41 u42 u43 u44 u45 u46 u47 u48 u49 u50 u51 u52 u53 u54 u55 u56 u57 u58 u59 u60 u61 u62 u63 u64 u65 u66 u67 u68 u69 u70 u71 u72 u73 u74 u75 u76 u77 u78 u79 u80 u81 u82 u83 u84 u85 u86 u87 u88 u89 u90 u91 u92 u93 u94 u95 u96 u97 u98 u99 u100 u101 u102 u103 u104 u105 u106 u107 u108 u109 u110 u111 u112 u113 u114 u115 u116 u117 u118 u119 u120 u121 u122 u123 u124 u125 u126 u127 u128 u129 u130 u131 u132 : Value) (Q : Exit → Act → World → Prop) (hcl : zs.length ≤ cl) (hz : RdZ W0 W0.heap.size A zs) (hm : RdZ W0 W0.heap.size A2 ms) (ht : TabOk W0) (n2 : ga ≠ gh) (hI : (0 ≤ 10 ∧ KS W0 w b H0 N0 [(gh, Obj.cells (hv3 fh0) 27 (0, 0)), (ga, Obj.cells #[.bool true, .bool true, .bool true] 4 (0, 0))] [] [] ∧ Cl N0 3 ∧ N0.done ≤ 12 * 0 ∧ Nst N0 fh0 0 zs))
    (hX : ∀ (v10 v11 v29 v30 v31 v32 v33 v34 v35 v36 v37 v38 v39 v40 v41 v42 v43 v44 v45 v46 v47 v48 v49 v50 v51 v52 v53 v54 v55 v56 v57 v58 v59 v60 v61 v62 v63 v64 v65 v66 v67 v68 v69 v70 v71 v72 : Value) (i : Nat) (fh : Nat → Nat) (H : BH) (N : Bch) (V : World), (i ≤ 10 ∧ KS W0 V b H N [(gh, Obj.cells (hv3 fh) 27 (0, 0)), (ga, Obj.cells #[.bool true, .bool true, .bool true] 4 (0, 0))] [] [] ∧ Cl N 3 ∧ N.done ≤ 12 * i ∧ Nst N fh i zs) → (True) → Q (.exit 0) ⟨List.toArray ((.slice A zs.length cl) :: (.slice A2 ms.length cl2) :: u2 :: u3 :: (.bool false) :: (.pointer (some ⟨b, 0, none⟩)) :: u6 :: (.pointer (some ⟨gh, 0, none⟩)) :: (.slice (some ⟨ga, 0, none⟩) 3 3) :: (.int .i64 ((i : Nat) : Int)) :: v10 :: v11 :: u12 :: u13 :: u14 :: u15 :: u16 :: u17 :: u18 :: u19 :: u20 :: u21 :: u22 :: u23 :: u24 :: u25 :: u26 :: u27 :: u28 :: v29 :: v30 :: v31 :: v32 :: v33 :: v34 :: v35 :: v36 :: v37 :: v38 :: v39 :: v40 :: v41 :: v42 :: v43 :: v44 :: v45 :: v46 :: v47 :: v48 :: v49 :: v50 :: v51 :: v52 :: v53 :: v54 :: v55 :: v56 :: v57 :: v58 :: v59 :: v60 :: v61 :: v62 :: v63 :: v64 :: v65 :: v66 :: v67 :: v68 :: v69 :: v70 :: v71 :: v72 :: u73 :: u74 :: u75 :: u76 :: u77 :: u78 :: u79 :: u80 :: u81 :: u82 :: u83 :: u84 :: u85 :: u86 :: u87 :: u88 :: u89 :: u90 :: u91 :: u92 :: u93 :: u94 :: u95 :: u96 :: u97 :: u98 :: u99 :: u100 :: u101 :: u102 :: u103 :: u104 :: u105 :: u106 :: u107 :: u108 :: u109 :: u110 :: u111 :: u112 :: u113 :: u114 :: u115 :: u116 :: u117 :: u118 :: u119 :: u120 :: u121 :: u122 :: u123 :: u124 :: u125 :: u126 :: u127 :: u128 :: u129 :: u130 :: u131 :: u132 :: []), []⟩ V) :
    Code.wp Tryd.prog (.loop (sub [1, 1, 1, 1, 1, 0, 1, 0, 0] codeBN)) Q ⟨List.toArray ((.slice A zs.length cl) :: (.slice A2 ms.length cl2) :: u2 :: u3 :: (.bool false) :: (.pointer (some ⟨b, 0, none⟩)) :: u6 :: (.pointer (some ⟨gh, 0, none⟩)) :: (.slice (some ⟨ga, 0, none⟩) 3 3) :: (.int .i64 ((0 : Nat) : Int)) :: u10 :: u11 :: u12 :: u13 :: u14 :: u15 :: u16 :: u17 :: u18 :: u19 :: u20 :: u21 :: u22 :: u23 :: u24 :: u25 :: u26 :: u27 :: u28 :: u29 :: u30 :: u31 :: u32 :: u33 :: u34 :: u35 :: u36 :: u37 :: u38 :: u39 :: u40 :: u41 :: u42 :: u43 :: u44 :: u45 :: u46 :: u47 :: u48 :: u49 :: u50 :: u51 :: u52 :: u53 :: u54 :: u55 :: u56 :: u57 :: u58 :: u59 :: u60 :: u61 :: u62 :: u63 :: u64 :: u65 :: u66 :: u67 :: u68 :: u69 :: u70 :: u71 :: u72 :: u73 :: u74 :: u75 :: u76 :: u77 :: u78 :: u79 :: u80 :: u81 :: u82 :: u83 :: u84 :: u85 :: u86 :: u87 :: u88 :: u89 :: u90 :: u91 :: u92 :: u93 :: u94 :: u95 :: u96 :: u97 :: u98 :: u99 :: u100 :: u101 :: u102 :: u103 :: u104 :: u105 :: u106 :: u107 :: u108 :: u109 :: u110 :: u111 :: u112 :: u113 :: u114 :: u115 :: u116 :: u117 :: u118 :: u119 :: u120 :: u121 :: u122 :: u123 :: u124 :: u125 :: u126 :: u127 :: u128 :: u129 :: u130 :: u131 :: u132 :: []), []⟩ w := by
  refine wp_loop_ghost (fun gk a V => ∀ C : Prop, (∀ (u10 u11 u29 u30 u31 u32 u33 u34 u35 u36 u37 u38 u39 u40 u41 u42 u43 u44 u45 u46 u47 u48 u49 u50 u51 u52 u53 u54 u55 u56 u57 u58 u59 u60 u61 u62 u63 u64 u65 u66 u67 u68 u69 u70 u71 u72 : Value) (i : Nat) (fh : Nat → Nat) (H : BH) (N : Bch), gk = 10 - i → (i ≤ 10 ∧ KS W0 V b H N [(gh, Obj.cells (hv3 fh) 27 (0, 0)), (ga, Obj.cells #[.bool true, .bool true, .bool true] 4 (0, 0))] [] [] ∧ Cl N 3 ∧ N.done ≤ 12 * i ∧ Nst N fh i zs) → a = ⟨List.toArray ((.slice A zs.length cl) :: (.slice A2 ms.length cl2) :: u2 :: u3 :: (.bool false) :: (.pointer (some ⟨b, 0, none⟩)) :: u6 :: (.pointer (some ⟨gh, 0, none⟩)) :: (.slice (some ⟨ga, 0, none⟩) 3 3) :: (.int .i64 ((i : Nat) : Int)) :: u10 :: u11 :: u12 :: u13 :: u14 :: u15 :: u16 :: u17 :: u18 :: u19 :: u20 :: u21 :: u22 :: u23 :: u24 :: u25 :: u26 :: u27 :: u28 :: u29 :: u30 :: u31 :: u32 :: u33 :: u34 :: u35 :: u36 :: u37 :: u38 :: u39 :: u40 :: u41 :: u42 :: u43 :: u44 :: u45 :: u46 :: u47 :: u48 :: u49 :: u50 :: u51 :: u52 :: u53 :: u54 :: u55 :: u56 :: u57 :: u58 :: u59 :: u60 :: u61 :: u62 :: u63 :: u64 :: u65 :: u66 :: u67 :: u68 :: u69 :: u70 :: u71 :: u72 :: u73 :: u74 :: u75 :: u76 :: u77 :: u78 :: u79 :: u80 :: u81 :: u82 :: u83 :: u84 :: u85 :: u86 :: u87 :: u88 :: u89 :: u90 :: u91 :: u92 :: u93 :: u94 :: u95 :: u96 :: u97 :: u98 :: u99 :: u100 :: u101 :: u102 :: u103 :: u104 :: u105 :: u106 :: u107 :: u108 :: u109 :: u110 :: u111 :: u112 :: u113 :: u114 :: u115 :: u116 :: u117 :: u118 :: u119 :: u120 :: u121 :: u122 :: u123 :: u124 :: u125 :: u126 :: u127 :: u128 :: u129 :: u130 :: u131 :: u132 :: []), []⟩ → C) → C) (10 - 0) ?_ ?_
  · intro C hC
    exact hC _ _ _ _ _ _ _ _ _ _ _ _ _ _ _ _ _ _ _ _ _ _ _ _ _ _ _ _ _ _ _ _ _ _ _ _ _ _ _ _ _ _ _ _ _ _ (0) (fh0) (H0) (N0) rfl hI rfl
  · intro gk a V hI'
    refine hI' _ ?_
    intro u10 u11 u29 u30 u31 u32 u33 u34 u35 u36 u37 u38 u39 u40 u41 u42 u43 u44 u45 u46 u47 u48 u49 u50 u51 u52 u53 u54 u55 u56 u57 u58 u59 u60 u61 u62 u63 u64 u65 u66 u67 u68 u69 u70 u71 u72 i fh H N hk hinv ha
    subst ha
    subst hk
    refine bnAb _ _ _ _ _ _ _ _ _ _ _ _ _ _ _ _ _ _ _ _ _ _ _ _ _ _ _ _ _ _ _ _ _ _ _ _ _ _ _ _ _ _ _ _ _ _ _ _ _ _ _ _ _ _ _ _ _ _ _ _ _ _ _ _ _ _ _ _ _ _ _ _ _ _ _ _ _ _ _ _ _ _ _ _ _ _ _ _ _ _ _ _ _ _ _ _ _ _ _ _ _ _ _ _ _ _ _ _ _ _ _ _ _ _ _ _ _ _ _ _ _ _ _ _ _ _ _ _ hcl hz hm ht n2 hinv (fun v10 v11 v29 v30 v31 v32 v33 v34 v35 v36 v37 v38 v39 v40 v41 v42 v43 v44 v45 v46 v47 v48 v49 v50 v51 v52 v53 v54 v55 v56 v57 v58 v59 v60 v61 v62 v63 v64 v65 v66 v67 v68 v69 v70 v71 v72 fh2 H2 N2 V2 h2 hm => ?_) (fun v10 v11 v29 v30 v31 v32 v33 v34 v35 v36 v37 v38 v39 v40 v41 v42 v43 v44 v45 v46 v47 v48 v49 v50 v51 v52 v53 v54 v55 v56 v57 v58 v59 v60 v61 v62 v63 v64 v65 v66 v67 v68 v69 v70 v71 v72 hx => hX v10 v11 v29 v30 v31 v32 v33 v34 v35 v36 v37 v38 v39 v40 v41 v42 v43 v44 v45 v46 v47 v48 v49 v50 v51 v52 v53 v54 v55 v56 v57 v58 v59 v60 v61 v62 v63 v64 v65 v66 v67 v68 v69 v70 v71 v72 i fh H N V hinv hx)
    refine ⟨_, hm, fun C hC => ?_⟩
    exact hC v10 v11 v29 v30 v31 v32 v33 v34 v35 v36 v37 v38 v39 v40 v41 v42 v43 v44 v45 v46 v47 v48 v49 v50 v51 v52 v53 v54 v55 v56 v57 v58 v59 v60 v61 v62 v63 v64 v65 v66 v67 v68 v69 v70 v71 v72 ((i + 1)) (fh2) (H2) (N2) rfl h2 rfl
end Go.Proofs.YtjnemopocmhfkaaDoor
end
section
set_option linter.unusedVariables false
set_option linter.unusedSimpArgs false
namespace Go.Proofs.YtjnemopocmhfkaaDoor
open Go.RowKit

set_option maxRecDepth 100000 in
set_option maxHeartbeats 3200000 in
theorem bnCb {W0 : World} {A A2 : Option Addr} {zs ms : List Int} {cl cl2 b gh ga i : Nat} {fh : Nat → Nat} {H : BH} {N : Bch} {k : Nat} {w : World} (u2 u3 u6 u9 u10 u11 u13 u14 u15 u16 u17 u18 u19 u20 u21 u22 u23 u24 u25 u26 u27 u28 u29 u30 u31 u32 u33 u34 u35 u36 u37 u38 u39 u40 u41 u42 u43 u44 u45 u46 u47 u48 u49 u50 u51 u52 u53 u54 u55 u56 u57 u58 u59 u60 u61 u62 u63 u64 u65 u66 u67 u68 u69 u70 u71 u72 u73 u74 u75 u76 u77 u78 u79 u80 u81 u82 u83 u84 u85 u86 u87 u88 u89 u90 u91 u92 u93 u94 u95 u96 u97 u98 u99 u100 u101 u102 u103 u104 u105 u106 u107 u108 u109 u110 u111 u112 u113 u114 u115 u116 u117 u118 u119 u120 u121 u122 u123 u124 u125 u126 u127 u128 u129 u130 u131 u132 : Value) (K : Act → World → Prop) (Q0 : Exit → Act → World → Prop) (hcl : zs.length ≤ cl) (hz : RdZ W0 W0.heap.size A zs) (ht : TabOk W0) (hc : Cl N 3) (hs : Nst N fh i zs) (hi : i ≤ 10) (hI : (k ≤ 10 ∧ KS W0 w b H N [(gh, Obj.cells (hv3 fh) 27 (0, 0)), (ga, Obj.cells #[.bool true, .bool true, .bool true] 4 (0, 0))] [] []))
    (hK : ∀ (v13 v14 v15 v16 v17 v73 v74 v75 v76 v77 v78 v79 v80 v81 v82 v83 v84 v85 v86 v87 v88 v89 v90 v91 v92 v93 v94 v95 v96 v97 v98 v99 v100 v101 v102 v103 v104 v105 v106 v107 v108 v109 v110 v111 v112 v113 v114 v115 v116 v117 v118 v119 v120 v121 v122 v123 v124 v125 v126 v127 v128 v129 v130 v131 : Value)  (V : World), ((k + 1) ≤ 10 ∧ KS W0 V b H N [(gh, Obj.cells (hv3 fh) 27 (0, 0)), (ga, Obj.cells #[.bool true, .bool true, .bool true] 4 (0, 0))] [] []) → 10 - (k + 1) < 10 - k → K ⟨List.toArray ((.slice A zs.length cl) :: (.slice A2 ms.length cl2) :: u2 :: u3 :: (.bool false) :: (.pointer (some ⟨b, 0, none⟩)) :: u6 :: (.pointer (some ⟨gh, 0, none⟩)) :: (.slice (some ⟨ga, 0, none⟩) 3 3) :: u9 :: u10 :: u11 :: (.int .i64 (((k + 1) : Nat) : Int)) :: v13 :: v14 :: v15 :: v16 :: v17 :: u18 :: u19 :: u20 :: u21 :: u22 :: u23 :: u24 :: u25 :: u26 :: u27 :: u28 :: u29 :: u30 :: u31 :: u32 :: u33 :: u34 :: u35 :: u36 :: u37 :: u38 :: u39 :: u40 :: u41 :: u42 :: u43 :: u44 :: u45 :: u46 :: u47 :: u48 :: u49 :: u50 :: u51 :: u52 :: u53 :: u54 :: u55 :: u56 :: u57 :: u58 :: u59 :: u60 :: u61 :: u62 :: u63 :: u64 :: u65 :: u66 :: u67 :: u68 :: u69 :: u70 :: u71 :: u72 :: v73 :: v74 :: v75 :: v76 :: v77 :: v78 :: v79 :: v80 :: v81 :: v82 :: v83 :: v84 :: v85 :: v86 :: v87 :: v88 :: v89 :: v90 :: v91 :: v92 :: v93 :: v94 :: v95 :: v96 :: v97 :: v98 :: v99 :: v100 :: v101 :: v102 :: v103 :: v104 :: v105 :: v106 :: v107 :: v108 :: v109 :: v110 :: v111 :: v112 :: v113 :: v114 :: v115 :: v116 :: v117 :: v118 :: v119 :: v120 :: v121 :: v122 :: v123 :: v124 :: v125 :: v126 :: v127 :: v128 :: v129 :: v130 :: v131 :: u132 :: []), []⟩ V)
    (hX : ∀ (v13 v14 v15 v16 v17 v73 v74 v75 v76 v77 v78 v79 v80 v81 v82 v83 v84 v85 v86 v87 v88 v89 v90 v91 v92 v93 v94 v95 v96 v97 v98 v99 v100 v101 v102 v103 v104 v105 v106 v107 v108 v109 v110 v111 v112 v113 v114 v115 v116 v117 v118 v119 v120 v121 v122 v123 v124 v125 v126 v127 v128 v129 v130 v131 : Value), (True) → Q0 (.exit 4) ⟨List.toArray ((.slice A zs.length cl) :: (.slice A2 ms.length cl2) :: u2 :: u3 :: (.bool false) :: (.pointer (some ⟨b, 0, none⟩)) :: u6 :: (.pointer (some ⟨gh, 0, none⟩)) :: (.slice (some ⟨ga, 0, none⟩) 3 3) :: u9 :: u10 :: u11 :: (.int .i64 ((k : Nat) : Int)) :: v13 :: v14 :: v15 :: v16 :: v17 :: u18 :: u19 :: u20 :: u21 :: u22 :: u23 :: u24 :: u25 :: u26 :: u27 :: u28 :: u29 :: u30 :: u31 :: u32 :: u33 :: u34 :: u35 :: u36 :: u37 :: u38 :: u39 :: u40 :: u41 :: u42 :: u43 :: u44 :: u45 :: u46 :: u47 :: u48 :: u49 :: u50 :: u51 :: u52 :: u53 :: u54 :: u55 :: u56 :: u57 :: u58 :: u59 :: u60 :: u61 :: u62 :: u63 :: u64 :: u65 :: u66 :: u67 :: u68 :: u69 :: u70 :: u71 :: u72 :: v73 :: v74 :: v75 :: v76 :: v77 :: v78 :: v79 :: v80 :: v81 :: v82 :: v83 :: v84 :: v85 :: v86 :: v87 :: v88 :: v89 :: v90 :: v91 :: v92 :: v93 :: v94 :: v95 :: v96 :: v97 :: v98 :: v99 :: v100 :: v101 :: v102 :: v103 :: v104 :: v105 :: v106 :: v107 :: v108 :: v109 :: v110 :: v111 :: v112 :: v113 :: v114 :: v115 :: v116 :: v117 :: v118 :: v119 :: v120 :: v121 :: v122 :: v123 :: v124 :: v125 :: v126 :: v127 :: v128 :: v129 :: v130 :: v131 :: u132 :: []), []⟩ w) :
    Code.wp Tryd.prog (sub [1, 1, 1, 1, 1, 1, 0, 1, 0, 0] codeBN) (Exit.then K Q0) ⟨List.toArray ((.slice A zs.length cl) :: (.slice A2 ms.length cl2) :: u2 :: u3 :: (.bool false) :: (.pointer (some ⟨b, 0, none⟩)) :: u6 :: (.pointer (some ⟨gh, 0, none⟩)) :: (.slice (some ⟨ga, 0, none⟩) 3 3) :: u9 :: u10 :: u11 :: (.int .i64 ((k : Nat) : Int)) :: u13 :: u14 :: u15 :: u16 :: u17 :: u18 :: u19 :: u20 :: u21 :: u22 :: u23 :: u24 :: u25 :: u26 :: u27 :: u28 :: u29 :: u30 :: u31 :: u32 :: u33 :: u34 :: u35 :: u36 :: u37 :: u38 :: u39 :: u40 :: u41 :: u42 :: u43 :: u44 :: u45 :: u46 :: u47 :: u48 :: u49 :: u50 :: u51 :: u52 :: u53 :: u54 :: u55 :: u56 :: u57 :: u58 :: u59 :: u60 :: u61 :: u62 :: u63 :: u64 :: u65 :: u66 :: u67 :: u68 :: u69 :: u70 :: u71 :: u72 :: u73 :: u74 :: u75 :: u76 :: u77 :: u78 :: u79 :: u80 :: u81 :: u82 :: u83 :: u84 :: u85 :: u86 :: u87 :: u88 :: u89 :: u90 :: u91 :: u92 :: u93 :: u94 :: u95 :: u96 :: u97 :: u98 :: u99 :: u100 :: u101 :: u102 :: u103 :: u104 :: u105 :: u106 :: u107 :: u108 :: u109 :: u110 :: u111 :: u112 :: u113 :: u114 :: u115 :: u116 :: u117 :: u118 :: u119 :: u120 :: u121 :: u122 :: u123 :: u124 :: u125 :: u126 :: u127 :: u128 :: u129 :: u130 :: u131 :: u132 :: []), []⟩ w := by
  have HK := Lib.hid hK
  have HX := Lib.hid hX
  clear hK hX
  conv => arg 2; whnf
  obtain ⟨hk, hK⟩ := hI
  have HCl := Lib.hid hcl
  have Ht := Lib.hid ht
  by_cases hlt : k < 10
  · have i0 : (0 : Int) ≤ (k : Int) := by omega
    have i1 : (k : Int) < 10 := by omega
    obtain ⟨z0, _⟩ := ks_hcell hK (gh := gh) (h := fh) (by simp) (d := 0) (by omega)
    obtain ⟨z1, _⟩ := ks_hcell hK (gh := gh) (h := fh) (by simp) (d := 1) (by omega)
    obtain ⟨z2, _⟩ := ks_hcell hK (gh := gh) (h := fh) (by simp) (d := 2) (by omega)
    obtain ⟨g1, gl1, g2⟩ := nst_get hc hs hi hlt
    have HG1 := Lib.hid g1
    have HGL := Lib.hid gl1
    have HG2 := Lib.hid g2
    have Hdl := Lib.hid (datB_len zs k)
    have C1 := Lib.hid (ks_bget hK [true, true, true] (some ⟨ga, 0, none⟩) 3 3 rfl (hK.lv (g := ga) (cs := #[.bool true, .bool true, .bool true]) (lv := [true, true, true]) (t := 4) (f := (0, 0)) (by simp) rfl (by simp)) 1 (k : Int) (by omega) (by omega) ht)
    have hzl := hz.1
    obtain ⟨q, hq⟩ : ∃ q, k % 3 = q := ⟨_, rfl⟩
    have hq3 : q < 3 := by omega
    have r1 : (k : Int).tmod 3 = (q : Int) := by rw [Int.tmod_eq_emod_of_nonneg i0]; omega
    have r2 : (k : Int) % 3 = (q : Int) := by omega
    rw [hq] at Hdl
    have HDt : Hid (datB zs k = sectorsB (zs.drop (min k zs.length)) (1 + k % 3)) := rfl
    rw [hq] at HDt
    generalize datB zs k = ds at HGL Hdl HDt
    have CS0 := Lib.hid (fun (m : Nat) (V : World) (b : Nat) (H : BH) (N : Bch) (K : List (Nat × Obj)) (R : List (Option Addr × List (List UInt8))) (S : List (Option Addr × List UInt8)) (h : KS W0 V b H N K R S) => ks_sectors h (A := if cl = m then A else A.map (·.add m)) (zs := zs.drop m) (zs.length - m) (cl - m) (1 + q) (by simp) (hz.drop m cl hcl) (by omega))
    rw [show ((1 + q : Nat) : Int) = 1 + (q : Int) by omega] at CS0
    obtain ⟨y0, hy0⟩ : ∃ y, fh 0 = y := ⟨_, rfl⟩
    obtain ⟨y1, hy1⟩ : ∃ y, fh 1 = y := ⟨_, rfl⟩
    obtain ⟨y2, hy2⟩ : ∃ y, fh 2 = y := ⟨_, rfl⟩
    have Y0 := Lib.hid hy0
    have Y1 := Lib.hid hy1
    have Y2 := Lib.hid hy2
    rw [hy0] at z0
    rw [hy1] at z1
    rw [hy2] at z2
    clear hK hc hs hz hq HX g1 gl1 g2 hy0 hy1 hy2
    by_cases f0 : y0 = k + 1
    · have e0 : ((y0 : Int) == (k : Int) + 1) = true := by rw [beq_iff_eq]; omega
      have HF := Lib.hid (show fnd fh k = true by unfold fnd; rw [Y0.out, decide_eq_true f0]; rfl)
      clear Y0 Y1 Y2 f0
      rw [HG1.out, HGL.out HF.out, HF.out, Hdl.out] at C1
      by_cases hmn : zs.length < k
      · have CS := Lib.hid (CS0.out zs.length)
        rw [show min k zs.length = zs.length by omega] at HDt
        rw [← HDt.out] at CS
        have i3 : (zs.length : Int) < (k : Int) := by omega
        have k2 : (zs.length : Int) ≤ (cl : Int) := by omega
        clear CS0 HDt HF HGL HG1
        by_cases hck : cl = zs.length
        · subst hck
          rw [if_pos rfl, Nat.sub_self] at CS
          go_wp2_with fail
          (with_reducible refine C1.out.mono ?_); rintro e w2 ⟨A1, c1, rfl, k2⟩
          have K2 := Lib.hid k2
          have C2 := Lib.hid (CS.out _ _ _ _ _ _ _ k2)
          clear C1 k2 CS
          go_wp2_with fail
          (with_reducible refine C2.out.mono ?_); rintro e w3 ⟨A5, c5, rfl, k3⟩
          have K3 := Lib.hid k3
          have C3 := Lib.hid (ks_sameR k3 (A := A1) (A' := A5) (ra := ds) (rb := ds) (1 + q) (1 + q) c1 c5 Hdl.out Hdl.out (by simp) (by simp))
          rw [decide_eq_true rfl] at C3
          clear k3 C2 K2
          go_wp2_with fail
          (with_reducible refine C3.out.mono ?_); rintro e w4 ⟨rfl, k5⟩
          have K5 := Lib.hid k5
          clear k5 C3 K3
          have C8 := Lib.hid (ks_bget K5.out [true, true, true] (some ⟨ga, 0, none⟩) 3 3 rfl (K5.out.lv (g := ga) (cs := #[.bool true, .bool true, .bool true]) (lv := [true, true, true]) (t := 4) (f := (0, 0)) (by simp) rfl (by simp)) 2 (k : Int) (by omega) (by omega) Ht.out)
          rw [HG2.out] at C8
          go_wp2_with fail
          (with_reducible refine C8.out.mono ?_); rintro e w8 ⟨A8, c8, rfl, k8⟩
          have K8 := Lib.hid (k8.less (R' := []) (S' := []) (fun p hp => hp) (fun p hp => by cases hp) (fun p hp => by cases hp))
          clear k8 C8 K5
          go_wp2_with fail
          exact HK.out _ _ _ _ _ _ _ _ _ _ _ _ _ _ _ _ _ _ _ _ _ _ _ _ _ _ _ _ _ _ _ _ _ _ _ _ _ _ _ _ _ _ _ _ _ _ _ _ _ _ _ _ _ _ _ _ _ _ _ _ _ _ _ _ _ ⟨by omega, K8.out⟩ (by omega)
        · rw [if_neg hck, Nat.sub_self] at CS
          go_wp2_with fail
          (with_reducible refine C1.out.mono ?_); rintro e w2 ⟨A1, c1, rfl, k2⟩
          have K2 := Lib.hid k2
          have C2 := Lib.hid (CS.out _ _ _ _ _ _ _ k2)
          clear C1 k2 CS
          go_wp2_with fail
          (with_reducible refine C2.out.mono ?_); rintro e w3 ⟨A5, c5, rfl, k3⟩
          have K3 := Lib.hid k3
          have C3 := Lib.hid (ks_sameR k3 (A := A1) (A' := A5) (ra := ds) (rb := ds) (1 + q) (1 + q) c1 c5 Hdl.out Hdl.out (by simp) (by simp))
          rw [decide_eq_true rfl] at C3
          clear k3 C2 K2
          go_wp2_with fail
          (with_reducible refine C3.out.mono ?_); rintro e w4 ⟨rfl, k5⟩
          have K5 := Lib.hid k5
          clear k5 C3 K3
          have C8 := Lib.hid (ks_bget K5.out [true, true, true] (some ⟨ga, 0, none⟩) 3 3 rfl (K5.out.lv (g := ga) (cs := #[.bool true, .bool true, .bool true]) (lv := [true, true, true]) (t := 4) (f := (0, 0)) (by simp) rfl (by simp)) 2 (k : Int) (by omega) (by omega) Ht.out)
          rw [HG2.out] at C8
          go_wp2_with fail
          (with_reducible refine C8.out.mono ?_); rintro e w8 ⟨A8, c8, rfl, k8⟩
          have K8 := Lib.hid (k8.less (R' := []) (S' := []) (fun p hp => hp) (fun p hp => by cases hp) (fun p hp => by cases hp))
          clear k8 C8 K5
          go_wp2_with fail
          exact HK.out _ _ _ _ _ _ _ _ _ _ _ _ _ _ _ _ _ _ _ _ _ _ _ _ _ _ _ _ _ _ _ _ _ _ _ _ _ _ _ _ _ _ _ _ _ _ _ _ _ _ _ _ _ _ _ _ _ _ _ _ _ _ _ _ _ ⟨by omega, K8.out⟩ (by omega)
      · have CS := Lib.hid (CS0.out k)
        rw [show min k zs.length = k by omega] at HDt
        rw [← HDt.out] at CS
        have i3 : ¬ (zs.length : Int) < (k : Int) := by omega
        have k1 : (k : Int) ≤ (zs.length : Int) := by omega
        have k2 : (k : Int) ≤ (cl : Int) := by omega
        clear CS0 HDt HF HGL HG1
        by_cases hck : cl = k
        · have hck2 := hck.symm
          subst hck2
          rw [if_pos rfl, show zs.length - k = 0 by omega, Nat.sub_self] at CS
          go_wp2_with fail
          (with_reducible refine C1.out.mono ?_); rintro e w2 ⟨A1, c1, rfl, k2⟩
          have K2 := Lib.hid k2
          have C2 := Lib.hid (CS.out _ _ _ _ _ _ _ k2)
          clear C1 k2 CS
          go_wp2_with fail
          (with_reducible refine C2.out.mono ?_); rintro e w3 ⟨A5, c5, rfl, k3⟩
          have K3 := Lib.hid k3
          have C3 := Lib.hid (ks_sameR k3 (A := A1) (A' := A5) (ra := ds) (rb := ds) (1 + q) (1 + q) c1 c5 Hdl.out Hdl.out (by simp) (by simp))
          rw [decide_eq_true rfl] at C3
          clear k3 C2 K2
          go_wp2_with fail
          (with_reducible refine C3.out.mono ?_); rintro e w4 ⟨rfl, k5⟩
          have K5 := Lib.hid k5
          clear k5 C3 K3
          have C8 := Lib.hid (ks_bget K5.out [true, true, true] (some ⟨ga, 0, none⟩) 3 3 rfl (K5.out.lv (g := ga) (cs := #[.bool true, .bool true, .bool true]) (lv := [true, true, true]) (t := 4) (f := (0, 0)) (by simp) rfl (by simp)) 2 (k : Int) (by omega) (by omega) Ht.out)
          rw [HG2.out] at C8
          go_wp2_with fail
          (with_reducible refine C8.out.mono ?_); rintro e w8 ⟨A8, c8, rfl, k8⟩
          have K8 := Lib.hid (k8.less (R' := []) (S' := []) (fun p hp => hp) (fun p hp => by cases hp) (fun p hp => by cases hp))
          clear k8 C8 K5
          go_wp2_with fail
          exact HK.out _ _ _ _ _ _ _ _ _ _ _ _ _ _ _ _ _ _ _ _ _ _ _ _ _ _ _ _ _ _ _ _ _ _ _ _ _ _ _ _ _ _ _ _ _ _ _ _ _ _ _ _ _ _ _ _ _ _ _ _ _ _ _ _ _ ⟨by omega, K8.out⟩ (by omega)
        · rw [if_neg hck] at CS
          go_wp2_with fail
          (with_reducible refine C1.out.mono ?_); rintro e w2 ⟨A1, c1, rfl, k2⟩
          have K2 := Lib.hid k2
          have C2 := Lib.hid (CS.out _ _ _ _ _ _ _ k2)
          clear C1 k2 CS
          go_wp2_with fail
          (with_reducible refine C2.out.mono ?_); rintro e w3 ⟨A5, c5, rfl, k3⟩
          have K3 := Lib.hid k3
          have C3 := Lib.hid (ks_sameR k3 (A := A1) (A' := A5) (ra := ds) (rb := ds) (1 + q) (1 + q) c1 c5 Hdl.out Hdl.out (by simp) (by simp))
          rw [decide_eq_true rfl] at C3
          clear k3 C2 K2
          go_wp2_with fail
          (with_reducible refine C3.out.mono ?_); rintro e w4 ⟨rfl, k5⟩
          have K5 := Lib.hid k5
          clear k5 C3 K3
          have C8 := Lib.hid (ks_bget K5.out [true, true, true] (some ⟨ga, 0, none⟩) 3 3 rfl (K5.out.lv (g := ga) (cs := #[.bool true, .bool true, .bool true]) (lv := [true, true, true]) (t := 4) (f := (0, 0)) (by simp) rfl (by simp)) 2 (k : Int) (by omega) (by omega) Ht.out)
          rw [HG2.out] at C8
          go_wp2_with fail
          (with_reducible refine C8.out.mono ?_); rintro e w8 ⟨A8, c8, rfl, k8⟩
          have K8 := Lib.hid (k8.less (R' := []) (S' := []) (fun p hp => hp) (fun p hp => by cases hp) (fun p hp => by cases hp))
          clear k8 C8 K5
          go_wp2_with fail
          exact HK.out _ _ _ _ _ _ _ _ _ _ _ _ _ _ _ _ _ _ _ _ _ _ _ _ _ _ _ _ _ _ _ _ _ _ _ _ _ _ _ _ _ _ _ _ _ _ _ _ _ _ _ _ _ _ _ _ _ _ _ _ _ _ _ _ _ ⟨by omega, K8.out⟩ (by omega)
    by_cases f1 : y1 = k + 1
    · have e0 : ((y0 : Int) == (k : Int) + 1) = false := by rw [beq_eq_false_iff_ne]; omega
      have e1 : ((y1 : Int) == (k : Int) + 1) = true := by rw [beq_iff_eq]; omega
      have HF := Lib.hid (show fnd fh k = true by unfold fnd; rw [Y0.out, Y1.out, decide_eq_false f0, decide_eq_true f1]; rfl)
      clear Y0 Y1 Y2 f0 f1
      rw [HG1.out, HGL.out HF.out, HF.out, Hdl.out] at C1
      by_cases hmn : zs.length < k
      · have CS := Lib.hid (CS0.out zs.length)
        rw [show min k zs.length = zs.length by omega] at HDt
        rw [← HDt.out] at CS
        have i3 : (zs.length : Int) < (k : Int) := by omega
        have k2 : (zs.length : Int) ≤ (cl : Int) := by omega
        clear CS0 HDt HF HGL HG1
        by_cases hck : cl = zs.length
        · subst hck
          rw [if_pos rfl, Nat.sub_self] at CS
          go_wp2_with fail
          (with_reducible refine C1.out.mono ?_); rintro e w2 ⟨A1, c1, rfl, k2⟩
          have K2 := Lib.hid k2
          have C2 := Lib.hid (CS.out _ _ _ _ _ _ _ k2)
          clear C1 k2 CS
          go_wp2_with fail
          (with_reducible refine C2.out.mono ?_); rintro e w3 ⟨A5, c5, rfl, k3⟩
          have K3 := Lib.hid k3
          have C3 := Lib.hid (ks_sameR k3 (A := A1) (A' := A5) (ra := ds) (rb := ds) (1 + q) (1 + q) c1 c5 Hdl.out Hdl.out (by simp) (by simp))
          rw [decide_eq_true rfl] at C3
          clear k3 C2 K2
          go_wp2_with fail
          (with_reducible refine C3.out.mono ?_); rintro e w4 ⟨rfl, k5⟩
          have K5 := Lib.hid k5
          clear k5 C3 K3
          have C8 := Lib.hid (ks_bget K5.out [true, true, true] (some ⟨ga, 0, none⟩) 3 3 rfl (K5.out.lv (g := ga) (cs := #[.bool true, .bool true, .bool true]) (lv := [true, true, true]) (t := 4) (f := (0, 0)) (by simp) rfl (by simp)) 2 (k : Int) (by omega) (by omega) Ht.out)
          rw [HG2.out] at C8
          go_wp2_with fail
          (with_reducible refine C8.out.mono ?_); rintro e w8 ⟨A8, c8, rfl, k8⟩
          have K8 := Lib.hid (k8.less (R' := []) (S' := []) (fun p hp => hp) (fun p hp => by cases hp) (fun p hp => by cases hp))
          clear k8 C8 K5
          go_wp2_with fail
          exact HK.out _ _ _ _ _ _ _ _ _ _ _ _ _ _ _ _ _ _ _ _ _ _ _ _ _ _ _ _ _ _ _ _ _ _ _ _ _ _ _ _ _ _ _ _ _ _ _ _ _ _ _ _ _ _ _ _ _ _ _ _ _ _ _ _ _ ⟨by omega, K8.out⟩ (by omega)
        · rw [if_neg hck, Nat.sub_self] at CS
          go_wp2_with fail
          (with_reducible refine C1.out.mono ?_); rintro e w2 ⟨A1, c1, rfl, k2⟩
          have K2 := Lib.hid k2
          have C2 := Lib.hid (CS.out _ _ _ _ _ _ _ k2)
          clear C1 k2 CS
          go_wp2_with fail
          (with_reducible refine C2.out.mono ?_); rintro e w3 ⟨A5, c5, rfl, k3⟩
          have K3 := Lib.hid k3
          have C3 := Lib.hid (ks_sameR k3 (A := A1) (A' := A5) (ra := ds) (rb := ds) (1 + q) (1 + q) c1 c5 Hdl.out Hdl.out (by simp) (by simp))
          rw [decide_eq_true rfl] at C3
          clear k3 C2 K2
          go_wp2_with fail
          (with_reducible refine C3.out.mono ?_); rintro e w4 ⟨rfl, k5⟩
          have K5 := Lib.hid k5
          clear k5 C3 K3
          have C8 := Lib.hid (ks_bget K5.out [true, true, true] (some ⟨ga, 0, none⟩) 3 3 rfl (K5.out.lv (g := ga) (cs := #[.bool true, .bool true, .bool true]) (lv := [true, true, true]) (t := 4) (f := (0, 0)) (by simp) rfl (by simp)) 2 (k : Int) (by omega) (by omega) Ht.out)
          rw [HG2.out] at C8
          go_wp2_with fail
          (with_reducible refine C8.out.mono ?_); rintro e w8 ⟨A8, c8, rfl, k8⟩
          have K8 := Lib.hid (k8.less (R' := []) (S' := []) (fun p hp => hp) (fun p hp => by cases hp) (fun p hp => by cases hp))
          clear k8 C8 K5
          go_wp2_with fail
          exact HK.out _ _ _ _ _ _ _ _ _ _ _ _ _ _ _ _ _ _ _ _ _ _ _ _ _ _ _ _ _ _ _ _ _ _ _ _ _ _ _ _ _ _ _ _ _ _ _ _ _ _ _ _ _ _ _ _ _ _ _ _ _ _ _ _ _ ⟨by omega, K8.out⟩ (by omega)
      · have CS := Lib.hid (CS0.out k)
        rw [show min k zs.length = k by omega] at HDt
        rw [← HDt.out] at CS
        have i3 : ¬ (zs.length : Int) < (k : Int) := by omega
        have k1 : (k : Int) ≤ (zs.length : Int) := by omega
        have k2 : (k : Int) ≤ (cl : Int) := by omega
        clear CS0 HDt HF HGL HG1
        by_cases hck : cl = k
        · have hck2 := hck.symm
          subst hck2
          rw [if_pos rfl, show zs.length - k = 0 by omega, Nat.sub_self] at CS
          go_wp2_with fail
          (with_reducible refine C1.out.mono ?_); rintro e w2 ⟨A1, c1, rfl, k2⟩
          have K2 := Lib.hid k2
          have C2 := Lib.hid (CS.out _ _ _ _ _ _ _ k2)
          clear C1 k2 CS
          go_wp2_with fail
          (with_reducible refine C2.out.mono ?_); rintro e w3 ⟨A5, c5, rfl, k3⟩
          have K3 := Lib.hid k3
          have C3 := Lib.hid (ks_sameR k3 (A := A1) (A' := A5) (ra := ds) (rb := ds) (1 + q) (1 + q) c1 c5 Hdl.out Hdl.out (by simp) (by simp))
          rw [decide_eq_true rfl] at C3
          clear k3 C2 K2
          go_wp2_with fail
          (with_reducible refine C3.out.mono ?_); rintro e w4 ⟨rfl, k5⟩
          have K5 := Lib.hid k5
          clear k5 C3 K3
          have C8 := Lib.hid (ks_bget K5.out [true, true, true] (some ⟨ga, 0, none⟩) 3 3 rfl (K5.out.lv (g := ga) (cs := #[.bool true, .bool true, .bool true]) (lv := [true, true, true]) (t := 4) (f := (0, 0)) (by simp) rfl (by simp)) 2 (k : Int) (by omega) (by omega) Ht.out)
          rw [HG2.out] at C8
          go_wp2_with fail
          (with_reducible refine C8.out.mono ?_); rintro e w8 ⟨A8, c8, rfl, k8⟩
          have K8 := Lib.hid (k8.less (R' := []) (S' := []) (fun p hp => hp) (fun p hp => by cases hp) (fun p hp => by cases hp))
          clear k8 C8 K5
          go_wp2_with fail
          exact HK.out _ _ _ _ _ _ _ _ _ _ _ _ _ _ _ _ _ _ _ _ _ _ _ _ _ _ _ _ _ _ _ _ _ _ _ _ _ _ _ _ _ _ _ _ _ _ _ _ _ _ _ _ _ _ _ _ _ _ _ _ _ _ _ _ _ ⟨by omega, K8.out⟩ (by omega)
        · rw [if_neg hck] at CS
          go_wp2_with fail
          (with_reducible refine C1.out.mono ?_); rintro e w2 ⟨A1, c1, rfl, k2⟩
          have K2 := Lib.hid k2
          have C2 := Lib.hid (CS.out _ _ _ _ _ _ _ k2)
          clear C1 k2 CS
          go_wp2_with fail
          (with_reducible refine C2.out.mono ?_); rintro e w3 ⟨A5, c5, rfl, k3⟩
          have K3 := Lib.hid k3
          have C3 := Lib.hid (ks_sameR k3 (A := A1) (A' := A5) (ra := ds) (rb := ds) (1 + q) (1 + q) c1 c5 Hdl.out Hdl.out (by simp) (by simp))
          rw [decide_eq_true rfl] at C3
          clear k3 C2 K2
          go_wp2_with fail
          (with_reducible refine C3.out.mono ?_); rintro e w4 ⟨rfl, k5⟩
          have K5 := Lib.hid k5
          clear k5 C3 K3
          have C8 := Lib.hid (ks_bget K5.out [true, true, true] (some ⟨ga, 0, none⟩) 3 3 rfl (K5.out.lv (g := ga) (cs := #[.bool true, .bool true, .bool true]) (lv := [true, true, true]) (t := 4) (f := (0, 0)) (by simp) rfl (by simp)) 2 (k : Int) (by omega) (by omega) Ht.out)
          rw [HG2.out] at C8
          go_wp2_with fail
          (with_reducible refine C8.out.mono ?_); rintro e w8 ⟨A8, c8, rfl, k8⟩
          have K8 := Lib.hid (k8.less (R' := []) (S' := []) (fun p hp => hp) (fun p hp => by cases hp) (fun p hp => by cases hp))
          clear k8 C8 K5
          go_wp2_with fail
          exact HK.out _ _ _ _ _ _ _ _ _ _ _ _ _ _ _ _ _ _ _ _ _ _ _ _ _ _ _ _ _ _ _ _ _ _ _ _ _ _ _ _ _ _ _ _ _ _ _ _ _ _ _ _ _ _ _ _ _ _ _ _ _ _ _ _ _ ⟨by omega, K8.out⟩ (by omega)
    by_cases f2 : y2 = k + 1
    · have e0 : ((y0 : Int) == (k : Int) + 1) = false := by rw [beq_eq_false_iff_ne]; omega
      have e1 : ((y1 : Int) == (k : Int) + 1) = false := by rw [beq_eq_false_iff_ne]; omega
      have e2 : ((y2 : Int) == (k : Int) + 1) = true := by rw [beq_iff_eq]; omega
      have HF := Lib.hid (show fnd fh k = true by unfold fnd; rw [Y0.out, Y1.out, Y2.out, decide_eq_false f0, decide_eq_false f1, decide_eq_true f2]; rfl)
      clear Y0 Y1 Y2 f0 f1 f2
      rw [HG1.out, HGL.out HF.out, HF.out, Hdl.out] at C1
      by_cases hmn : zs.length < k
      · have CS := Lib.hid (CS0.out zs.length)
        rw [show min k zs.length = zs.length by omega] at HDt
        rw [← HDt.out] at CS
        have i3 : (zs.length : Int) < (k : Int) := by omega
        have k2 : (zs.length : Int) ≤ (cl : Int) := by omega
        clear CS0 HDt HF HGL HG1
        by_cases hck : cl = zs.length
        · subst hck
          rw [if_pos rfl, Nat.sub_self] at CS
          go_wp2_with fail
          (with_reducible refine C1.out.mono ?_); rintro e w2 ⟨A1, c1, rfl, k2⟩
          have K2 := Lib.hid k2
          have C2 := Lib.hid (CS.out _ _ _ _ _ _ _ k2)
          clear C1 k2 CS
          go_wp2_with fail
          (with_reducible refine C2.out.mono ?_); rintro e w3 ⟨A5, c5, rfl, k3⟩
          have K3 := Lib.hid k3
          have C3 := Lib.hid (ks_sameR k3 (A := A1) (A' := A5) (ra := ds) (rb := ds) (1 + q) (1 + q) c1 c5 Hdl.out Hdl.out (by simp) (by simp))
          rw [decide_eq_true rfl] at C3
          clear k3 C2 K2
          go_wp2_with fail
          (with_reducible refine C3.out.mono ?_); rintro e w4 ⟨rfl, k5⟩
          have K5 := Lib.hid k5
          clear k5 C3 K3
          have C8 := Lib.hid (ks_bget K5.out [true, true, true] (some ⟨ga, 0, none⟩) 3 3 rfl (K5.out.lv (g := ga) (cs := #[.bool true, .bool true, .bool true]) (lv := [true, true, true]) (t := 4) (f := (0, 0)) (by simp) rfl (by simp)) 2 (k : Int) (by omega) (by omega) Ht.out)
          rw [HG2.out] at C8
          go_wp2_with fail
          (with_reducible refine C8.out.mono ?_); rintro e w8 ⟨A8, c8, rfl, k8⟩
          have K8 := Lib.hid (k8.less (R' := []) (S' := []) (fun p hp => hp) (fun p hp => by cases hp) (fun p hp => by cases hp))
          clear k8 C8 K5
          go_wp2_with fail
          exact HK.out _ _ _ _ _ _ _ _ _ _ _ _ _ _ _ _ _ _ _ _ _ _ _ _ _ _ _ _ _ _ _ _ _ _ _ _ _ _ _ _ _ _ _ _ _ _ _ _ _ _ _ _ _ _ _ _ _ _ _ _ _ _ _ _ _ ⟨by omega, K8.out⟩ (by omega)
        · rw [if_neg hck, Nat.sub_self] at CS
          go_wp2_with fail
          (with_reducible refine C1.out.mono ?_); rintro e w2 ⟨A1, c1, rfl, k2⟩
          have K2 := Lib.hid k2
          have C2 := Lib.hid (CS.out _ _ _ _ _ _ _ k2)
          clear C1 k2 CS
          go_wp2_with fail
          (with_reducible refine C2.out.mono ?_); rintro e w3 ⟨A5, c5, rfl, k3⟩
          have K3 := Lib.hid k3
          have C3 := Lib.hid (ks_sameR k3 (A := A1) (A' := A5) (ra := ds) (rb := ds) (1 + q) (1 + q) c1 c5 Hdl.out Hdl.out (by simp) (by simp))
          rw [decide_eq_true rfl] at C3
          clear k3 C2 K2
          go_wp2_with fail
          (with_reducible refine C3.out.mono ?_); rintro e w4 ⟨rfl, k5⟩
          have K5 := Lib.hid k5
          clear k5 C3 K3
          have C8 := Lib.hid (ks_bget K5.out [true, true, true] (some ⟨ga, 0, none⟩) 3 3 rfl (K5.out.lv (g := ga) (cs := #[.bool true, .bool true, .bool true]) (lv := [true, true, true]) (t := 4) (f := (0, 0)) (by simp) rfl (by simp)) 2 (k : Int) (by omega) (by omega) Ht.out)
          rw [HG2.out] at C8
          go_wp2_with fail
          (with_reducible refine C8.out.mono ?_); rintro e w8 ⟨A8, c8, rfl, k8⟩
          have K8 := Lib.hid (k8.less (R' := []) (S' := []) (fun p hp => hp) (fun p hp => by cases hp) (fun p hp => by cases hp))
          clear k8 C8 K5
          go_wp2_with fail
          exact HK.out _ _ _ _ _ _ _ _ _ _ _ _ _ _ _ _ _ _ _ _ _ _ _ _ _ _ _ _ _ _ _ _ _ _ _ _ _ _ _ _ _ _ _ _ _ _ _ _ _ _ _ _ _ _ _ _ _ _ _ _ _ _ _ _ _ ⟨by omega, K8.out⟩ (by omega)
      · have CS := Lib.hid (CS0.out k)
        rw [show min k zs.length = k by omega] at HDt
        rw [← HDt.out] at CS
        have i3 : ¬ (zs.length : Int) < (k : Int) := by omega
        have k1 : (k : Int) ≤ (zs.length : Int) := by omega
        have k2 : (k : Int) ≤ (cl : Int) := by omega
        clear CS0 HDt HF HGL HG1
        by_cases hck : cl = k
        · have hck2 := hck.symm
          subst hck2
          rw [if_pos rfl, show zs.length - k = 0 by omega, Nat.sub_self] at CS
          go_wp2_with fail
          (with_reducible refine C1.out.mono ?_); rintro e w2 ⟨A1, c1, rfl, k2⟩
          have K2 := Lib.hid k2
          have C2 := Lib.hid (CS.out _ _ _ _ _ _ _ k2)
          clear C1 k2 CS
          go_wp2_with fail
          (with_reducible refine C2.out.mono ?_); rintro e w3 ⟨A5, c5, rfl, k3⟩
          have K3 := Lib.hid k3
          have C3 := Lib.hid (ks_sameR k3 (A := A1) (A' := A5) (ra := ds) (rb := ds) (1 + q) (1 + q) c1 c5 Hdl.out Hdl.out (by simp) (by simp))
          rw [decide_eq_true rfl] at C3
          clear k3 C2 K2
          go_wp2_with fail
          (with_reducible refine C3.out.mono ?_); rintro e w4 ⟨rfl, k5⟩
          have K5 := Lib.hid k5
          clear k5 C3 K3
          have C8 := Lib.hid (ks_bget K5.out [true, true, true] (some ⟨ga, 0, none⟩) 3 3 rfl (K5.out.lv (g := ga) (cs := #[.bool true, .bool true, .bool true]) (lv := [true, true, true]) (t := 4) (f := (0, 0)) (by simp) rfl (by simp)) 2 (k : Int) (by omega) (by omega) Ht.out)
          rw [HG2.out] at C8
          go_wp2_with fail
          (with_reducible refine C8.out.mono ?_); rintro e w8 ⟨A8, c8, rfl, k8⟩
          have K8 := Lib.hid (k8.less (R' := []) (S' := []) (fun p hp => hp) (fun p hp => by cases hp) (fun p hp => by cases hp))
          clear k8 C8 K5
          go_wp2_with fail
          exact HK.out _ _ _ _ _ _ _ _ _ _ _ _ _ _ _ _ _ _ _ _ _ _ _ _ _ _ _ _ _ _ _ _ _ _ _ _ _ _ _ _ _ _ _ _ _ _ _ _ _ _ _ _ _ _ _ _ _ _ _ _ _ _ _ _ _ ⟨by omega, K8.out⟩ (by omega)
        · rw [if_neg hck] at CS
          go_wp2_with fail
          (with_reducible refine C1.out.mono ?_); rintro e w2 ⟨A1, c1, rfl, k2⟩
          have K2 := Lib.hid k2
          have C2 := Lib.hid (CS.out _ _ _ _ _ _ _ k2)
          clear C1 k2 CS
          go_wp2_with fail
          (with_reducible refine C2.out.mono ?_); rintro e w3 ⟨A5, c5, rfl, k3⟩
          have K3 := Lib.hid k3
          have C3 := Lib.hid (ks_sameR k3 (A := A1) (A' := A5) (ra := ds) (rb := ds) (1 + q) (1 + q) c1 c5 Hdl.out Hdl.out (by simp) (by simp))
          rw [decide_eq_true rfl] at C3
          clear k3 C2 K2
          go_wp2_with fail
          (with_reducible refine C3.out.mono ?_); rintro e w4 ⟨rfl, k5⟩
          have K5 := Lib.hid k5
          clear k5 C3 K3
          have C8 := Lib.hid (ks_bget K5.out [true, true, true] (some ⟨ga, 0, none⟩) 3 3 rfl (K5.out.lv (g := ga) (cs := #[.bool true, .bool true, .bool true]) (lv := [true, true, true]) (t := 4) (f := (0, 0)) (by simp) rfl (by simp)) 2 (k : Int) (by omega) (by omega) Ht.out)
          rw [HG2.out] at C8
          go_wp2_with fail
          (with_reducible refine C8.out.mono ?_); rintro e w8 ⟨A8, c8, rfl, k8⟩
          have K8 := Lib.hid (k8.less (R' := []) (S' := []) (fun p hp => hp) (fun p hp => by cases hp) (fun p hp => by cases hp))
          clear k8 C8 K5
          go_wp2_with fail
          exact HK.out _ _ _ _ _ _ _ _ _ _ _ _ _ _ _ _ _ _ _ _ _ _ _ _ _ _ _ _ _ _ _ _ _ _ _ _ _ _ _ _ _ _ _ _ _ _ _ _ _ _ _ _ _ _ _ _ _ _ _ _ _ _ _ _ _ ⟨by omega, K8.out⟩ (by omega)
    · have e0 : ((y0 : Int) == (k : Int) + 1) = false := by rw [beq_eq_false_iff_ne]; omega
      have e1 : ((y1 : Int) == (k : Int) + 1) = false := by rw [beq_eq_false_iff_ne]; omega
      have e2 : ((y2 : Int) == (k : Int) + 1) = false := by rw [beq_eq_false_iff_ne]; omega
      have HF := Lib.hid (show fnd fh k = false by unfold fnd; rw [Y0.out, Y1.out, Y2.out, decide_eq_false f0, decide_eq_false f1, decide_eq_false f2]; rfl)
      clear Y0 Y1 Y2 f0 f1 f2
      rw [HG1.out, HF.out] at C1
      clear CS0 HDt HF HGL HG1 Hdl
      go_wp2_with fail
      (with_reducible refine C1.out.mono ?_); rintro e w2 ⟨A1, c1, rfl, k2⟩
      have K5 := Lib.hid k2
      clear C1 k2
      have C8 := Lib.hid (ks_bget K5.out [true, true, true] (some ⟨ga, 0, none⟩) 3 3 rfl (K5.out.lv (g := ga) (cs := #[.bool true, .bool true, .bool true]) (lv := [true, true, true]) (t := 4) (f := (0, 0)) (by simp) rfl (by simp)) 2 (k : Int) (by omega) (by omega) Ht.out)
      rw [HG2.out] at C8
      go_wp2_with fail
      (with_reducible refine C8.out.mono ?_); rintro e w8 ⟨A8, c8, rfl, k8⟩
      have K8 := Lib.hid (k8.less (R' := []) (S' := []) (fun p hp => hp) (fun p hp => by cases hp) (fun p hp => by cases hp))
      clear k8 C8 K5
      go_wp2_with fail
      exact HK.out _ _ _ _ _ _ _ _ _ _ _ _ _ _ _ _ _ _ _ _ _ _ _ _ _ _ _ _ _ _ _ _ _ _ _ _ _ _ _ _ _ _ _ _ _ _ _ _ _ _ _ _ _ _ _ _ _ _ _ _ _ _ _ _ _ ⟨by omega, K8.out⟩ (by omega)
  · have i1 : ¬ (k : Int) < 10 := by omega
    clear HK hK
    go_wp2_with fail
    exact HX.out _ _ _ _ _ _ _ _ _ _ _ _ _ _ _ _ _ _ _ _ _ _ _ _ _ _ _ _ _ _ _ _ _ _ _ _ _ _ _ _ _ _ _ _ _ _ _ _ _ _ _ _ _ _ _ _ _ _ _ _ _ _ _ _ trivial
set_option maxRecDepth 100000 in
set_option maxHeartbeats 3200000 in
theorem bnC {W0 : World} {A A2 : Option Addr} {zs ms : List Int} {cl cl2 b gh ga i : Nat} {fh : Nat → Nat} {H : BH} {N : Bch}  {w : World} (u2 u3 u6 u9 u10 u11 u13 u14 u15 u16 u17 u18 u19 u20 u21 u22 u23 u24 u25 u26 u27 u28 u29 u30 u31 u32 u33 u34 u35 u36 u37 u38 u39 u40 u41 u42 u43 u44 u45 u46 u47 u48 u49 u50 u51 u52 u53 u54 u55 u56 u57 u58 u59 u60 u61 u62 u63 u64 u65 u66 u67 u68 u69 u70 u71 u72 u73 u74 u75 u76 u77 u78 u79 u80 u81 u82 u83 u84 u85 u86 u87 u88 u89 u90 u91 u92 u93 u94 u95 u96 u97 u98 u99 u100 u101 u102 u103 u104 u105 u106 u107 u108 u109 u110 u111 u112 u113 u114 u115 u116 u117 u118 u119 u120 u121 u122 u123 u124 u125 u126 u127 u128 u129 u130 u131 u132 : Value) (Q : Exit → Act → World → Prop) (hcl : zs.length ≤ cl) (hz : RdZ W0 W0.heap.size A zs) (ht : TabOk W0) (hc : Cl N 3) (hs : Nst N fh i zs) (hi : i ≤ 10) (hI : (0 ≤ 10 ∧ KS W0 w b H N [(gh, Obj.cells (hv3 fh) 27 (0, 0)), (ga, Obj.cells #[.bool true, .bool true, .bool true] 4 (0, 0))] [] []))
    (hX : ∀ (v13 v14 v15 v16 v17 v73 v74 v75 v76 v77 v78 v79 v80 v81 v82 v83 v84 v85 v86 v87 v88 v89 v90 v91 v92 v93 v94 v95 v96 v97 v98 v99 v100 v101 v102 v103 v104 v105 v106 v107 v108 v109 v110 v111 v112 v113 v114 v115 v116 v117 v118 v119 v120 v121 v122 v123 v124 v125 v126 v127 v128 v129 v130 v131 : Value) (k : Nat) (V : World), (k ≤ 10 ∧ KS W0 V b H N [(gh, Obj.cells (hv3 fh) 27 (0, 0)), (ga, Obj.cells #[.bool true, .bool true, .bool true] 4 (0, 0))] [] []) → (True) → Q (.exit 4) ⟨List.toArray ((.slice A zs.length cl) :: (.slice A2 ms.length cl2) :: u2 :: u3 :: (.bool false) :: (.pointer (some ⟨b, 0, none⟩)) :: u6 :: (.pointer (some ⟨gh, 0, none⟩)) :: (.slice (some ⟨ga, 0, none⟩) 3 3) :: u9 :: u10 :: u11 :: (.int .i64 ((k : Nat) : Int)) :: v13 :: v14 :: v15 :: v16 :: v17 :: u18 :: u19 :: u20 :: u21 :: u22 :: u23 :: u24 :: u25 :: u26 :: u27 :: u28 :: u29 :: u30 :: u31 :: u32 :: u33 :: u34 :: u35 :: u36 :: u37 :: u38 :: u39 :: u40 :: u41 :: u42 :: u43 :: u44 :: u45 :: u46 :: u47 :: u48 :: u49 :: u50 :: u51 :: u52 :: u53 :: u54 :: u55 :: u56 :: u57 :: u58 :: u59 :: u60 :: u61 :: u62 :: u63 :: u64 :: u65 :: u66 :: u67 :: u68 :: u69 :: u70 :: u71 :: u72 :: v73 :: v74 :: v75 :: v76 :: v77 :: v78 :: v79 :: v80 :: v81 :: v82 :: v83 :: v84 :: v85 :: v86 :: v87 :: v88 :: v89 :: v90 :: v91 :: v92 :: v93 :: v94 :: v95 :: v96 :: v97 :: v98 :: v99 :: v100 :: v101 :: v102 :: v103 :: v104 :: v105 :: v106 :: v107 :: v108 :: v109 :: v110 :: v111 :: v112 :: v113 :: v114 :: v115 :: v116 :: v117 :: v118 :: v119 :: v120 :: v121 :: v122 :: v123 :: v124 :: v125 :: v126 :: v127 :: v128 :: v129 :: v130 :: v131 :: u132 :: []), []⟩ V) :
    Code.wp Tryd.prog (.loop (sub [1, 1, 1, 1, 1, 1, 0, 1, 0, 0] codeBN)) Q ⟨List.toArray ((.slice A zs.length cl) :: (.slice A2 ms.length cl2) :: u2 :: u3 :: (.bool false) :: (.pointer (some ⟨b, 0, none⟩)) :: u6 :: (.pointer (some ⟨gh, 0, none⟩)) :: (.slice (some ⟨ga, 0, none⟩) 3 3) :: u9 :: u10 :: u11 :: (.int .i64 ((0 : Nat) : Int)) :: u13 :: u14 :: u15 :: u16 :: u17 :: u18 :: u19 :: u20 :: u21 :: u22 :: u23 :: u24 :: u25 :: u26 :: u27 :: u28 :: u29 :: u30 :: u31 :: u32 :: u33 :: u34 :: u35 :: u36 :: u37 :: u38 :: u39 :: u40 :: u41 :: u42 :: u43 :: u44 :: u45 :: u46 :: u47 :: u48 :: u49 :: u50 :: u51 :: u52 :: u53 :: u54 :: u55 :: u56 :: u57 :: u58 :: u59 :: u60 :: u61 :: u62 :: u63 :: u64 :: u65 :: u66 :: u67 :: u68 :: u69 :: u70 :: u71 :: u72 :: u73 :: u74 :: u75 :: u76 :: u77 :: u78 :: u79 :: u80 :: u81 :: u82 :: u83 :: u84 :: u85 :: u86 :: u87 :: u88 :: u89 :: u90 :: u91 :: u92 :: u93 :: u94 :: u95 :: u96 :: u97 :: u98 :: u99 :: u100 :: u101 :: u102 :: u103 :: u104 :: u105 :: u106 :: u107 :: u108 :: u109 :: u110 :: u111 :: u112 :: u113 :: u114 :: u115 :: u116 :: u117 :: u118 :: u119 :: u120 :: u121 :: u122 :: u123 :: u124 :: u125 :: u126 :: u127 :: u128 :: u129 :: u130 :: u131 :: u132 :: []), []⟩ w := by
  refine wp_loop_ghost (fun gk a V => ∀ C : Prop, (∀ (u13 u14 u15 u16 u17 u73 u74 u75 u76 u77 u78 u79 u80 u81 u82 u83 u84 u85 u86 u87 u88 u89 u90 u91 u92 u93 u94 u95 u96 u97 u98 u99 u100 u101 u102 u103 u104 u105 u106 u107 u108 u109 u110 u111 u112 u113 u114 u115 u116 u117 u118 u119 u120 u121 u122 u123 u124 u125 u126 u127 u128 u129 u130 u131 : Value) (k : Nat), gk = 10 - k → (k ≤ 10 ∧ KS W0 V b H N [(gh, Obj.cells (hv3 fh) 27 (0, 0)), (ga, Obj.cells #[.bool true, .bool true, .bool true] 4 (0, 0))] [] []) → a = ⟨List.toArray ((.slice A zs.length cl) :: (.slice A2 ms.length cl2) :: u2 :: u3 :: (.bool false) :: (.pointer (some ⟨b, 0, none⟩)) :: u6 :: (.pointer (some ⟨gh, 0, none⟩)) :: (.slice (some ⟨ga, 0, none⟩) 3 3) :: u9 :: u10 :: u11 :: (.int .i64 ((k : Nat) : Int)) :: u13 :: u14 :: u15 :: u16 :: u17 :: u18 :: u19 :: u20 :: u21 :: u22 :: u23 :: u24 :: u25 :: u26 :: u27 :: u28 :: u29 :: u30 :: u31 :: u32 :: u33 :: u34 :: u35 :: u36 :: u37 :: u38 :: u39 :: u40 :: u41 :: u42 :: u43 :: u44 :: u45 :: u46 :: u47 :: u48 :: u49 :: u50 :: u51 :: u52 :: u53 :: u54 :: u55 :: u56 :: u57 :: u58 :: u59 :: u60 :: u61 :: u62 :: u63 :: u64 :: u65 :: u66 :: u67 :: u68 :: u69 :: u70 :: u71 :: u72 :: u73 :: u74 :: u75 :: u76 :: u77 :: u78 :: u79 :: u80 :: u81 :: u82 :: u83 :: u84 :: u85 :: u86 :: u87 :: u88 :: u89 :: u90 :: u91 :: u92 :: u93 :: u94 :: u95 :: u96 :: u97 :: u98 :: u99 :: u100 :: u101 :: u102 :: u103 :: u104 :: u105 :: u106 :: u107 :: u108 :: u109 :: u110 :: u111 :: u112 :: u113 :: u114 :: u115 :: u116 :: u117 :: u118 :: u119 :: u120 :: u121 :: u122 :: u123 :: u124 :: u125 :: u126 :: u127 :: u128 :: u129 :: u130 :: u131 :: u132 :: []), []⟩ → C) → C) (10 - 0) ?_ ?_
  · intro C hC
    exact hC _ _ _ _ _ _ _ _ _ _ _ _ _ _ _ _ _ _ _ _ _ _ _ _ _ _ _ _ _ _ _ _ _ _ _ _ _ _ _ _ _ _ _ _ _ _ _ _ _ _ _ _ _ _ _ _ _ _ _ _ _ _ _ _ (0) rfl hI rfl
  · intro gk a V hI'
    refine hI' _ ?_
    intro u13 u14 u15 u16 u17 u73 u74 u75 u76 u77 u78 u79 u80 u81 u82 u83 u84 u85 u86 u87 u88 u89 u90 u91 u92 u93 u94 u95 u96 u97 u98 u99 u100 u101 u102 u103 u104 u105 u106 u107 u108 u109 u110 u111 u112 u113 u114 u115 u116 u117 u118 u119 u120 u121 u122 u123 u124 u125 u126 u127 u128 u129 u130 u131 k hk hinv ha
    subst ha
    subst hk
    refine bnCb _ _ _ _ _ _ _ _ _ _ _ _ _ _ _ _ _ _ _ _ _ _ _ _ _ _ _ _ _ _ _ _ _ _ _ _ _ _ _ _ _ _ _ _ _ _ _ _ _ _ _ _ _ _ _ _ _ _ _ _ _ _ _ _ _ _ _ _ _ _ _ _ _ _ _ _ _ _ _ _ _ _ _ _ _ _ _ _ _ _ _ _ _ _ _ _ _ _ _ _ _ _ _ _ _ _ _ _ _ _ _ _ _ _ _ _ _ _ _ _ _ _ _ _ _ _ _ _ hcl hz ht hc hs hi hinv (fun v13 v14 v15 v16 v17 v73 v74 v75 v76 v77 v78 v79 v80 v81 v82 v83 v84 v85 v86 v87 v88 v89 v90 v91 v92 v93 v94 v95 v96 v97 v98 v99 v100 v101 v102 v103 v104 v105 v106 v107 v108 v109 v110 v111 v112 v113 v114 v115 v116 v117 v118 v119 v120 v121 v122 v123 v124 v125 v126 v127 v128 v129 v130 v131  V2 h2 hm => ?_) (fun v13 v14 v15 v16 v17 v73 v74 v75 v76 v77 v78 v79 v80 v81 v82 v83 v84 v85 v86 v87 v88 v89 v90 v91 v92 v93 v94 v95 v96 v97 v98 v99 v100 v101 v102 v103 v104 v105 v106 v107 v108 v109 v110 v111 v112 v113 v114 v115 v116 v117 v118 v119 v120 v121 v122 v123 v124 v125 v126 v127 v128 v129 v130 v131 hx => hX v13 v14 v15 v16 v17 v73 v74 v75 v76 v77 v78 v79 v80 v81 v82 v83 v84 v85 v86 v87 v88 v89 v90 v91 v92 v93 v94 v95 v96 v97 v98 v99 v100 v101 v102 v103 v104 v105 v106 v107 v108 v109 v110 v111 v112 v113 v114 v115 v116 v117 v118 v119 v120 v121 v122 v123 v124 v125 v126 v127 v128 v129 v130 v131 k V hinv hx)
    refine ⟨_, hm, fun C hC => ?_⟩
    exact hC v13 v14 v15 v16 v17 v73 v74 v75 v76 v77 v78 v79 v80 v81 v82 v83 v84 v85 v86 v87 v88 v89 v90 v91 v92 v93 v94 v95 v96 v97 v98 v99 v100 v101 v102 v103 v104 v105 v106 v107 v108 v109 v110 v111 v112 v113 v114 v115 v116 v117 v118 v119 v120 v121 v122 v123 v124 v125 v126 v127 v128 v129 v130 v131 ((k + 1)) rfl h2 rfl
end Go.Proofs.YtjnemopocmhfkaaDoor
end
