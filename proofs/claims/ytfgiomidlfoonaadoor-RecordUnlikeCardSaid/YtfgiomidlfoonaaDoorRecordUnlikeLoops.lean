/- RecordUnlike: its loops. -/
import Derived.Test.YtfgiomidlfoonaaDoorRecKit
import Derived.Test.YtfgiomidlfoonaaDoorSub
set_option linter.unusedVariables false
set_option linter.unusedSimpArgs false
namespace Go.Proofs.YtfgiomidlfoonaaDoor
open Go.RowKit

noncomputable def codeRU : Code := Tryd.f7.body.getD .skip
/-- The first rows are the same ones. -/
def sameN (rs qs : List (List UInt8)) : Nat → Bool
  | 0 => true
  | j + 1 => sameN rs qs j && decide (rs.getD j [] = qs.getD j [])
theorem sameN_iff (rs qs : List (List UInt8)) (j : Nat) : sameN rs qs j = true ↔ ∀ k, k < j → rs.getD k [] = qs.getD k [] := by
  induction j with
  | zero => exact ⟨fun _ k hk => absurd hk (Nat.not_lt_zero _), fun _ => rfl⟩
  | succ j ih =>
    show (sameN rs qs j && decide (rs.getD j [] = qs.getD j [])) = true ↔ _
    rw [Bool.and_eq_true, ih, decide_eq_true_iff]
    refine ⟨fun ⟨h1, h2⟩ k hk => ?_, fun h => ⟨fun k hk => h k (by omega), h j (by omega)⟩⟩
    by_cases e : k = j
    · subst e; exact h2
    · exact h1 k (by omega)
theorem sameN_all {rs qs : List (List UInt8)} (h : rs.length = 4) (h' : qs.length = 4) : sameN rs qs 4 = decide (rs = qs) := by
  rw [Bool.eq_iff_iff, sameN_iff, decide_eq_true_iff]
  exact ⟨fun q => rs_ext (h.trans h'.symm) (fun k hk => q k (by omega)), fun e k _ => by rw [e]⟩
set_option maxRecDepth 100000 in
set_option maxHeartbeats 3200000 in
theorem ruAb {V0 : World} {lo lo2 gx gy : Nat} {bx by2 : Nat → Nat} {rs qs : List (List UInt8)} {j : Nat} {q : Bool} {w : World} (u0 u1 u2 u3 u4 u5 u6 u7 u8 u9 u10 u11 u13 u14 u16 u18 u20 u21 u22 u23 u24 u25 u26 u27 u28 u29 u30 u31 u32 u33 u34 u35 u36 u37 u38 u39 u40 u41 u42 u43 u44 u45 u46 u47 u48 u49 u50 u51 u52 u53 u54 u55 u56 u57 u60 u61 u62 u63 u64 u65 u66 u67 u68 u69 u70 u71 u72 u73 u74 u75 u76 u77 u78 u79 u80 u81 u82 u83 u84 u85 u86 u87 u88 u89 u90 u91 u92 u93 u94 u95 u96 u97 u98 u99 u100 u101 u102 u103 u104 u105 u106 u107 u108 u109 u110 u111 u112 u113 u114 u115 u116 u117 u118 u119 u120 u121 u122 u123 u124 u125 u126 u127 u128 u129 u130 u131 u132 u133 u134 u135 u136 u137 u138 u139 u140 : Value) (K : Act → World → Prop) (Q0 : Exit → Act → World → Prop) (hp : P4 lo V0 gx bx rs) (hp2 : P4 lo2 V0 gy by2 qs) (hl : rs.length = 4) (hl2 : qs.length = 4) (hI : (j ≤ 4 ∧ q = sameN rs qs j ∧ Below V0.heap.size V0 w))
    (hK : ∀ (v20 v60 v61 v62 v63 v64 v65 v66 v67 v68 v69 v70 v71 v72 v73 v74 : Value) (q2 : Bool) (V : World), ((j + 1) ≤ 4 ∧ q2 = sameN rs qs (j + 1) ∧ Below V0.heap.size V0 V) → 4 - (j + 1) < 4 - j → K ⟨List.toArray (u0 :: u1 :: u2 :: u3 :: u4 :: u5 :: u6 :: u7 :: u8 :: u9 :: u10 :: u11 :: (.bool false) :: u13 :: u14 :: (.slice (some ⟨gx, 0, none⟩) 4 4) :: u16 :: (.slice (some ⟨gy, 0, none⟩) 4 4) :: u18 :: (.bool q2) :: v20 :: u21 :: u22 :: u23 :: u24 :: u25 :: u26 :: u27 :: u28 :: u29 :: u30 :: u31 :: u32 :: u33 :: u34 :: u35 :: u36 :: u37 :: u38 :: u39 :: u40 :: u41 :: u42 :: u43 :: u44 :: u45 :: u46 :: u47 :: u48 :: u49 :: u50 :: u51 :: u52 :: u53 :: u54 :: u55 :: u56 :: u57 :: (.int .i64 4) :: (.int .i64 (((j + 1) : Nat) : Int)) :: v60 :: v61 :: v62 :: v63 :: v64 :: v65 :: v66 :: v67 :: v68 :: v69 :: v70 :: v71 :: v72 :: v73 :: v74 :: u75 :: u76 :: u77 :: u78 :: u79 :: u80 :: u81 :: u82 :: u83 :: u84 :: u85 :: u86 :: u87 :: u88 :: u89 :: u90 :: u91 :: u92 :: u93 :: u94 :: u95 :: u96 :: u97 :: u98 :: u99 :: u100 :: u101 :: u102 :: u103 :: u104 :: u105 :: u106 :: u107 :: u108 :: u109 :: u110 :: u111 :: u112 :: u113 :: u114 :: u115 :: u116 :: u117 :: u118 :: u119 :: u120 :: u121 :: u122 :: u123 :: u124 :: u125 :: u126 :: u127 :: u128 :: u129 :: u130 :: u131 :: u132 :: u133 :: u134 :: u135 :: u136 :: u137 :: u138 :: u139 :: u140 :: []), []⟩ V)
    (hX : ∀ (v20 v60 v61 v62 v63 v64 v65 v66 v67 v68 v69 v70 v71 v72 v73 v74 : Value), (j = 4) → Q0 (.exit 0) ⟨List.toArray (u0 :: u1 :: u2 :: u3 :: u4 :: u5 :: u6 :: u7 :: u8 :: u9 :: u10 :: u11 :: (.bool false) :: u13 :: u14 :: (.slice (some ⟨gx, 0, none⟩) 4 4) :: u16 :: (.slice (some ⟨gy, 0, none⟩) 4 4) :: u18 :: (.bool q) :: v20 :: u21 :: u22 :: u23 :: u24 :: u25 :: u26 :: u27 :: u28 :: u29 :: u30 :: u31 :: u32 :: u33 :: u34 :: u35 :: u36 :: u37 :: u38 :: u39 :: u40 :: u41 :: u42 :: u43 :: u44 :: u45 :: u46 :: u47 :: u48 :: u49 :: u50 :: u51 :: u52 :: u53 :: u54 :: u55 :: u56 :: u57 :: (.int .i64 4) :: (.int .i64 ((j : Nat) : Int)) :: v60 :: v61 :: v62 :: v63 :: v64 :: v65 :: v66 :: v67 :: v68 :: v69 :: v70 :: v71 :: v72 :: v73 :: v74 :: u75 :: u76 :: u77 :: u78 :: u79 :: u80 :: u81 :: u82 :: u83 :: u84 :: u85 :: u86 :: u87 :: u88 :: u89 :: u90 :: u91 :: u92 :: u93 :: u94 :: u95 :: u96 :: u97 :: u98 :: u99 :: u100 :: u101 :: u102 :: u103 :: u104 :: u105 :: u106 :: u107 :: u108 :: u109 :: u110 :: u111 :: u112 :: u113 :: u114 :: u115 :: u116 :: u117 :: u118 :: u119 :: u120 :: u121 :: u122 :: u123 :: u124 :: u125 :: u126 :: u127 :: u128 :: u129 :: u130 :: u131 :: u132 :: u133 :: u134 :: u135 :: u136 :: u137 :: u138 :: u139 :: u140 :: []), []⟩ w) :
    Code.wp Tryd.prog (sub [1, 1, 1, 1, 1, 1, 0, 1, 0, 0] codeRU) (Exit.then K Q0) ⟨List.toArray (u0 :: u1 :: u2 :: u3 :: u4 :: u5 :: u6 :: u7 :: u8 :: u9 :: u10 :: u11 :: (.bool false) :: u13 :: u14 :: (.slice (some ⟨gx, 0, none⟩) 4 4) :: u16 :: (.slice (some ⟨gy, 0, none⟩) 4 4) :: u18 :: (.bool q) :: u20 :: u21 :: u22 :: u23 :: u24 :: u25 :: u26 :: u27 :: u28 :: u29 :: u30 :: u31 :: u32 :: u33 :: u34 :: u35 :: u36 :: u37 :: u38 :: u39 :: u40 :: u41 :: u42 :: u43 :: u44 :: u45 :: u46 :: u47 :: u48 :: u49 :: u50 :: u51 :: u52 :: u53 :: u54 :: u55 :: u56 :: u57 :: (.int .i64 4) :: (.int .i64 ((j : Nat) : Int)) :: u60 :: u61 :: u62 :: u63 :: u64 :: u65 :: u66 :: u67 :: u68 :: u69 :: u70 :: u71 :: u72 :: u73 :: u74 :: u75 :: u76 :: u77 :: u78 :: u79 :: u80 :: u81 :: u82 :: u83 :: u84 :: u85 :: u86 :: u87 :: u88 :: u89 :: u90 :: u91 :: u92 :: u93 :: u94 :: u95 :: u96 :: u97 :: u98 :: u99 :: u100 :: u101 :: u102 :: u103 :: u104 :: u105 :: u106 :: u107 :: u108 :: u109 :: u110 :: u111 :: u112 :: u113 :: u114 :: u115 :: u116 :: u117 :: u118 :: u119 :: u120 :: u121 :: u122 :: u123 :: u124 :: u125 :: u126 :: u127 :: u128 :: u129 :: u130 :: u131 :: u132 :: u133 :: u134 :: u135 :: u136 :: u137 :: u138 :: u139 :: u140 :: []), []⟩ w := by
  have HK := Lib.hid hK
  have HX := Lib.hid hX
  clear hK hX
  conv => arg 2; whnf
  obtain ⟨hj, hq, hB⟩ := hI
  by_cases hlt : j < 4
  · have Hp := hp.below hB
    have Hp2 := hp2.below hB
    have e1 := Hp.cell j (by omega)
    have e2 := Hp2.cell j (by omega)
    have CS := Lib.hid (fun n => Calls.quiet_of (same_any (some ⟨bx j, 0, none⟩) (some ⟨by2 j, 0, none⟩) 32 32 32 32 w.heap.size (rs.getD j []) (qs.getD j []) (w.drewN n) (Hp.len j (by omega)).symm (Hp2.len j (by omega)).symm ((Hp.rd j (by omega)).below (belowN _ _ n) (Nat.le_refl _)) ((Hp2.rd j (by omega)).below (belowN _ _ n) (Nat.le_refl _))))
    have Hn := Lib.hid (show sameN rs qs (j + 1) = (sameN rs qs j && decide (rs.getD j [] = qs.getD j [])) from rfl)
    rw [← hq] at Hn
    generalize bx j = c1 at e1 CS
    generalize by2 j = c2 at e2 CS
    generalize decide (rs.getD j [] = qs.getD j []) = d at CS Hn
    have k0 : (0 : Int) ≤ (j : Int) := by omega
    have k1 : (j : Int) < 4 := by omega
    have HB := Lib.hid hB
    clear hp hp2 hl hl2 hq hB Hp Hp2 HX
    cases q
    · clear CS
      go_wp2_with fail
      go_quiet (fail)
      go_wp2_with fail
      exact HK.out _ _ _ _ _ _ _ _ _ _ _ _ _ _ _ _ _ _ ⟨by omega, Hn.out.symm, HB.out.trans (belowN _ _ nq)⟩ (by omega)
    · cases d
      · go_wp2_with fail
        go_quiet ((go_at_call 10; exact CS.out _))
        go_wp2_with fail
        exact HK.out _ _ _ _ _ _ _ _ _ _ _ _ _ _ _ _ _ _ ⟨by omega, Hn.out.symm, HB.out.trans (belowN _ _ nq)⟩ (by omega)
      · go_wp2_with fail
        go_quiet ((go_at_call 10; exact CS.out _))
        go_wp2_with fail
        exact HK.out _ _ _ _ _ _ _ _ _ _ _ _ _ _ _ _ _ _ ⟨by omega, Hn.out.symm, HB.out.trans (belowN _ _ nq)⟩ (by omega)
  · obtain rfl : j = 4 := by omega
    clear HK hp hp2 hl hl2 hq hB
    go_wp2_with fail
    exact HX.out _ _ _ _ _ _ _ _ _ _ _ _ _ _ _ _ (by trivial)
set_option maxRecDepth 100000 in
set_option maxHeartbeats 3200000 in
theorem ruA {V0 : World} {lo lo2 gx gy : Nat} {bx by2 : Nat → Nat} {rs qs : List (List UInt8)}  {w : World} (u0 u1 u2 u3 u4 u5 u6 u7 u8 u9 u10 u11 u13 u14 u16 u18 u20 u21 u22 u23 u24 u25 u26 u27 u28 u29 u30 u31 u32 u33 u34 u35 u36 u37 u38 u39 u40 u41 u42 u43 u44 u45 u46 u47 u48 u49 u50 u51 u52 u53 u54 u55 u56 u57 u60 u61 u62 u63 u64 u65 u66 u67 u68 u69 u70 u71 u72 u73 u74 u75 u76 u77 u78 u79 u80 u81 u82 u83 u84 u85 u86 u87 u88 u89 u90 u91 u92 u93 u94 u95 u96 u97 u98 u99 u100 u101 u102 u103 u104 u105 u106 u107 u108 u109 u110 u111 u112 u113 u114 u115 u116 u117 u118 u119 u120 u121 u122 u123 u124 u125 u126 u127 u128 u129 u130 u131 u132 u133 u134 u135 u136 u137 u138 u139 u140 : Value) (Q : Exit → Act → World → Prop) (hp : P4 lo V0 gx bx rs) (hp2 : P4 lo2 V0 gy by2 qs) (hl : rs.length = 4) (hl2 : qs.length = 4) (hI : (0 ≤ 4 ∧ true = sameN rs qs 0 ∧ Below V0.heap.size V0 w))
    (hX : ∀ (v20 v60 v61 v62 v63 v64 v65 v66 v67 v68 v69 v70 v71 v72 v73 v74 : Value) (j : Nat) (q : Bool) (V : World), (j ≤ 4 ∧ q = sameN rs qs j ∧ Below V0.heap.size V0 V) → (j = 4) → Q (.exit 0) ⟨List.toArray (u0 :: u1 :: u2 :: u3 :: u4 :: u5 :: u6 :: u7 :: u8 :: u9 :: u10 :: u11 :: (.bool false) :: u13 :: u14 :: (.slice (some ⟨gx, 0, none⟩) 4 4) :: u16 :: (.slice (some ⟨gy, 0, none⟩) 4 4) :: u18 :: (.bool q) :: v20 :: u21 :: u22 :: u23 :: u24 :: u25 :: u26 :: u27 :: u28 :: u29 :: u30 :: u31 :: u32 :: u33 :: u34 :: u35 :: u36 :: u37 :: u38 :: u39 :: u40 :: u41 :: u42 :: u43 :: u44 :: u45 :: u46 :: u47 :: u48 :: u49 :: u50 :: u51 :: u52 :: u53 :: u54 :: u55 :: u56 :: u57 :: (.int .i64 4) :: (.int .i64 ((j : Nat) : Int)) :: v60 :: v61 :: v62 :: v63 :: v64 :: v65 :: v66 :: v67 :: v68 :: v69 :: v70 :: v71 :: v72 :: v73 :: v74 :: u75 :: u76 :: u77 :: u78 :: u79 :: u80 :: u81 :: u82 :: u83 :: u84 :: u85 :: u86 :: u87 :: u88 :: u89 :: u90 :: u91 :: u92 :: u93 :: u94 :: u95 :: u96 :: u97 :: u98 :: u99 :: u100 :: u101 :: u102 :: u103 :: u104 :: u105 :: u106 :: u107 :: u108 :: u109 :: u110 :: u111 :: u112 :: u113 :: u114 :: u115 :: u116 :: u117 :: u118 :: u119 :: u120 :: u121 :: u122 :: u123 :: u124 :: u125 :: u126 :: u127 :: u128 :: u129 :: u130 :: u131 :: u132 :: u133 :: u134 :: u135 :: u136 :: u137 :: u138 :: u139 :: u140 :: []), []⟩ V) :
    Code.wp Tryd.prog (.loop (sub [1, 1, 1, 1, 1, 1, 0, 1, 0, 0] codeRU)) Q ⟨List.toArray (u0 :: u1 :: u2 :: u3 :: u4 :: u5 :: u6 :: u7 :: u8 :: u9 :: u10 :: u11 :: (.bool false) :: u13 :: u14 :: (.slice (some ⟨gx, 0, none⟩) 4 4) :: u16 :: (.slice (some ⟨gy, 0, none⟩) 4 4) :: u18 :: (.bool true) :: u20 :: u21 :: u22 :: u23 :: u24 :: u25 :: u26 :: u27 :: u28 :: u29 :: u30 :: u31 :: u32 :: u33 :: u34 :: u35 :: u36 :: u37 :: u38 :: u39 :: u40 :: u41 :: u42 :: u43 :: u44 :: u45 :: u46 :: u47 :: u48 :: u49 :: u50 :: u51 :: u52 :: u53 :: u54 :: u55 :: u56 :: u57 :: (.int .i64 4) :: (.int .i64 ((0 : Nat) : Int)) :: u60 :: u61 :: u62 :: u63 :: u64 :: u65 :: u66 :: u67 :: u68 :: u69 :: u70 :: u71 :: u72 :: u73 :: u74 :: u75 :: u76 :: u77 :: u78 :: u79 :: u80 :: u81 :: u82 :: u83 :: u84 :: u85 :: u86 :: u87 :: u88 :: u89 :: u90 :: u91 :: u92 :: u93 :: u94 :: u95 :: u96 :: u97 :: u98 :: u99 :: u100 :: u101 :: u102 :: u103 :: u104 :: u105 :: u106 :: u107 :: u108 :: u109 :: u110 :: u111 :: u112 :: u113 :: u114 :: u115 :: u116 :: u117 :: u118 :: u119 :: u120 :: u121 :: u122 :: u123 :: u124 :: u125 :: u126 :: u127 :: u128 :: u129 :: u130 :: u131 :: u132 :: u133 :: u134 :: u135 :: u136 :: u137 :: u138 :: u139 :: u140 :: []), []⟩ w := by
  refine wp_loop_ghost (fun gk a V => ∀ C : Prop, (∀ (u20 u60 u61 u62 u63 u64 u65 u66 u67 u68 u69 u70 u71 u72 u73 u74 : Value) (j : Nat) (q : Bool), gk = 4 - j → (j ≤ 4 ∧ q = sameN rs qs j ∧ Below V0.heap.size V0 V) → a = ⟨List.toArray (u0 :: u1 :: u2 :: u3 :: u4 :: u5 :: u6 :: u7 :: u8 :: u9 :: u10 :: u11 :: (.bool false) :: u13 :: u14 :: (.slice (some ⟨gx, 0, none⟩) 4 4) :: u16 :: (.slice (some ⟨gy, 0, none⟩) 4 4) :: u18 :: (.bool q) :: u20 :: u21 :: u22 :: u23 :: u24 :: u25 :: u26 :: u27 :: u28 :: u29 :: u30 :: u31 :: u32 :: u33 :: u34 :: u35 :: u36 :: u37 :: u38 :: u39 :: u40 :: u41 :: u42 :: u43 :: u44 :: u45 :: u46 :: u47 :: u48 :: u49 :: u50 :: u51 :: u52 :: u53 :: u54 :: u55 :: u56 :: u57 :: (.int .i64 4) :: (.int .i64 ((j : Nat) : Int)) :: u60 :: u61 :: u62 :: u63 :: u64 :: u65 :: u66 :: u67 :: u68 :: u69 :: u70 :: u71 :: u72 :: u73 :: u74 :: u75 :: u76 :: u77 :: u78 :: u79 :: u80 :: u81 :: u82 :: u83 :: u84 :: u85 :: u86 :: u87 :: u88 :: u89 :: u90 :: u91 :: u92 :: u93 :: u94 :: u95 :: u96 :: u97 :: u98 :: u99 :: u100 :: u101 :: u102 :: u103 :: u104 :: u105 :: u106 :: u107 :: u108 :: u109 :: u110 :: u111 :: u112 :: u113 :: u114 :: u115 :: u116 :: u117 :: u118 :: u119 :: u120 :: u121 :: u122 :: u123 :: u124 :: u125 :: u126 :: u127 :: u128 :: u129 :: u130 :: u131 :: u132 :: u133 :: u134 :: u135 :: u136 :: u137 :: u138 :: u139 :: u140 :: []), []⟩ → C) → C) (4 - 0) ?_ ?_
  · intro C hC
    exact hC _ _ _ _ _ _ _ _ _ _ _ _ _ _ _ _ (0) (true) rfl hI rfl
  · intro gk a V hI'
    refine hI' _ ?_
    intro u20 u60 u61 u62 u63 u64 u65 u66 u67 u68 u69 u70 u71 u72 u73 u74 j q hk hinv ha
    subst ha
    subst hk
    refine ruAb _ _ _ _ _ _ _ _ _ _ _ _ _ _ _ _ _ _ _ _ _ _ _ _ _ _ _ _ _ _ _ _ _ _ _ _ _ _ _ _ _ _ _ _ _ _ _ _ _ _ _ _ _ _ _ _ _ _ _ _ _ _ _ _ _ _ _ _ _ _ _ _ _ _ _ _ _ _ _ _ _ _ _ _ _ _ _ _ _ _ _ _ _ _ _ _ _ _ _ _ _ _ _ _ _ _ _ _ _ _ _ _ _ _ _ _ _ _ _ _ _ _ _ _ _ _ _ _ _ _ _ _ _ _ _ _ _ hp hp2 hl hl2 hinv (fun v20 v60 v61 v62 v63 v64 v65 v66 v67 v68 v69 v70 v71 v72 v73 v74 q2 V2 h2 hm => ?_) (fun v20 v60 v61 v62 v63 v64 v65 v66 v67 v68 v69 v70 v71 v72 v73 v74 hx => hX v20 v60 v61 v62 v63 v64 v65 v66 v67 v68 v69 v70 v71 v72 v73 v74 j q V hinv hx)
    refine ⟨_, hm, fun C hC => ?_⟩
    exact hC v20 v60 v61 v62 v63 v64 v65 v66 v67 v68 v69 v70 v71 v72 v73 v74 ((j + 1)) (q2) rfl h2 rfl
set_option maxRecDepth 100000 in
set_option maxHeartbeats 3200000 in
theorem ruBb {V0 : World} {lo gx : Nat} {bx : Nat → Nat} {j : Nat} {ps : List (List UInt8)} {w : World} (u0 u1 u2 u3 u4 u5 u6 u7 u8 u9 u10 u11 u13 u14 u16 u17 u18 u19 u20 u21 u22 u23 u24 u25 u26 u27 u28 u29 u30 u31 u32 u33 u34 u35 u36 u37 u38 u39 u40 u41 u42 u43 u44 u45 u46 u47 u48 u49 u50 u51 u52 u53 u54 u55 u56 u57 u58 u59 u60 u61 u62 u63 u64 u65 u66 u67 u68 u69 u70 u71 u72 u73 u74 u75 u76 u77 u78 u79 u80 u81 u82 u83 u84 u85 u86 u89 u90 u91 u92 u93 u94 u95 u96 u97 u98 u99 u100 u101 u102 u103 u104 u105 u106 u107 u108 u109 u110 u111 u112 u113 u114 u115 u116 u117 u118 u119 u120 u121 u122 u123 u124 u125 u126 u127 u128 u129 u130 u131 u132 u133 u134 u135 u136 u137 u138 u139 u140 : Value) (K : Act → World → Prop) (Q0 : Exit → Act → World → Prop) (hlo : lo ≤ V0.heap.size) (hI : (j ≤ 3 ∧ ps.length = 4 ∧ P4 lo w gx bx ps ∧ Below lo V0 w))
    (hK : ∀ (v21 v89 v90 v91 v92 v93 v94 v95 v96 v97 v98 v99 v100 v101 v102 v103 v104 v105 v106 v107 : Value) (ps2 : List (List UInt8)) (V : World), ((j + 1) ≤ 3 ∧ ps2.length = 4 ∧ P4 lo V gx bx ps2 ∧ Below lo V0 V) → 3 - (j + 1) < 3 - j → K ⟨List.toArray (u0 :: u1 :: u2 :: u3 :: u4 :: u5 :: u6 :: u7 :: u8 :: u9 :: u10 :: u11 :: (.bool false) :: u13 :: u14 :: (.slice (some ⟨gx, 0, none⟩) 4 4) :: u16 :: u17 :: u18 :: u19 :: u20 :: v21 :: u22 :: u23 :: u24 :: u25 :: u26 :: u27 :: u28 :: u29 :: u30 :: u31 :: u32 :: u33 :: u34 :: u35 :: u36 :: u37 :: u38 :: u39 :: u40 :: u41 :: u42 :: u43 :: u44 :: u45 :: u46 :: u47 :: u48 :: u49 :: u50 :: u51 :: u52 :: u53 :: u54 :: u55 :: u56 :: u57 :: u58 :: u59 :: u60 :: u61 :: u62 :: u63 :: u64 :: u65 :: u66 :: u67 :: u68 :: u69 :: u70 :: u71 :: u72 :: u73 :: u74 :: u75 :: u76 :: u77 :: u78 :: u79 :: u80 :: u81 :: u82 :: u83 :: u84 :: u85 :: u86 :: (.int .i64 3) :: (.int .i64 (((j + 1) : Nat) : Int)) :: v89 :: v90 :: v91 :: v92 :: v93 :: v94 :: v95 :: v96 :: v97 :: v98 :: v99 :: v100 :: v101 :: v102 :: v103 :: v104 :: v105 :: v106 :: v107 :: u108 :: u109 :: u110 :: u111 :: u112 :: u113 :: u114 :: u115 :: u116 :: u117 :: u118 :: u119 :: u120 :: u121 :: u122 :: u123 :: u124 :: u125 :: u126 :: u127 :: u128 :: u129 :: u130 :: u131 :: u132 :: u133 :: u134 :: u135 :: u136 :: u137 :: u138 :: u139 :: u140 :: []), []⟩ V)
    (hX : ∀ (v21 v89 v90 v91 v92 v93 v94 v95 v96 v97 v98 v99 v100 v101 v102 v103 v104 v105 v106 v107 : Value), (True) → Q0 (.exit 2) ⟨List.toArray (u0 :: u1 :: u2 :: u3 :: u4 :: u5 :: u6 :: u7 :: u8 :: u9 :: u10 :: u11 :: (.bool false) :: u13 :: u14 :: (.slice (some ⟨gx, 0, none⟩) 4 4) :: u16 :: u17 :: u18 :: u19 :: u20 :: v21 :: u22 :: u23 :: u24 :: u25 :: u26 :: u27 :: u28 :: u29 :: u30 :: u31 :: u32 :: u33 :: u34 :: u35 :: u36 :: u37 :: u38 :: u39 :: u40 :: u41 :: u42 :: u43 :: u44 :: u45 :: u46 :: u47 :: u48 :: u49 :: u50 :: u51 :: u52 :: u53 :: u54 :: u55 :: u56 :: u57 :: u58 :: u59 :: u60 :: u61 :: u62 :: u63 :: u64 :: u65 :: u66 :: u67 :: u68 :: u69 :: u70 :: u71 :: u72 :: u73 :: u74 :: u75 :: u76 :: u77 :: u78 :: u79 :: u80 :: u81 :: u82 :: u83 :: u84 :: u85 :: u86 :: (.int .i64 3) :: (.int .i64 ((j : Nat) : Int)) :: v89 :: v90 :: v91 :: v92 :: v93 :: v94 :: v95 :: v96 :: v97 :: v98 :: v99 :: v100 :: v101 :: v102 :: v103 :: v104 :: v105 :: v106 :: v107 :: u108 :: u109 :: u110 :: u111 :: u112 :: u113 :: u114 :: u115 :: u116 :: u117 :: u118 :: u119 :: u120 :: u121 :: u122 :: u123 :: u124 :: u125 :: u126 :: u127 :: u128 :: u129 :: u130 :: u131 :: u132 :: u133 :: u134 :: u135 :: u136 :: u137 :: u138 :: u139 :: u140 :: []), []⟩ w) :
    Code.wp Tryd.prog (sub [1, 1, 1, 1, 1, 1, 1, 1, 0, 1, 0, 0] codeRU) (Exit.then K Q0) ⟨List.toArray (u0 :: u1 :: u2 :: u3 :: u4 :: u5 :: u6 :: u7 :: u8 :: u9 :: u10 :: u11 :: (.bool false) :: u13 :: u14 :: (.slice (some ⟨gx, 0, none⟩) 4 4) :: u16 :: u17 :: u18 :: u19 :: u20 :: u21 :: u22 :: u23 :: u24 :: u25 :: u26 :: u27 :: u28 :: u29 :: u30 :: u31 :: u32 :: u33 :: u34 :: u35 :: u36 :: u37 :: u38 :: u39 :: u40 :: u41 :: u42 :: u43 :: u44 :: u45 :: u46 :: u47 :: u48 :: u49 :: u50 :: u51 :: u52 :: u53 :: u54 :: u55 :: u56 :: u57 :: u58 :: u59 :: u60 :: u61 :: u62 :: u63 :: u64 :: u65 :: u66 :: u67 :: u68 :: u69 :: u70 :: u71 :: u72 :: u73 :: u74 :: u75 :: u76 :: u77 :: u78 :: u79 :: u80 :: u81 :: u82 :: u83 :: u84 :: u85 :: u86 :: (.int .i64 3) :: (.int .i64 ((j : Nat) : Int)) :: u89 :: u90 :: u91 :: u92 :: u93 :: u94 :: u95 :: u96 :: u97 :: u98 :: u99 :: u100 :: u101 :: u102 :: u103 :: u104 :: u105 :: u106 :: u107 :: u108 :: u109 :: u110 :: u111 :: u112 :: u113 :: u114 :: u115 :: u116 :: u117 :: u118 :: u119 :: u120 :: u121 :: u122 :: u123 :: u124 :: u125 :: u126 :: u127 :: u128 :: u129 :: u130 :: u131 :: u132 :: u133 :: u134 :: u135 :: u136 :: u137 :: u138 :: u139 :: u140 :: []), []⟩ w := by
  have HK := Lib.hid hK
  have HX := Lib.hid hX
  clear hK hX
  conv => arg 2; whnf
  obtain ⟨hj, hl, hp, hB⟩ := hI
  by_cases hlt : j < 3
  · have hjl : 1 + j < ps.length := by omega
    have e1 := hp.cell (1 + j) hjl
    obtain ⟨e2, e3⟩ := hp.byte (1 + j) hjl 0 (by omega)
    obtain ⟨hp7, hg7⟩ := hp.put (1 + j) hjl 0 (((ps.getD (1 + j) []).getD 0 0) ^^^ 1)
    have F7 := hB.grown hg7 (Nat.le_trans hlo hB.size) (fun j' e => by injection e with e; subst e; exact (hp.blt (1 + j) hjl).1)
    have H7 := Lib.hid (And.intro hp7 F7)
    have hx : bits .xor .u8 ((((ps.getD (1 + j) []).getD 0 0).toNat : Nat) : Int) 1 = (((((ps.getD (1 + j) []).getD 0 0) ^^^ 1).toNat : Nat) : Int) := xor_u8 _ 1
    have Hl : Hid ((ps.set (1 + j) ((ps.getD (1 + j) []).set 0 (((ps.getD (1 + j) []).getD 0 0) ^^^ 1))).length = 4) := Lib.hid (by rw [List.length_set]; exact hl)
    generalize ps.set (1 + j) ((ps.getD (1 + j) []).set 0 (((ps.getD (1 + j) []).getD 0 0) ^^^ 1)) = ps' at H7 Hl
    generalize ((ps.getD (1 + j) []).getD 0 0) ^^^ 1 = x1 at H7 hx
    generalize (ps.getD (1 + j) []).getD 0 0 = x0 at e2 hx
    generalize bx (1 + j) = b at e1 e2 e3 H7
    have k1 : (j : Int) < 3 := by omega
    have k2 : IntKind.i64.wrap (1 + (j : Int)) = 1 + (j : Int) := by rw [IntKind.wrap_i64]; omega
    have k3 : 0 ≤ 1 + (j : Int) ∧ 1 + (j : Int) < 4 := by omega
    have k4 : (1 + (j : Int)).toNat = 1 + j := by omega
    clear hp7 hg7 F7 hp hB hl hjl HX
    go_wp2_with fail
    exact HK.out _ _ _ _ _ _ _ _ _ _ _ _ _ _ _ _ _ _ _ _ _ _ ⟨by omega, Hl.out, H7.out.1, H7.out.2⟩ (by omega)
  · have k1 : ¬ (j : Int) < 3 := by omega
    clear HK hp hl hB hlo
    go_wp2_with fail
    exact HX.out _ _ _ _ _ _ _ _ _ _ _ _ _ _ _ _ _ _ _ _ (by trivial)
set_option maxRecDepth 100000 in
set_option maxHeartbeats 3200000 in
theorem ruB {V0 : World} {lo gx : Nat} {bx : Nat → Nat} {ps0 : List (List UInt8)} {w : World} (u0 u1 u2 u3 u4 u5 u6 u7 u8 u9 u10 u11 u13 u14 u16 u17 u18 u19 u20 u21 u22 u23 u24 u25 u26 u27 u28 u29 u30 u31 u32 u33 u34 u35 u36 u37 u38 u39 u40 u41 u42 u43 u44 u45 u46 u47 u48 u49 u50 u51 u52 u53 u54 u55 u56 u57 u58 u59 u60 u61 u62 u63 u64 u65 u66 u67 u68 u69 u70 u71 u72 u73 u74 u75 u76 u77 u78 u79 u80 u81 u82 u83 u84 u85 u86 u89 u90 u91 u92 u93 u94 u95 u96 u97 u98 u99 u100 u101 u102 u103 u104 u105 u106 u107 u108 u109 u110 u111 u112 u113 u114 u115 u116 u117 u118 u119 u120 u121 u122 u123 u124 u125 u126 u127 u128 u129 u130 u131 u132 u133 u134 u135 u136 u137 u138 u139 u140 : Value) (Q : Exit → Act → World → Prop) (hlo : lo ≤ V0.heap.size) (hI : (0 ≤ 3 ∧ ps0.length = 4 ∧ P4 lo w gx bx ps0 ∧ Below lo V0 w))
    (hX : ∀ (v21 v89 v90 v91 v92 v93 v94 v95 v96 v97 v98 v99 v100 v101 v102 v103 v104 v105 v106 v107 : Value) (j : Nat) (ps : List (List UInt8)) (V : World), (j ≤ 3 ∧ ps.length = 4 ∧ P4 lo V gx bx ps ∧ Below lo V0 V) → (True) → Q (.exit 2) ⟨List.toArray (u0 :: u1 :: u2 :: u3 :: u4 :: u5 :: u6 :: u7 :: u8 :: u9 :: u10 :: u11 :: (.bool false) :: u13 :: u14 :: (.slice (some ⟨gx, 0, none⟩) 4 4) :: u16 :: u17 :: u18 :: u19 :: u20 :: v21 :: u22 :: u23 :: u24 :: u25 :: u26 :: u27 :: u28 :: u29 :: u30 :: u31 :: u32 :: u33 :: u34 :: u35 :: u36 :: u37 :: u38 :: u39 :: u40 :: u41 :: u42 :: u43 :: u44 :: u45 :: u46 :: u47 :: u48 :: u49 :: u50 :: u51 :: u52 :: u53 :: u54 :: u55 :: u56 :: u57 :: u58 :: u59 :: u60 :: u61 :: u62 :: u63 :: u64 :: u65 :: u66 :: u67 :: u68 :: u69 :: u70 :: u71 :: u72 :: u73 :: u74 :: u75 :: u76 :: u77 :: u78 :: u79 :: u80 :: u81 :: u82 :: u83 :: u84 :: u85 :: u86 :: (.int .i64 3) :: (.int .i64 ((j : Nat) : Int)) :: v89 :: v90 :: v91 :: v92 :: v93 :: v94 :: v95 :: v96 :: v97 :: v98 :: v99 :: v100 :: v101 :: v102 :: v103 :: v104 :: v105 :: v106 :: v107 :: u108 :: u109 :: u110 :: u111 :: u112 :: u113 :: u114 :: u115 :: u116 :: u117 :: u118 :: u119 :: u120 :: u121 :: u122 :: u123 :: u124 :: u125 :: u126 :: u127 :: u128 :: u129 :: u130 :: u131 :: u132 :: u133 :: u134 :: u135 :: u136 :: u137 :: u138 :: u139 :: u140 :: []), []⟩ V) :
    Code.wp Tryd.prog (.loop (sub [1, 1, 1, 1, 1, 1, 1, 1, 0, 1, 0, 0] codeRU)) Q ⟨List.toArray (u0 :: u1 :: u2 :: u3 :: u4 :: u5 :: u6 :: u7 :: u8 :: u9 :: u10 :: u11 :: (.bool false) :: u13 :: u14 :: (.slice (some ⟨gx, 0, none⟩) 4 4) :: u16 :: u17 :: u18 :: u19 :: u20 :: u21 :: u22 :: u23 :: u24 :: u25 :: u26 :: u27 :: u28 :: u29 :: u30 :: u31 :: u32 :: u33 :: u34 :: u35 :: u36 :: u37 :: u38 :: u39 :: u40 :: u41 :: u42 :: u43 :: u44 :: u45 :: u46 :: u47 :: u48 :: u49 :: u50 :: u51 :: u52 :: u53 :: u54 :: u55 :: u56 :: u57 :: u58 :: u59 :: u60 :: u61 :: u62 :: u63 :: u64 :: u65 :: u66 :: u67 :: u68 :: u69 :: u70 :: u71 :: u72 :: u73 :: u74 :: u75 :: u76 :: u77 :: u78 :: u79 :: u80 :: u81 :: u82 :: u83 :: u84 :: u85 :: u86 :: (.int .i64 3) :: (.int .i64 ((0 : Nat) : Int)) :: u89 :: u90 :: u91 :: u92 :: u93 :: u94 :: u95 :: u96 :: u97 :: u98 :: u99 :: u100 :: u101 :: u102 :: u103 :: u104 :: u105 :: u106 :: u107 :: u108 :: u109 :: u110 :: u111 :: u112 :: u113 :: u114 :: u115 :: u116 :: u117 :: u118 :: u119 :: u120 :: u121 :: u122 :: u123 :: u124 :: u125 :: u126 :: u127 :: u128 :: u129 :: u130 :: u131 :: u132 :: u133 :: u134 :: u135 :: u136 :: u137 :: u138 :: u139 :: u140 :: []), []⟩ w := by
  refine wp_loop_ghost (fun gk a V => ∀ C : Prop, (∀ (u21 u89 u90 u91 u92 u93 u94 u95 u96 u97 u98 u99 u100 u101 u102 u103 u104 u105 u106 u107 : Value) (j : Nat) (ps : List (List UInt8)), gk = 3 - j → (j ≤ 3 ∧ ps.length = 4 ∧ P4 lo V gx bx ps ∧ Below lo V0 V) → a = ⟨List.toArray (u0 :: u1 :: u2 :: u3 :: u4 :: u5 :: u6 :: u7 :: u8 :: u9 :: u10 :: u11 :: (.bool false) :: u13 :: u14 :: (.slice (some ⟨gx, 0, none⟩) 4 4) :: u16 :: u17 :: u18 :: u19 :: u20 :: u21 :: u22 :: u23 :: u24 :: u25 :: u26 :: u27 :: u28 :: u29 :: u30 :: u31 :: u32 :: u33 :: u34 :: u35 :: u36 :: u37 :: u38 :: u39 :: u40 :: u41 :: u42 :: u43 :: u44 :: u45 :: u46 :: u47 :: u48 :: u49 :: u50 :: u51 :: u52 :: u53 :: u54 :: u55 :: u56 :: u57 :: u58 :: u59 :: u60 :: u61 :: u62 :: u63 :: u64 :: u65 :: u66 :: u67 :: u68 :: u69 :: u70 :: u71 :: u72 :: u73 :: u74 :: u75 :: u76 :: u77 :: u78 :: u79 :: u80 :: u81 :: u82 :: u83 :: u84 :: u85 :: u86 :: (.int .i64 3) :: (.int .i64 ((j : Nat) : Int)) :: u89 :: u90 :: u91 :: u92 :: u93 :: u94 :: u95 :: u96 :: u97 :: u98 :: u99 :: u100 :: u101 :: u102 :: u103 :: u104 :: u105 :: u106 :: u107 :: u108 :: u109 :: u110 :: u111 :: u112 :: u113 :: u114 :: u115 :: u116 :: u117 :: u118 :: u119 :: u120 :: u121 :: u122 :: u123 :: u124 :: u125 :: u126 :: u127 :: u128 :: u129 :: u130 :: u131 :: u132 :: u133 :: u134 :: u135 :: u136 :: u137 :: u138 :: u139 :: u140 :: []), []⟩ → C) → C) (3 - 0) ?_ ?_
  · intro C hC
    exact hC _ _ _ _ _ _ _ _ _ _ _ _ _ _ _ _ _ _ _ _ (0) (ps0) rfl hI rfl
  · intro gk a V hI'
    refine hI' _ ?_
    intro u21 u89 u90 u91 u92 u93 u94 u95 u96 u97 u98 u99 u100 u101 u102 u103 u104 u105 u106 u107 j ps hk hinv ha
    subst ha
    subst hk
    refine ruBb _ _ _ _ _ _ _ _ _ _ _ _ _ _ _ _ _ _ _ _ _ _ _ _ _ _ _ _ _ _ _ _ _ _ _ _ _ _ _ _ _ _ _ _ _ _ _ _ _ _ _ _ _ _ _ _ _ _ _ _ _ _ _ _ _ _ _ _ _ _ _ _ _ _ _ _ _ _ _ _ _ _ _ _ _ _ _ _ _ _ _ _ _ _ _ _ _ _ _ _ _ _ _ _ _ _ _ _ _ _ _ _ _ _ _ _ _ _ _ _ _ _ _ _ _ _ _ _ _ _ _ _ _ _ _ _ _ _ _ hlo hinv (fun v21 v89 v90 v91 v92 v93 v94 v95 v96 v97 v98 v99 v100 v101 v102 v103 v104 v105 v106 v107 ps2 V2 h2 hm => ?_) (fun v21 v89 v90 v91 v92 v93 v94 v95 v96 v97 v98 v99 v100 v101 v102 v103 v104 v105 v106 v107 hx => hX v21 v89 v90 v91 v92 v93 v94 v95 v96 v97 v98 v99 v100 v101 v102 v103 v104 v105 v106 v107 j ps V hinv hx)
    refine ⟨_, hm, fun C hC => ?_⟩
    exact hC v21 v89 v90 v91 v92 v93 v94 v95 v96 v97 v98 v99 v100 v101 v102 v103 v104 v105 v106 v107 ((j + 1)) (ps2) rfl h2 rfl
set_option maxRecDepth 100000 in
set_option maxHeartbeats 3200000 in
theorem ruCb {V0 : World} {lo gx p : Nat} {bx : Nat → Nat} {s : Int} {M : List It} {B : Option Addr} {cb : Nat} {j : Nat} {w : World} (u0 u1 u2 u3 u4 u5 u6 u7 u8 u9 u10 u11 u14 u15 u16 u17 u18 u19 u20 u21 u23 u24 u25 u26 u27 u28 u29 u30 u31 u32 u33 u34 u35 u36 u37 u38 u39 u40 u41 u42 u43 u44 u45 u46 u47 u48 u49 u50 u51 u52 u53 u54 u55 u56 u57 u58 u59 u60 u61 u62 u63 u64 u65 u66 u67 u68 u69 u70 u71 u72 u73 u74 u75 u76 u77 u78 u79 u80 u81 u82 u83 u84 u85 u86 u87 u88 u89 u90 u91 u92 u93 u94 u95 u96 u97 u98 u99 u100 u101 u102 u103 u104 u105 u106 u107 u108 u109 u110 u111 u112 u113 u114 u115 u116 u117 u118 u119 u120 u121 u124 u125 u126 u127 u128 u129 u130 u131 u132 u133 u134 u135 u136 u137 u138 u139 u140 : Value) (K : Act → World → Prop) (Q0 : Exit → Act → World → Prop) (hp : P4 lo V0 gx bx (recB s M)) (hl : M.length ≤ 3) (hb : RxB V0 p s B M.length cb) (hr : RdI V0 V0.heap.size B M) (h32 : Its32 M) (hI : (j ≤ M.length ∧ Below V0.heap.size V0 w))
    (hK : ∀ (v24 v124 v125 v126 v127 v128 v129 v130 v131 v132 v133 v134 v135 v136 v137 v138 v139 : Value)  (V : World), ((j + 1) ≤ M.length ∧ Below V0.heap.size V0 V) → M.length - (j + 1) < M.length - j → K ⟨List.toArray (u0 :: u1 :: u2 :: u3 :: u4 :: u5 :: u6 :: u7 :: u8 :: u9 :: u10 :: u11 :: (.bool false) :: (.pointer (some ⟨p, 0, none⟩)) :: u14 :: u15 :: u16 :: u17 :: u18 :: u19 :: u20 :: u21 :: (.slice (some ⟨gx, 0, none⟩) 4 4) :: u23 :: v24 :: u25 :: u26 :: u27 :: u28 :: u29 :: u30 :: u31 :: u32 :: u33 :: u34 :: u35 :: u36 :: u37 :: u38 :: u39 :: u40 :: u41 :: u42 :: u43 :: u44 :: u45 :: u46 :: u47 :: u48 :: u49 :: u50 :: u51 :: u52 :: u53 :: u54 :: u55 :: u56 :: u57 :: u58 :: u59 :: u60 :: u61 :: u62 :: u63 :: u64 :: u65 :: u66 :: u67 :: u68 :: u69 :: u70 :: u71 :: u72 :: u73 :: u74 :: u75 :: u76 :: u77 :: u78 :: u79 :: u80 :: u81 :: u82 :: u83 :: u84 :: u85 :: u86 :: u87 :: u88 :: u89 :: u90 :: u91 :: u92 :: u93 :: u94 :: u95 :: u96 :: u97 :: u98 :: u99 :: u100 :: u101 :: u102 :: u103 :: u104 :: u105 :: u106 :: u107 :: u108 :: u109 :: u110 :: u111 :: u112 :: u113 :: u114 :: u115 :: u116 :: u117 :: u118 :: u119 :: u120 :: u121 :: (.int .i64 (M.length : Int)) :: (.int .i64 (((j + 1) : Nat) : Int)) :: v124 :: v125 :: v126 :: v127 :: v128 :: v129 :: v130 :: v131 :: v132 :: v133 :: v134 :: v135 :: v136 :: v137 :: v138 :: v139 :: u140 :: []), []⟩ V)
    (hX : ∀ (v24 v124 v125 v126 v127 v128 v129 v130 v131 v132 v133 v134 v135 v136 v137 v138 v139 : Value), (True) → Q0 (.exit 4) ⟨List.toArray (u0 :: u1 :: u2 :: u3 :: u4 :: u5 :: u6 :: u7 :: u8 :: u9 :: u10 :: u11 :: (.bool false) :: (.pointer (some ⟨p, 0, none⟩)) :: u14 :: u15 :: u16 :: u17 :: u18 :: u19 :: u20 :: u21 :: (.slice (some ⟨gx, 0, none⟩) 4 4) :: u23 :: v24 :: u25 :: u26 :: u27 :: u28 :: u29 :: u30 :: u31 :: u32 :: u33 :: u34 :: u35 :: u36 :: u37 :: u38 :: u39 :: u40 :: u41 :: u42 :: u43 :: u44 :: u45 :: u46 :: u47 :: u48 :: u49 :: u50 :: u51 :: u52 :: u53 :: u54 :: u55 :: u56 :: u57 :: u58 :: u59 :: u60 :: u61 :: u62 :: u63 :: u64 :: u65 :: u66 :: u67 :: u68 :: u69 :: u70 :: u71 :: u72 :: u73 :: u74 :: u75 :: u76 :: u77 :: u78 :: u79 :: u80 :: u81 :: u82 :: u83 :: u84 :: u85 :: u86 :: u87 :: u88 :: u89 :: u90 :: u91 :: u92 :: u93 :: u94 :: u95 :: u96 :: u97 :: u98 :: u99 :: u100 :: u101 :: u102 :: u103 :: u104 :: u105 :: u106 :: u107 :: u108 :: u109 :: u110 :: u111 :: u112 :: u113 :: u114 :: u115 :: u116 :: u117 :: u118 :: u119 :: u120 :: u121 :: (.int .i64 (M.length : Int)) :: (.int .i64 ((j : Nat) : Int)) :: v124 :: v125 :: v126 :: v127 :: v128 :: v129 :: v130 :: v131 :: v132 :: v133 :: v134 :: v135 :: v136 :: v137 :: v138 :: v139 :: u140 :: []), []⟩ w) :
    Code.wp Tryd.prog (sub [1, 1, 1, 1, 1, 1, 1, 1, 1, 1, 1, 0, 1, 0, 0] codeRU) (Exit.then K Q0) ⟨List.toArray (u0 :: u1 :: u2 :: u3 :: u4 :: u5 :: u6 :: u7 :: u8 :: u9 :: u10 :: u11 :: (.bool false) :: (.pointer (some ⟨p, 0, none⟩)) :: u14 :: u15 :: u16 :: u17 :: u18 :: u19 :: u20 :: u21 :: (.slice (some ⟨gx, 0, none⟩) 4 4) :: u23 :: u24 :: u25 :: u26 :: u27 :: u28 :: u29 :: u30 :: u31 :: u32 :: u33 :: u34 :: u35 :: u36 :: u37 :: u38 :: u39 :: u40 :: u41 :: u42 :: u43 :: u44 :: u45 :: u46 :: u47 :: u48 :: u49 :: u50 :: u51 :: u52 :: u53 :: u54 :: u55 :: u56 :: u57 :: u58 :: u59 :: u60 :: u61 :: u62 :: u63 :: u64 :: u65 :: u66 :: u67 :: u68 :: u69 :: u70 :: u71 :: u72 :: u73 :: u74 :: u75 :: u76 :: u77 :: u78 :: u79 :: u80 :: u81 :: u82 :: u83 :: u84 :: u85 :: u86 :: u87 :: u88 :: u89 :: u90 :: u91 :: u92 :: u93 :: u94 :: u95 :: u96 :: u97 :: u98 :: u99 :: u100 :: u101 :: u102 :: u103 :: u104 :: u105 :: u106 :: u107 :: u108 :: u109 :: u110 :: u111 :: u112 :: u113 :: u114 :: u115 :: u116 :: u117 :: u118 :: u119 :: u120 :: u121 :: (.int .i64 (M.length : Int)) :: (.int .i64 ((j : Nat) : Int)) :: u124 :: u125 :: u126 :: u127 :: u128 :: u129 :: u130 :: u131 :: u132 :: u133 :: u134 :: u135 :: u136 :: u137 :: u138 :: u139 :: u140 :: []), []⟩ w := by
  have HK := Lib.hid hK
  have HX := Lib.hid hX
  clear hK hX
  conv => arg 2; whnf
  obtain ⟨hj, hB⟩ := hI
  by_cases hlt : j < M.length
  · have Hp := hp.below hB
    have hrl : (recB s M).length = 4 := recB_len hl
    have hjl : 1 + j < (recB s M).length := by omega
    have e1 := Hp.cell (1 + j) hjl
    have e4 := (hb.below hB).2
    obtain ⟨ga, rfl, hga, hc⟩ := (hr.below hB (Nat.le_refl _)).2 (by omega)
    obtain ⟨D', c', hrp, hrd⟩ := hc j hlt
    have e5 := hrp 2 _ rfl
    have h32' : (itN M j).b.length = 32 := h32 _ (itN_mem hlt)
    rw [h32'] at e5
    have ed : (recB s M).getD (1 + j) [] = (itN M j).b := by rw [recB_getS, partsB_get j hlt]
    have hx1 := (Hp.rd (1 + j) hjl)
    rw [ed] at hx1
    have CS := Lib.hid (fun n => Calls.quiet_of (same_any (some ⟨bx (1 + j), 0, none⟩) D' 32 32 32 c' w.heap.size (itN M j).b (itN M j).b (w.drewN n) h32'.symm h32'.symm (hx1.below (belowN _ _ n) (Nat.le_refl _)) ((hrd.more hB.size).below (belowN _ _ n) (Nat.le_refl _))))
    rw [decide_eq_true (rfl : (itN M j).b = (itN M j).b)] at CS
    generalize (itN M j).b = bb at CS
    generalize bx (1 + j) = b at e1 CS
    have k0 : (0 : Int) ≤ (j : Int) := by omega
    have k1 : (j : Int) < (M.length : Int) := by omega
    have k2 : IntKind.i64.wrap (1 + (j : Int)) = 1 + (j : Int) := by rw [IntKind.wrap_i64]; omega
    have k3 : 0 ≤ 1 + (j : Int) ∧ 1 + (j : Int) < 4 := by omega
    have k4 : (1 + (j : Int)).toNat = 1 + j := by omega
    have HB := Lib.hid hB
    clear hp hB hl Hp hrl hjl hb hr h32 hc hrp hrd h32' ed hx1 HX
    go_wp2_with fail
    go_quiet ((go_at_call 10; exact CS.out _))
    go_wp2_with fail
    exact HK.out _ _ _ _ _ _ _ _ _ _ _ _ _ _ _ _ _ _ ⟨by omega, HB.out.trans (belowN _ _ nq)⟩ (by omega)
  · have k1 : ¬ (j : Int) < (M.length : Int) := by omega
    clear HK hp hb hr h32 hB
    go_wp2_with fail
    exact HX.out _ _ _ _ _ _ _ _ _ _ _ _ _ _ _ _ _ (by trivial)
set_option maxRecDepth 100000 in
set_option maxHeartbeats 3200000 in
theorem ruC {V0 : World} {lo gx p : Nat} {bx : Nat → Nat} {s : Int} {M : List It} {B : Option Addr} {cb : Nat}  {w : World} (u0 u1 u2 u3 u4 u5 u6 u7 u8 u9 u10 u11 u14 u15 u16 u17 u18 u19 u20 u21 u23 u24 u25 u26 u27 u28 u29 u30 u31 u32 u33 u34 u35 u36 u37 u38 u39 u40 u41 u42 u43 u44 u45 u46 u47 u48 u49 u50 u51 u52 u53 u54 u55 u56 u57 u58 u59 u60 u61 u62 u63 u64 u65 u66 u67 u68 u69 u70 u71 u72 u73 u74 u75 u76 u77 u78 u79 u80 u81 u82 u83 u84 u85 u86 u87 u88 u89 u90 u91 u92 u93 u94 u95 u96 u97 u98 u99 u100 u101 u102 u103 u104 u105 u106 u107 u108 u109 u110 u111 u112 u113 u114 u115 u116 u117 u118 u119 u120 u121 u124 u125 u126 u127 u128 u129 u130 u131 u132 u133 u134 u135 u136 u137 u138 u139 u140 : Value) (Q : Exit → Act → World → Prop) (hp : P4 lo V0 gx bx (recB s M)) (hl : M.length ≤ 3) (hb : RxB V0 p s B M.length cb) (hr : RdI V0 V0.heap.size B M) (h32 : Its32 M) (hI : (0 ≤ M.length ∧ Below V0.heap.size V0 w))
    (hX : ∀ (v24 v124 v125 v126 v127 v128 v129 v130 v131 v132 v133 v134 v135 v136 v137 v138 v139 : Value) (j : Nat) (V : World), (j ≤ M.length ∧ Below V0.heap.size V0 V) → (True) → Q (.exit 4) ⟨List.toArray (u0 :: u1 :: u2 :: u3 :: u4 :: u5 :: u6 :: u7 :: u8 :: u9 :: u10 :: u11 :: (.bool false) :: (.pointer (some ⟨p, 0, none⟩)) :: u14 :: u15 :: u16 :: u17 :: u18 :: u19 :: u20 :: u21 :: (.slice (some ⟨gx, 0, none⟩) 4 4) :: u23 :: v24 :: u25 :: u26 :: u27 :: u28 :: u29 :: u30 :: u31 :: u32 :: u33 :: u34 :: u35 :: u36 :: u37 :: u38 :: u39 :: u40 :: u41 :: u42 :: u43 :: u44 :: u45 :: u46 :: u47 :: u48 :: u49 :: u50 :: u51 :: u52 :: u53 :: u54 :: u55 :: u56 :: u57 :: u58 :: u59 :: u60 :: u61 :: u62 :: u63 :: u64 :: u65 :: u66 :: u67 :: u68 :: u69 :: u70 :: u71 :: u72 :: u73 :: u74 :: u75 :: u76 :: u77 :: u78 :: u79 :: u80 :: u81 :: u82 :: u83 :: u84 :: u85 :: u86 :: u87 :: u88 :: u89 :: u90 :: u91 :: u92 :: u93 :: u94 :: u95 :: u96 :: u97 :: u98 :: u99 :: u100 :: u101 :: u102 :: u103 :: u104 :: u105 :: u106 :: u107 :: u108 :: u109 :: u110 :: u111 :: u112 :: u113 :: u114 :: u115 :: u116 :: u117 :: u118 :: u119 :: u120 :: u121 :: (.int .i64 (M.length : Int)) :: (.int .i64 ((j : Nat) : Int)) :: v124 :: v125 :: v126 :: v127 :: v128 :: v129 :: v130 :: v131 :: v132 :: v133 :: v134 :: v135 :: v136 :: v137 :: v138 :: v139 :: u140 :: []), []⟩ V) :
    Code.wp Tryd.prog (.loop (sub [1, 1, 1, 1, 1, 1, 1, 1, 1, 1, 1, 0, 1, 0, 0] codeRU)) Q ⟨List.toArray (u0 :: u1 :: u2 :: u3 :: u4 :: u5 :: u6 :: u7 :: u8 :: u9 :: u10 :: u11 :: (.bool false) :: (.pointer (some ⟨p, 0, none⟩)) :: u14 :: u15 :: u16 :: u17 :: u18 :: u19 :: u20 :: u21 :: (.slice (some ⟨gx, 0, none⟩) 4 4) :: u23 :: u24 :: u25 :: u26 :: u27 :: u28 :: u29 :: u30 :: u31 :: u32 :: u33 :: u34 :: u35 :: u36 :: u37 :: u38 :: u39 :: u40 :: u41 :: u42 :: u43 :: u44 :: u45 :: u46 :: u47 :: u48 :: u49 :: u50 :: u51 :: u52 :: u53 :: u54 :: u55 :: u56 :: u57 :: u58 :: u59 :: u60 :: u61 :: u62 :: u63 :: u64 :: u65 :: u66 :: u67 :: u68 :: u69 :: u70 :: u71 :: u72 :: u73 :: u74 :: u75 :: u76 :: u77 :: u78 :: u79 :: u80 :: u81 :: u82 :: u83 :: u84 :: u85 :: u86 :: u87 :: u88 :: u89 :: u90 :: u91 :: u92 :: u93 :: u94 :: u95 :: u96 :: u97 :: u98 :: u99 :: u100 :: u101 :: u102 :: u103 :: u104 :: u105 :: u106 :: u107 :: u108 :: u109 :: u110 :: u111 :: u112 :: u113 :: u114 :: u115 :: u116 :: u117 :: u118 :: u119 :: u120 :: u121 :: (.int .i64 (M.length : Int)) :: (.int .i64 ((0 : Nat) : Int)) :: u124 :: u125 :: u126 :: u127 :: u128 :: u129 :: u130 :: u131 :: u132 :: u133 :: u134 :: u135 :: u136 :: u137 :: u138 :: u139 :: u140 :: []), []⟩ w := by
  refine wp_loop_ghost (fun gk a V => ∀ C : Prop, (∀ (u24 u124 u125 u126 u127 u128 u129 u130 u131 u132 u133 u134 u135 u136 u137 u138 u139 : Value) (j : Nat), gk = M.length - j → (j ≤ M.length ∧ Below V0.heap.size V0 V) → a = ⟨List.toArray (u0 :: u1 :: u2 :: u3 :: u4 :: u5 :: u6 :: u7 :: u8 :: u9 :: u10 :: u11 :: (.bool false) :: (.pointer (some ⟨p, 0, none⟩)) :: u14 :: u15 :: u16 :: u17 :: u18 :: u19 :: u20 :: u21 :: (.slice (some ⟨gx, 0, none⟩) 4 4) :: u23 :: u24 :: u25 :: u26 :: u27 :: u28 :: u29 :: u30 :: u31 :: u32 :: u33 :: u34 :: u35 :: u36 :: u37 :: u38 :: u39 :: u40 :: u41 :: u42 :: u43 :: u44 :: u45 :: u46 :: u47 :: u48 :: u49 :: u50 :: u51 :: u52 :: u53 :: u54 :: u55 :: u56 :: u57 :: u58 :: u59 :: u60 :: u61 :: u62 :: u63 :: u64 :: u65 :: u66 :: u67 :: u68 :: u69 :: u70 :: u71 :: u72 :: u73 :: u74 :: u75 :: u76 :: u77 :: u78 :: u79 :: u80 :: u81 :: u82 :: u83 :: u84 :: u85 :: u86 :: u87 :: u88 :: u89 :: u90 :: u91 :: u92 :: u93 :: u94 :: u95 :: u96 :: u97 :: u98 :: u99 :: u100 :: u101 :: u102 :: u103 :: u104 :: u105 :: u106 :: u107 :: u108 :: u109 :: u110 :: u111 :: u112 :: u113 :: u114 :: u115 :: u116 :: u117 :: u118 :: u119 :: u120 :: u121 :: (.int .i64 (M.length : Int)) :: (.int .i64 ((j : Nat) : Int)) :: u124 :: u125 :: u126 :: u127 :: u128 :: u129 :: u130 :: u131 :: u132 :: u133 :: u134 :: u135 :: u136 :: u137 :: u138 :: u139 :: u140 :: []), []⟩ → C) → C) (M.length - 0) ?_ ?_
  · intro C hC
    exact hC _ _ _ _ _ _ _ _ _ _ _ _ _ _ _ _ _ (0) rfl hI rfl
  · intro gk a V hI'
    refine hI' _ ?_
    intro u24 u124 u125 u126 u127 u128 u129 u130 u131 u132 u133 u134 u135 u136 u137 u138 u139 j hk hinv ha
    subst ha
    subst hk
    refine ruCb _ _ _ _ _ _ _ _ _ _ _ _ _ _ _ _ _ _ _ _ _ _ _ _ _ _ _ _ _ _ _ _ _ _ _ _ _ _ _ _ _ _ _ _ _ _ _ _ _ _ _ _ _ _ _ _ _ _ _ _ _ _ _ _ _ _ _ _ _ _ _ _ _ _ _ _ _ _ _ _ _ _ _ _ _ _ _ _ _ _ _ _ _ _ _ _ _ _ _ _ _ _ _ _ _ _ _ _ _ _ _ _ _ _ _ _ _ _ _ _ _ _ _ _ _ _ _ _ _ _ _ _ _ _ _ _ _ _ hp hl hb hr h32 hinv (fun v24 v124 v125 v126 v127 v128 v129 v130 v131 v132 v133 v134 v135 v136 v137 v138 v139  V2 h2 hm => ?_) (fun v24 v124 v125 v126 v127 v128 v129 v130 v131 v132 v133 v134 v135 v136 v137 v138 v139 hx => hX v24 v124 v125 v126 v127 v128 v129 v130 v131 v132 v133 v134 v135 v136 v137 v138 v139 j V hinv hx)
    refine ⟨_, hm, fun C hC => ?_⟩
    exact hC v24 v124 v125 v126 v127 v128 v129 v130 v131 v132 v133 v134 v135 v136 v137 v138 v139 ((j + 1)) rfl h2 rfl
end Go.Proofs.YtfgiomidlfoonaaDoor
