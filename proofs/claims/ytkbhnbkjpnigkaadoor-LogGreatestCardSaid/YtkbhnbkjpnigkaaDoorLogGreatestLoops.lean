/- LogGreatest: its numbers, its loops. -/
import Derived.Test.YtkbhnbkjpnigkaaDoorLcba
import Derived.Test.YtkbhnbkjpnigkaaDoorLcaf
import Derived.Test.YtkbhnbkjpnigkaaDoorLcaa
import Derived.Test.YtkbhnbkjpnigkaaDoorLcad
set_option linter.unusedVariables false
set_option linter.unusedSimpArgs false
namespace Go.Proofs.YtkbhnbkjpnigkaaDoor
open Go.RowKit

noncomputable def codeLGr : Code := Tryd.f6.body.getD .skip
def mkI (d : Nat) : It := ⟨(d : Int), 36, List.replicate 32 0⟩
theorem mkI_ok {s : Int} {d : Nat} (h1 : 1 ≤ s ∧ s ≤ 4) (hd : d < 3) : recOk s [mkI d] = true := by
  refine (recOk_iff _ _).2 ⟨⟨h1.1, by omega, by simp⟩, (fineN_iff _ _).2 fun k hk => ?_⟩
  obtain rfl : k = 0 := by simp at hk; omega
  refine ⟨(mayB_iff _).2 ⟨by show (0 : Int) ≤ (d : Int); omega, by show (d : Int) < 8; omega, by show (36 : Int) ≤ 36; omega, by show (36 : Int) < 52; omega, rfl⟩, fun j hj => by omega⟩
/-- Three numbers, each on its disk, as far as d. -/
structure GgN (N : Bch) (q : Nat → Int) (d : Nat) : Prop where
  n : N.n = 3
  good : GoodB N
  f : ∀ j, j < 3 → (N.D j).f = false
  done : N.done ≤ 100 * d
  has : ∀ j, j < d → onS N j = q j ∧ onL N j = [mkI j]
theorem gg_new (q : Nat → Int) : GgN (Bch.new 3) q 0 := ⟨rfl, goodB_new 3, fun _ _ => rfl, Nat.le_refl _, fun j hj => by omega⟩
theorem live_d {d j : Nat} (hd : d < 3) (hj : j < 3) : liveD 3 [((d : Int) == 0), ((d : Int) == 1), ((d : Int) == 2)] (j : Int) = decide (d = j) := by
  have h : d = 0 ∨ d = 1 ∨ d = 2 := by omega
  have h' : j = 0 ∨ j = 1 ∨ j = 2 := by omega
  rcases h with rfl | rfl | rfl <;> rcases h' with rfl | rfl | rfl <;> rfl
theorem gg_step {N M : Bch} {q : Nat → Int} {d : Nat} (h : GgN N q d) (hd : d < 3) (g : PtG N M [((d : Int) == 0), ((d : Int) == 1), ((d : Int) == 2)] (q d) [mkI d]) : GgN M q (d + 1) := by
  have hn := h.n
  refine ⟨g.n.trans hn, g.good, fun j hj => (g.f j (by omega)).trans (h.f j hj), by have := g.done; have := h.done; omega, fun j hj => ?_⟩
  by_cases e : j = d
  · subst e
    exact g.put j (by omega) (by rw [hn, live_d hd (by omega)]; exact decide_eq_true rfl) (h.f j (by omega))
  · have := g.not j (by omega) (fun q' => by rw [hn, live_d hd (by omega)] at q'; have := of_decide_eq_true q'.1; omega)
    rw [this.1, this.2]; exact h.has j (by omega)
/-- Which is the best of the first d. -/
def bst (q : Nat → Int) (lv : List Bool) : Nat → Int
  | 0 => -1
  | d + 1 => if lv.getD d false = true ∧ (bst q lv d < 0 ∨ q (bst q lv d).toNat < q d) then (d : Int) else bst q lv d
theorem bst_le (q : Nat → Int) (lv : List Bool) : ∀ d, -1 ≤ bst q lv d ∧ bst q lv d < (d : Int)
  | 0 => ⟨Int.le_refl _, by show (-1 : Int) < ((0 : Nat) : Int); omega⟩
  | d + 1 => by
    have := bst_le q lv d
    rw [bst]; split <;> omega
theorem bst_get {N : Bch} {q : Nat → Int} {lv : List Bool} (h : GgN N q 3) (hq : ∀ j, j < 3 → 1 ≤ q j) : ∀ d, d ≤ 3 → getTo N lv d = if bst q lv d < 0 then (0, []) else (q (bst q lv d).toNat, [mkI (bst q lv d).toNat])
  | 0, _ => rfl
  | d + 1, hd => by
    have ih := bst_get (lv := lv) h hq d (by omega)
    have hb := bst_le q lv d
    have h1 := h.has d (by omega)
    have hqd := hq d (by omega)
    have hlv : liveD N.n lv (d : Int) = lv.getD d false := by
      unfold liveD; rw [h.n, decide_eq_true (show (d : Int) < ((3 : Nat) : Int) by omega)]; rfl
    have hB : onB N d = true := by rw [onB_pos, h1.1]; exact decide_eq_true (by omega)
    have HS : bst q lv (d + 1) = if lv.getD d false = true ∧ (bst q lv d < 0 ∨ q (bst q lv d).toNat < q d) then (d : Int) else bst q lv d := rfl
    have HT : getTo N lv (d + 1) = if lv.getD d false = true ∧ (true : Bool) = true ∧ (getTo N lv d).1 < q d then (q d, [mkI d]) else getTo N lv d := by
      rw [getTo, hlv, hB, h1.1, h1.2]
    rw [ih] at HT
    generalize bst q lv d = k at *
    generalize bst q lv (d + 1) = k2 at *
    generalize getTo N lv (d + 1) = r at *
    by_cases hl : lv.getD d false = true
    · by_cases h0 : k < 0
      · rw [if_pos h0, if_pos ⟨hl, rfl, by show (0 : Int) < _; omega⟩] at HT
        rw [if_pos ⟨hl, .inl h0⟩] at HS
        rw [HT, HS, if_neg (by omega)]; rfl
      · rw [if_neg h0] at HT
        by_cases hlt : q k.toNat < q d
        · rw [if_pos ⟨hl, rfl, hlt⟩] at HT
          rw [if_pos ⟨hl, .inr hlt⟩] at HS
          rw [HT, HS, if_neg (by omega)]; rfl
        · rw [if_neg (fun x => hlt x.2.2)] at HT
          rw [if_neg (fun x => x.2.elim h0 hlt)] at HS
          rw [HT, HS, if_neg h0]
    · rw [if_neg (fun x => hl x.1)] at HT
      rw [if_neg (fun x => hl x.1)] at HS
      rw [HT, HS]
theorem rdI_one {w : World} {g : Nat} {x : It} {D : Option Addr} {c : Nat} {t : TypeId} {f : Nat × Nat} (hg : w.heap[g]? = some (.cells (List.toArray [.int .i64 x.d, .int .i64 x.a, .slice D x.b.length c]) t f)) (hr : RdB w w.heap.size D x.b) : RdI w w.heap.size (some ⟨g, 0, none⟩) [x] :=
  ⟨by simp, fun _ => ⟨g, rfl, (Array.getElem?_eq_some_iff.1 hg).1, fun k hk => by
    obtain rfl : k = 0 := by simp at hk; omega
    refine ⟨D, c, fun j u hj => ?_, hr⟩
    rw [Nat.zero_mul, Nat.zero_add, cell_of_row w g j _ t f hg]
    simp only [List.getElem?_toArray]; exact hj⟩⟩
def q3 (q : Nat → Int) : List Value := [.int .i64 (q 0), .int .i64 (q 1), .int .i64 (q 2)]
theorem q3_get (q : Nat → Int) {d : Nat} (h : d < 3) : (q3 q)[d]? = some (.int .i64 (q d)) := by
  have : d = 0 ∨ d = 1 ∨ d = 2 := by omega
  rcases this with rfl | rfl | rfl <;> rfl
set_option maxRecDepth 100000 in
set_option maxHeartbeats 3200000 in
theorem lgAb {w0 : World} {b sg : Nat} {q : Nat → Int} {d : Nat} {H : BH} {N : Bch} {w : World} (u0 u1 u2 u3 u4 u5 u6 u7 u8 u9 u10 u11 u12 u14 u16 u17 u18 u19 u20 u21 u22 u23 u24 u25 u26 u27 u28 u29 u30 u31 u32 u33 u34 u35 u36 u37 u38 u39 u40 u41 u42 u43 u44 u45 u49 u50 u51 u52 u53 u54 u55 u56 u57 u58 u59 u60 u61 u62 u63 u64 u65 u66 u67 u68 u69 u70 u71 u72 u73 u74 u75 u76 u77 u78 u79 u80 u81 u82 u83 u84 u85 u86 u87 u88 u89 u90 u91 u92 u93 u94 u95 u96 u97 u98 u99 u100 u101 u102 u103 u104 u105 u106 u107 u108 u109 u110 u111 u112 u113 u114 u115 u116 u117 u118 u119 u120 u121 u122 u123 u124 u125 u126 u127 u128 u129 u130 u131 u132 u133 u134 u135 u136 u137 u138 u139 u140 u141 u142 u143 u144 u145 u146 u147 u148 u149 u150 u151 u152 : Value) (K : Act → World → Prop) (Q0 : Exit → Act → World → Prop) (ht : TabOk w0) (hq : ∀ j, j < 3 → 1 ≤ q j ∧ q j ≤ 4) (hI : (d ≤ 3 ∧ KX w0 w b H N [(sg, .cells (q3 q).toArray 3 (0, 0))] ∧ GgN N q d))
    (hK : ∀ (v12 v16 v17 v18 v19 v49 v50 v51 v52 v53 v54 v55 v56 v57 v58 v59 v60 v61 v62 v63 v64 v65 v66 v67 v68 v69 v70 v71 : Value) (H2 : BH) (N2 : Bch) (V : World), ((d + 1) ≤ 3 ∧ KX w0 V b H2 N2 [(sg, .cells (q3 q).toArray 3 (0, 0))] ∧ GgN N2 q (d + 1)) → 3 - (d + 1) < 3 - d → K ⟨List.toArray (u0 :: u1 :: u2 :: u3 :: u4 :: u5 :: u6 :: u7 :: u8 :: u9 :: u10 :: u11 :: v12 :: (.pointer (some ⟨b, 0, none⟩)) :: u14 :: (.slice (some ⟨sg, 0, none⟩) 3 3) :: v16 :: v17 :: v18 :: v19 :: u20 :: u21 :: u22 :: u23 :: u24 :: u25 :: u26 :: u27 :: u28 :: u29 :: u30 :: u31 :: u32 :: u33 :: u34 :: u35 :: u36 :: u37 :: u38 :: u39 :: u40 :: u41 :: u42 :: u43 :: u44 :: u45 :: (.slice (some ⟨sg, 0, none⟩) 3 3) :: (.int .i64 3) :: (.int .i64 (((d + 1) : Nat) : Int)) :: v49 :: v50 :: v51 :: v52 :: v53 :: v54 :: v55 :: v56 :: v57 :: v58 :: v59 :: v60 :: v61 :: v62 :: v63 :: v64 :: v65 :: v66 :: v67 :: v68 :: v69 :: v70 :: v71 :: u72 :: u73 :: u74 :: u75 :: u76 :: u77 :: u78 :: u79 :: u80 :: u81 :: u82 :: u83 :: u84 :: u85 :: u86 :: u87 :: u88 :: u89 :: u90 :: u91 :: u92 :: u93 :: u94 :: u95 :: u96 :: u97 :: u98 :: u99 :: u100 :: u101 :: u102 :: u103 :: u104 :: u105 :: u106 :: u107 :: u108 :: u109 :: u110 :: u111 :: u112 :: u113 :: u114 :: u115 :: u116 :: u117 :: u118 :: u119 :: u120 :: u121 :: u122 :: u123 :: u124 :: u125 :: u126 :: u127 :: u128 :: u129 :: u130 :: u131 :: u132 :: u133 :: u134 :: u135 :: u136 :: u137 :: u138 :: u139 :: u140 :: u141 :: u142 :: u143 :: u144 :: u145 :: u146 :: u147 :: u148 :: u149 :: u150 :: u151 :: u152 :: []), []⟩ V)
    (hX : ∀ (v12 v16 v17 v18 v19 v49 v50 v51 v52 v53 v54 v55 v56 v57 v58 v59 v60 v61 v62 v63 v64 v65 v66 v67 v68 v69 v70 v71 : Value), (d = 3) → Q0 (.exit 0) ⟨List.toArray (u0 :: u1 :: u2 :: u3 :: u4 :: u5 :: u6 :: u7 :: u8 :: u9 :: u10 :: u11 :: v12 :: (.pointer (some ⟨b, 0, none⟩)) :: u14 :: (.slice (some ⟨sg, 0, none⟩) 3 3) :: v16 :: v17 :: v18 :: v19 :: u20 :: u21 :: u22 :: u23 :: u24 :: u25 :: u26 :: u27 :: u28 :: u29 :: u30 :: u31 :: u32 :: u33 :: u34 :: u35 :: u36 :: u37 :: u38 :: u39 :: u40 :: u41 :: u42 :: u43 :: u44 :: u45 :: (.slice (some ⟨sg, 0, none⟩) 3 3) :: (.int .i64 3) :: (.int .i64 ((d : Nat) : Int)) :: v49 :: v50 :: v51 :: v52 :: v53 :: v54 :: v55 :: v56 :: v57 :: v58 :: v59 :: v60 :: v61 :: v62 :: v63 :: v64 :: v65 :: v66 :: v67 :: v68 :: v69 :: v70 :: v71 :: u72 :: u73 :: u74 :: u75 :: u76 :: u77 :: u78 :: u79 :: u80 :: u81 :: u82 :: u83 :: u84 :: u85 :: u86 :: u87 :: u88 :: u89 :: u90 :: u91 :: u92 :: u93 :: u94 :: u95 :: u96 :: u97 :: u98 :: u99 :: u100 :: u101 :: u102 :: u103 :: u104 :: u105 :: u106 :: u107 :: u108 :: u109 :: u110 :: u111 :: u112 :: u113 :: u114 :: u115 :: u116 :: u117 :: u118 :: u119 :: u120 :: u121 :: u122 :: u123 :: u124 :: u125 :: u126 :: u127 :: u128 :: u129 :: u130 :: u131 :: u132 :: u133 :: u134 :: u135 :: u136 :: u137 :: u138 :: u139 :: u140 :: u141 :: u142 :: u143 :: u144 :: u145 :: u146 :: u147 :: u148 :: u149 :: u150 :: u151 :: u152 :: []), []⟩ w) :
    Code.wp Tryd.prog (sub [1, 1, 1, 1, 0, 1, 0, 0] codeLGr) (Exit.then K Q0) ⟨List.toArray (u0 :: u1 :: u2 :: u3 :: u4 :: u5 :: u6 :: u7 :: u8 :: u9 :: u10 :: u11 :: u12 :: (.pointer (some ⟨b, 0, none⟩)) :: u14 :: (.slice (some ⟨sg, 0, none⟩) 3 3) :: u16 :: u17 :: u18 :: u19 :: u20 :: u21 :: u22 :: u23 :: u24 :: u25 :: u26 :: u27 :: u28 :: u29 :: u30 :: u31 :: u32 :: u33 :: u34 :: u35 :: u36 :: u37 :: u38 :: u39 :: u40 :: u41 :: u42 :: u43 :: u44 :: u45 :: (.slice (some ⟨sg, 0, none⟩) 3 3) :: (.int .i64 3) :: (.int .i64 ((d : Nat) : Int)) :: u49 :: u50 :: u51 :: u52 :: u53 :: u54 :: u55 :: u56 :: u57 :: u58 :: u59 :: u60 :: u61 :: u62 :: u63 :: u64 :: u65 :: u66 :: u67 :: u68 :: u69 :: u70 :: u71 :: u72 :: u73 :: u74 :: u75 :: u76 :: u77 :: u78 :: u79 :: u80 :: u81 :: u82 :: u83 :: u84 :: u85 :: u86 :: u87 :: u88 :: u89 :: u90 :: u91 :: u92 :: u93 :: u94 :: u95 :: u96 :: u97 :: u98 :: u99 :: u100 :: u101 :: u102 :: u103 :: u104 :: u105 :: u106 :: u107 :: u108 :: u109 :: u110 :: u111 :: u112 :: u113 :: u114 :: u115 :: u116 :: u117 :: u118 :: u119 :: u120 :: u121 :: u122 :: u123 :: u124 :: u125 :: u126 :: u127 :: u128 :: u129 :: u130 :: u131 :: u132 :: u133 :: u134 :: u135 :: u136 :: u137 :: u138 :: u139 :: u140 :: u141 :: u142 :: u143 :: u144 :: u145 :: u146 :: u147 :: u148 :: u149 :: u150 :: u151 :: u152 :: []), []⟩ w := by
  have HK := Lib.hid hK
  have HX := Lib.hid hX
  clear hK hX
  conv => arg 2; whnf
  obtain ⟨hd3, hK, hG⟩ := hI
  have hmk : ∀ w, (Instr.makeSlice 41 (.int .i64 32) (.int .i64 32)).run Tryd.prog w = .ok (.slice (some ⟨w.heap.size, 0, none⟩) 32 32) (w.alloc (.cells (zcells 32) 5)) := make_bytes 32 (by omega)
  by_cases hlt : d < 3
  · have HG := Lib.hid hG
    have Hs := Lib.hid (fun M g => gg_step (M := M) hG hlt g)
    have Ht := Lib.hid ht
    have hqd := hq d hlt
    have d0 : (0 : Int) ≤ (d : Int) := by omega
    have d1 : (d : Int) < 3 := by omega
    have Hok := Lib.hid (mkI_ok (s := q d) (d := d) hqd hlt)
    have hc := (cell_of_row _ _ d _ _ _ (hK.kp _ (List.mem_cons_self ..)).1)
    rw [List.getElem?_toArray, q3_get q hlt] at hc
    have K1 := hK.below (below1 w (.cells #[.bool ((d : Int) == 0), .bool ((d : Int) == 1), .bool ((d : Int) == 2)] 4 (0, 0)))
    obtain ⟨wa, hwa⟩ : ∃ wa, w.alloc (.cells #[.bool ((d : Int) == 0), .bool ((d : Int) == 1), .bool ((d : Int) == 2)] 4 (0, 0)) = wa := ⟨_, rfl⟩
    have za : wa.heap.size = w.heap.size + 1 := by rw [← hwa]; simp
    have ha : wa.heap[w.heap.size]? = some (.cells #[.bool ((d : Int) == 0), .bool ((d : Int) == 1), .bool ((d : Int) == 2)] 4 (0, 0)) := by rw [← hwa]; exact heap_alloc_new _ _
    have B4 := below3 wa (.cells (zcells 32) 5) (.cells #[.int .i64 (d : Int), .int .i64 36, .slice (some ⟨w.heap.size + 1, 0, none⟩) 32 32] 43) (.cells #[.int .i64 (q d), .slice (some ⟨w.heap.size + 1 + 1, 0, none⟩) 1 1] 29)
    have ob := (own_make 5 wa 32 (by omega)).rdS.1
    have hz1 : (wa.alloc (.cells (zcells 32) 5)).heap.size = w.heap.size + 2 := by simp [za]
    have hi := hp_new (wa.alloc (.cells (zcells 32) 5)) (.cells #[.int .i64 (d : Int), .int .i64 36, .slice (some ⟨w.heap.size + 1, 0, none⟩) 32 32] 43) _ rfl
    rw [hz1] at hi
    have B2 := below2 (wa.alloc (.cells (zcells 32) 5)) (.cells #[.int .i64 (d : Int), .int .i64 36, .slice (some ⟨w.heap.size + 1, 0, none⟩) 32 32] 43) (.cells #[.int .i64 (q d), .slice (some ⟨w.heap.size + 1 + 1, 0, none⟩) 1 1] 29)
    have hi2 := (hp_old _ (.cells #[.int .i64 (q d), .slice (some ⟨w.heap.size + 1 + 1, 0, none⟩) 1 1] 29) (w.heap.size + 2) (by rw [show ((wa.alloc (.cells (zcells 32) 5)).alloc (.cells #[.int .i64 (d : Int), .int .i64 36, .slice (some ⟨w.heap.size + 1, 0, none⟩) 32 32] 43)).heap.size = w.heap.size + 3 by simp [za]]; omega)).trans hi
    have ob2 := (ob.below B2 (Nat.le_refl _)).more B2.size
    have R4 := Lib.hid (rdo_row ((B4.block w.heap.size (by omega)).trans ha) (l := [((d : Int) == 0), ((d : Int) == 1), ((d : Int) == 2)]) rfl (by simp))
    rw [hwa] at K1
    have K4 := Lib.hid (K1.below B4)
    rw [za] at ob2
    have RI := Lib.hid (rdI_one (x := mkI d) (D := some ⟨w.heap.size + 1, 0, none⟩) (c := 32) hi2 ob2)
    clear hG hK K1 hi hi2 ob ob2 B2 B4 ha hq ht HX za hz1
    subst hwa
    go_wp2_with (go_at_call 12; refine (kx_put K4.out Ht.out HG.out.good (by have := HG.out.done; omega) _ (some ⟨w.heap.size, 0, none⟩) 3 3 rfl R4.out (q d) [mkI d] (some ⟨w.heap.size + 1 + 1, 0, none⟩) 1 1 rfl (Nat.le_refl _) RI.out Hok.out).mono ?_; rintro e w2 ⟨rfl, H2, M2, k2, g2⟩)
    exact HK.out _ _ _ _ _ _ _ _ _ _ _ _ _ _ _ _ _ _ _ _ _ _ _ _ _ _ _ _ H2 M2 _ ⟨by omega, k2, Hs.out _ g2⟩ (by omega)
  · have i1 : ¬ (d : Int) < 3 := by omega
    have hde : d = 3 := by omega
    have Hde := Lib.hid hde
    clear HK hde hmk hG
    go_wp2_with fail
    exact HX.out _ _ _ _ _ _ _ _ _ _ _ _ _ _ _ _ _ _ _ _ _ _ _ _ _ _ _ _ Hde.out
set_option maxRecDepth 100000 in
set_option maxHeartbeats 3200000 in
theorem lgA {w0 : World} {b sg : Nat} {q : Nat → Int} {H0 : BH} {N0 : Bch} {w : World} (u0 u1 u2 u3 u4 u5 u6 u7 u8 u9 u10 u11 u12 u14 u16 u17 u18 u19 u20 u21 u22 u23 u24 u25 u26 u27 u28 u29 u30 u31 u32 u33 u34 u35 u36 u37 u38 u39 u40 u41 u42 u43 u44 u45 u49 u50 u51 u52 u53 u54 u55 u56 u57 u58 u59 u60 u61 u62 u63 u64 u65 u66 u67 u68 u69 u70 u71 u72 u73 u74 u75 u76 u77 u78 u79 u80 u81 u82 u83 u84 u85 u86 u87 u88 u89 u90 u91 u92 u93 u94 u95 u96 u97 u98 u99 u100 u101 u102 u103 u104 u105 u106 u107 u108 u109 u110 u111 u112 u113 u114 u115 u116 u117 u118 u119 u120 u121 u122 u123 u124 u125 u126 u127 u128 u129 u130 u131 u132 u133 u134 u135 u136 u137 u138 u139 u140 u141 u142 u143 u144 u145 u146 u147 u148 u149 u150 u151 u152 : Value) (Q : Exit → Act → World → Prop) (ht : TabOk w0) (hq : ∀ j, j < 3 → 1 ≤ q j ∧ q j ≤ 4) (hI : (0 ≤ 3 ∧ KX w0 w b H0 N0 [(sg, .cells (q3 q).toArray 3 (0, 0))] ∧ GgN N0 q 0))
    (hX : ∀ (v12 v16 v17 v18 v19 v49 v50 v51 v52 v53 v54 v55 v56 v57 v58 v59 v60 v61 v62 v63 v64 v65 v66 v67 v68 v69 v70 v71 : Value) (d : Nat) (H : BH) (N : Bch) (V : World), (d ≤ 3 ∧ KX w0 V b H N [(sg, .cells (q3 q).toArray 3 (0, 0))] ∧ GgN N q d) → (d = 3) → Q (.exit 0) ⟨List.toArray (u0 :: u1 :: u2 :: u3 :: u4 :: u5 :: u6 :: u7 :: u8 :: u9 :: u10 :: u11 :: v12 :: (.pointer (some ⟨b, 0, none⟩)) :: u14 :: (.slice (some ⟨sg, 0, none⟩) 3 3) :: v16 :: v17 :: v18 :: v19 :: u20 :: u21 :: u22 :: u23 :: u24 :: u25 :: u26 :: u27 :: u28 :: u29 :: u30 :: u31 :: u32 :: u33 :: u34 :: u35 :: u36 :: u37 :: u38 :: u39 :: u40 :: u41 :: u42 :: u43 :: u44 :: u45 :: (.slice (some ⟨sg, 0, none⟩) 3 3) :: (.int .i64 3) :: (.int .i64 ((d : Nat) : Int)) :: v49 :: v50 :: v51 :: v52 :: v53 :: v54 :: v55 :: v56 :: v57 :: v58 :: v59 :: v60 :: v61 :: v62 :: v63 :: v64 :: v65 :: v66 :: v67 :: v68 :: v69 :: v70 :: v71 :: u72 :: u73 :: u74 :: u75 :: u76 :: u77 :: u78 :: u79 :: u80 :: u81 :: u82 :: u83 :: u84 :: u85 :: u86 :: u87 :: u88 :: u89 :: u90 :: u91 :: u92 :: u93 :: u94 :: u95 :: u96 :: u97 :: u98 :: u99 :: u100 :: u101 :: u102 :: u103 :: u104 :: u105 :: u106 :: u107 :: u108 :: u109 :: u110 :: u111 :: u112 :: u113 :: u114 :: u115 :: u116 :: u117 :: u118 :: u119 :: u120 :: u121 :: u122 :: u123 :: u124 :: u125 :: u126 :: u127 :: u128 :: u129 :: u130 :: u131 :: u132 :: u133 :: u134 :: u135 :: u136 :: u137 :: u138 :: u139 :: u140 :: u141 :: u142 :: u143 :: u144 :: u145 :: u146 :: u147 :: u148 :: u149 :: u150 :: u151 :: u152 :: []), []⟩ V) :
    Code.wp Tryd.prog (.loop (sub [1, 1, 1, 1, 0, 1, 0, 0] codeLGr)) Q ⟨List.toArray (u0 :: u1 :: u2 :: u3 :: u4 :: u5 :: u6 :: u7 :: u8 :: u9 :: u10 :: u11 :: u12 :: (.pointer (some ⟨b, 0, none⟩)) :: u14 :: (.slice (some ⟨sg, 0, none⟩) 3 3) :: u16 :: u17 :: u18 :: u19 :: u20 :: u21 :: u22 :: u23 :: u24 :: u25 :: u26 :: u27 :: u28 :: u29 :: u30 :: u31 :: u32 :: u33 :: u34 :: u35 :: u36 :: u37 :: u38 :: u39 :: u40 :: u41 :: u42 :: u43 :: u44 :: u45 :: (.slice (some ⟨sg, 0, none⟩) 3 3) :: (.int .i64 3) :: (.int .i64 ((0 : Nat) : Int)) :: u49 :: u50 :: u51 :: u52 :: u53 :: u54 :: u55 :: u56 :: u57 :: u58 :: u59 :: u60 :: u61 :: u62 :: u63 :: u64 :: u65 :: u66 :: u67 :: u68 :: u69 :: u70 :: u71 :: u72 :: u73 :: u74 :: u75 :: u76 :: u77 :: u78 :: u79 :: u80 :: u81 :: u82 :: u83 :: u84 :: u85 :: u86 :: u87 :: u88 :: u89 :: u90 :: u91 :: u92 :: u93 :: u94 :: u95 :: u96 :: u97 :: u98 :: u99 :: u100 :: u101 :: u102 :: u103 :: u104 :: u105 :: u106 :: u107 :: u108 :: u109 :: u110 :: u111 :: u112 :: u113 :: u114 :: u115 :: u116 :: u117 :: u118 :: u119 :: u120 :: u121 :: u122 :: u123 :: u124 :: u125 :: u126 :: u127 :: u128 :: u129 :: u130 :: u131 :: u132 :: u133 :: u134 :: u135 :: u136 :: u137 :: u138 :: u139 :: u140 :: u141 :: u142 :: u143 :: u144 :: u145 :: u146 :: u147 :: u148 :: u149 :: u150 :: u151 :: u152 :: []), []⟩ w := by
  refine wp_loop_ghost (fun gk a V => ∀ C : Prop, (∀ (u12 u16 u17 u18 u19 u49 u50 u51 u52 u53 u54 u55 u56 u57 u58 u59 u60 u61 u62 u63 u64 u65 u66 u67 u68 u69 u70 u71 : Value) (d : Nat) (H : BH) (N : Bch), gk = 3 - d → (d ≤ 3 ∧ KX w0 V b H N [(sg, .cells (q3 q).toArray 3 (0, 0))] ∧ GgN N q d) → a = ⟨List.toArray (u0 :: u1 :: u2 :: u3 :: u4 :: u5 :: u6 :: u7 :: u8 :: u9 :: u10 :: u11 :: u12 :: (.pointer (some ⟨b, 0, none⟩)) :: u14 :: (.slice (some ⟨sg, 0, none⟩) 3 3) :: u16 :: u17 :: u18 :: u19 :: u20 :: u21 :: u22 :: u23 :: u24 :: u25 :: u26 :: u27 :: u28 :: u29 :: u30 :: u31 :: u32 :: u33 :: u34 :: u35 :: u36 :: u37 :: u38 :: u39 :: u40 :: u41 :: u42 :: u43 :: u44 :: u45 :: (.slice (some ⟨sg, 0, none⟩) 3 3) :: (.int .i64 3) :: (.int .i64 ((d : Nat) : Int)) :: u49 :: u50 :: u51 :: u52 :: u53 :: u54 :: u55 :: u56 :: u57 :: u58 :: u59 :: u60 :: u61 :: u62 :: u63 :: u64 :: u65 :: u66 :: u67 :: u68 :: u69 :: u70 :: u71 :: u72 :: u73 :: u74 :: u75 :: u76 :: u77 :: u78 :: u79 :: u80 :: u81 :: u82 :: u83 :: u84 :: u85 :: u86 :: u87 :: u88 :: u89 :: u90 :: u91 :: u92 :: u93 :: u94 :: u95 :: u96 :: u97 :: u98 :: u99 :: u100 :: u101 :: u102 :: u103 :: u104 :: u105 :: u106 :: u107 :: u108 :: u109 :: u110 :: u111 :: u112 :: u113 :: u114 :: u115 :: u116 :: u117 :: u118 :: u119 :: u120 :: u121 :: u122 :: u123 :: u124 :: u125 :: u126 :: u127 :: u128 :: u129 :: u130 :: u131 :: u132 :: u133 :: u134 :: u135 :: u136 :: u137 :: u138 :: u139 :: u140 :: u141 :: u142 :: u143 :: u144 :: u145 :: u146 :: u147 :: u148 :: u149 :: u150 :: u151 :: u152 :: []), []⟩ → C) → C) (3 - 0) ?_ ?_
  · intro C hC
    exact hC _ _ _ _ _ _ _ _ _ _ _ _ _ _ _ _ _ _ _ _ _ _ _ _ _ _ _ _ (0) (H0) (N0) rfl hI rfl
  · intro gk a V hI'
    refine hI' _ ?_
    intro u12 u16 u17 u18 u19 u49 u50 u51 u52 u53 u54 u55 u56 u57 u58 u59 u60 u61 u62 u63 u64 u65 u66 u67 u68 u69 u70 u71 d H N hk hinv ha
    subst ha
    subst hk
    refine lgAb _ _ _ _ _ _ _ _ _ _ _ _ _ _ _ _ _ _ _ _ _ _ _ _ _ _ _ _ _ _ _ _ _ _ _ _ _ _ _ _ _ _ _ _ _ _ _ _ _ _ _ _ _ _ _ _ _ _ _ _ _ _ _ _ _ _ _ _ _ _ _ _ _ _ _ _ _ _ _ _ _ _ _ _ _ _ _ _ _ _ _ _ _ _ _ _ _ _ _ _ _ _ _ _ _ _ _ _ _ _ _ _ _ _ _ _ _ _ _ _ _ _ _ _ _ _ _ _ _ _ _ _ _ _ _ _ _ _ _ _ _ _ _ _ _ _ _ _ _ _ ht hq hinv (fun v12 v16 v17 v18 v19 v49 v50 v51 v52 v53 v54 v55 v56 v57 v58 v59 v60 v61 v62 v63 v64 v65 v66 v67 v68 v69 v70 v71 H2 N2 V2 h2 hm => ?_) (fun v12 v16 v17 v18 v19 v49 v50 v51 v52 v53 v54 v55 v56 v57 v58 v59 v60 v61 v62 v63 v64 v65 v66 v67 v68 v69 v70 v71 hx => hX v12 v16 v17 v18 v19 v49 v50 v51 v52 v53 v54 v55 v56 v57 v58 v59 v60 v61 v62 v63 v64 v65 v66 v67 v68 v69 v70 v71 d H N V hinv hx)
    refine ⟨_, hm, fun C hC => ?_⟩
    exact hC v12 v16 v17 v18 v19 v49 v50 v51 v52 v53 v54 v55 v56 v57 v58 v59 v60 v61 v62 v63 v64 v65 v66 v67 v68 v69 v70 v71 ((d + 1)) (H2) (N2) rfl h2 rfl
set_option maxRecDepth 100000 in
set_option maxHeartbeats 3200000 in
theorem lgBb {w0 : World} {b sg gl : Nat} {q : Nat → Int} {lv : List Bool} {d : Nat} {k : Int} {w : World} (u0 u1 u2 u3 u4 u5 u6 u7 u8 u9 u10 u11 u12 u14 u16 u17 u18 u19 u22 u23 u24 u25 u26 u27 u28 u29 u30 u31 u32 u33 u34 u35 u36 u37 u38 u39 u40 u41 u42 u43 u44 u45 u46 u47 u48 u49 u50 u51 u52 u53 u54 u55 u56 u57 u58 u59 u60 u61 u62 u63 u64 u65 u66 u67 u68 u69 u70 u71 u72 u73 u74 u75 u79 u80 u81 u82 u83 u84 u85 u86 u87 u88 u89 u90 u91 u92 u93 u94 u95 u96 u97 u98 u99 u100 u101 u102 u103 u104 u105 u106 u107 u108 u109 u110 u111 u112 u113 u114 u115 u116 u117 u118 u119 u120 u121 u122 u123 u124 u125 u126 u127 u128 u129 u130 u131 u132 u133 u134 u135 u136 u137 u138 u139 u140 u141 u142 u143 u144 u145 u146 u147 u148 u149 u150 u151 u152 : Value) (K : Act → World → Prop) (Q0 : Exit → Act → World → Prop) (hq : ∀ j, j < 3 → w0.cell? ⟨sg, j, none⟩ = some (.int .i64 (q j))) (hl : ∀ j, j < 3 → w0.cell? ⟨gl, j, none⟩ = some (.bool (lv.getD j false))) (hI : (d ≤ 3 ∧ k = bst q lv d ∧ w = w0))
    (hK : ∀ (v22 v23 v79 v80 v81 v82 v83 v84 v85 v86 v87 v88 v89 v90 v91 v92 v93 v94 v95 v96 v97 v98 v99 v100 : Value) (k2 : Int) (V : World), ((d + 1) ≤ 3 ∧ k2 = bst q lv (d + 1) ∧ V = w0) → 3 - (d + 1) < 3 - d → K ⟨List.toArray (u0 :: u1 :: u2 :: u3 :: u4 :: u5 :: u6 :: u7 :: u8 :: u9 :: u10 :: u11 :: u12 :: (.pointer (some ⟨b, 0, none⟩)) :: u14 :: (.slice (some ⟨sg, 0, none⟩) 3 3) :: u16 :: u17 :: u18 :: u19 :: (.slice (some ⟨gl, 0, none⟩) 3 3) :: (.int .i64 k2) :: v22 :: v23 :: u24 :: u25 :: u26 :: u27 :: u28 :: u29 :: u30 :: u31 :: u32 :: u33 :: u34 :: u35 :: u36 :: u37 :: u38 :: u39 :: u40 :: u41 :: u42 :: u43 :: u44 :: u45 :: u46 :: u47 :: u48 :: u49 :: u50 :: u51 :: u52 :: u53 :: u54 :: u55 :: u56 :: u57 :: u58 :: u59 :: u60 :: u61 :: u62 :: u63 :: u64 :: u65 :: u66 :: u67 :: u68 :: u69 :: u70 :: u71 :: u72 :: u73 :: u74 :: u75 :: (.slice (some ⟨sg, 0, none⟩) 3 3) :: (.int .i64 3) :: (.int .i64 (((d + 1) : Nat) : Int)) :: v79 :: v80 :: v81 :: v82 :: v83 :: v84 :: v85 :: v86 :: v87 :: v88 :: v89 :: v90 :: v91 :: v92 :: v93 :: v94 :: v95 :: v96 :: v97 :: v98 :: v99 :: v100 :: u101 :: u102 :: u103 :: u104 :: u105 :: u106 :: u107 :: u108 :: u109 :: u110 :: u111 :: u112 :: u113 :: u114 :: u115 :: u116 :: u117 :: u118 :: u119 :: u120 :: u121 :: u122 :: u123 :: u124 :: u125 :: u126 :: u127 :: u128 :: u129 :: u130 :: u131 :: u132 :: u133 :: u134 :: u135 :: u136 :: u137 :: u138 :: u139 :: u140 :: u141 :: u142 :: u143 :: u144 :: u145 :: u146 :: u147 :: u148 :: u149 :: u150 :: u151 :: u152 :: []), []⟩ V)
    (hX : ∀ (v22 v23 v79 v80 v81 v82 v83 v84 v85 v86 v87 v88 v89 v90 v91 v92 v93 v94 v95 v96 v97 v98 v99 v100 : Value), (d = 3) → Q0 (.exit 2) ⟨List.toArray (u0 :: u1 :: u2 :: u3 :: u4 :: u5 :: u6 :: u7 :: u8 :: u9 :: u10 :: u11 :: u12 :: (.pointer (some ⟨b, 0, none⟩)) :: u14 :: (.slice (some ⟨sg, 0, none⟩) 3 3) :: u16 :: u17 :: u18 :: u19 :: (.slice (some ⟨gl, 0, none⟩) 3 3) :: (.int .i64 k) :: v22 :: v23 :: u24 :: u25 :: u26 :: u27 :: u28 :: u29 :: u30 :: u31 :: u32 :: u33 :: u34 :: u35 :: u36 :: u37 :: u38 :: u39 :: u40 :: u41 :: u42 :: u43 :: u44 :: u45 :: u46 :: u47 :: u48 :: u49 :: u50 :: u51 :: u52 :: u53 :: u54 :: u55 :: u56 :: u57 :: u58 :: u59 :: u60 :: u61 :: u62 :: u63 :: u64 :: u65 :: u66 :: u67 :: u68 :: u69 :: u70 :: u71 :: u72 :: u73 :: u74 :: u75 :: (.slice (some ⟨sg, 0, none⟩) 3 3) :: (.int .i64 3) :: (.int .i64 ((d : Nat) : Int)) :: v79 :: v80 :: v81 :: v82 :: v83 :: v84 :: v85 :: v86 :: v87 :: v88 :: v89 :: v90 :: v91 :: v92 :: v93 :: v94 :: v95 :: v96 :: v97 :: v98 :: v99 :: v100 :: u101 :: u102 :: u103 :: u104 :: u105 :: u106 :: u107 :: u108 :: u109 :: u110 :: u111 :: u112 :: u113 :: u114 :: u115 :: u116 :: u117 :: u118 :: u119 :: u120 :: u121 :: u122 :: u123 :: u124 :: u125 :: u126 :: u127 :: u128 :: u129 :: u130 :: u131 :: u132 :: u133 :: u134 :: u135 :: u136 :: u137 :: u138 :: u139 :: u140 :: u141 :: u142 :: u143 :: u144 :: u145 :: u146 :: u147 :: u148 :: u149 :: u150 :: u151 :: u152 :: []), []⟩ w) :
    Code.wp Tryd.prog (sub [1, 1, 1, 1, 1, 1, 1, 0, 1, 0, 0] codeLGr) (Exit.then K Q0) ⟨List.toArray (u0 :: u1 :: u2 :: u3 :: u4 :: u5 :: u6 :: u7 :: u8 :: u9 :: u10 :: u11 :: u12 :: (.pointer (some ⟨b, 0, none⟩)) :: u14 :: (.slice (some ⟨sg, 0, none⟩) 3 3) :: u16 :: u17 :: u18 :: u19 :: (.slice (some ⟨gl, 0, none⟩) 3 3) :: (.int .i64 k) :: u22 :: u23 :: u24 :: u25 :: u26 :: u27 :: u28 :: u29 :: u30 :: u31 :: u32 :: u33 :: u34 :: u35 :: u36 :: u37 :: u38 :: u39 :: u40 :: u41 :: u42 :: u43 :: u44 :: u45 :: u46 :: u47 :: u48 :: u49 :: u50 :: u51 :: u52 :: u53 :: u54 :: u55 :: u56 :: u57 :: u58 :: u59 :: u60 :: u61 :: u62 :: u63 :: u64 :: u65 :: u66 :: u67 :: u68 :: u69 :: u70 :: u71 :: u72 :: u73 :: u74 :: u75 :: (.slice (some ⟨sg, 0, none⟩) 3 3) :: (.int .i64 3) :: (.int .i64 ((d : Nat) : Int)) :: u79 :: u80 :: u81 :: u82 :: u83 :: u84 :: u85 :: u86 :: u87 :: u88 :: u89 :: u90 :: u91 :: u92 :: u93 :: u94 :: u95 :: u96 :: u97 :: u98 :: u99 :: u100 :: u101 :: u102 :: u103 :: u104 :: u105 :: u106 :: u107 :: u108 :: u109 :: u110 :: u111 :: u112 :: u113 :: u114 :: u115 :: u116 :: u117 :: u118 :: u119 :: u120 :: u121 :: u122 :: u123 :: u124 :: u125 :: u126 :: u127 :: u128 :: u129 :: u130 :: u131 :: u132 :: u133 :: u134 :: u135 :: u136 :: u137 :: u138 :: u139 :: u140 :: u141 :: u142 :: u143 :: u144 :: u145 :: u146 :: u147 :: u148 :: u149 :: u150 :: u151 :: u152 :: []), []⟩ w := by
  have HK := Lib.hid hK
  have HX := Lib.hid hX
  clear hK hX
  conv => arg 2; whnf
  obtain ⟨hd3, hk, hV⟩ := hI
  by_cases hlt : d < 3
  · have d0 : (0 : Int) ≤ (d : Int) := by omega
    have d1 : (d : Int) < 3 := by omega
    have c1 := hq d hlt
    have c2 := hl d hlt
    have hb := bst_le q lv d
    have HS : Hid (bst q lv (d + 1) = if lv.getD d false = true ∧ (bst q lv d < 0 ∨ q (bst q lv d).toNat < q d) then (d : Int) else bst q lv d) := rfl
    rw [← hk] at hb HS
    clear hk HX hl
    rw [← hV] at hq c1 c2
    have HV := Lib.hid hV
    clear hV
    cases hlv : lv.getD d false with
    | false =>
      rw [hlv] at c2 HS
      rw [if_neg (fun x => by cases x.1)] at HS
      clear hlv hq
      go_wp2_with fail
      exact HK.out _ _ _ _ _ _ _ _ _ _ _ _ _ _ _ _ _ _ _ _ _ _ _ _ _ _ ⟨by omega, HS.out.symm, HV.out⟩ (by omega)
    | true =>
      rw [hlv] at c2 HS
      clear hlv
      by_cases h0 : k < 0
      · rw [if_pos ⟨rfl, .inl h0⟩] at HS
        clear hq
        go_wp2_with fail
        exact HK.out _ _ _ _ _ _ _ _ _ _ _ _ _ _ _ _ _ _ _ _ _ _ _ _ _ _ ⟨by omega, HS.out.symm, HV.out⟩ (by omega)
      · obtain ⟨j, rfl⟩ := Int.eq_ofNat_of_zero_le (show 0 ≤ k by omega)
        have c3 := hq j (by omega)
        have j1 : (j : Int) < 3 := by omega
        have j0 : (0 : Int) ≤ (j : Int) := by omega
        rw [show ((j : Int)).toNat = j from rfl] at HS
        clear hq hb
        by_cases hg : q j < q d
        · rw [if_pos ⟨rfl, .inr hg⟩] at HS
          clear h0
          go_wp2_with fail
          exact HK.out _ _ _ _ _ _ _ _ _ _ _ _ _ _ _ _ _ _ _ _ _ _ _ _ _ _ ⟨by omega, HS.out.symm, HV.out⟩ (by omega)
        · rw [if_neg (fun x => x.2.elim (by omega) hg)] at HS
          clear h0
          go_wp2_with fail
          exact HK.out _ _ _ _ _ _ _ _ _ _ _ _ _ _ _ _ _ _ _ _ _ _ _ _ _ _ ⟨by omega, HS.out.symm, HV.out⟩ (by omega)
  · have i1 : ¬ (d : Int) < 3 := by omega
    have hde : d = 3 := by omega
    have Hde := Lib.hid hde
    have HV := Lib.hid hV
    clear HK hde hV hk
    go_wp2_with fail
    exact HX.out _ _ _ _ _ _ _ _ _ _ _ _ _ _ _ _ _ _ _ _ _ _ _ _ Hde.out
set_option maxRecDepth 100000 in
set_option maxHeartbeats 3200000 in
theorem lgB {w0 : World} {b sg gl : Nat} {q : Nat → Int} {lv : List Bool}  {w : World} (u0 u1 u2 u3 u4 u5 u6 u7 u8 u9 u10 u11 u12 u14 u16 u17 u18 u19 u22 u23 u24 u25 u26 u27 u28 u29 u30 u31 u32 u33 u34 u35 u36 u37 u38 u39 u40 u41 u42 u43 u44 u45 u46 u47 u48 u49 u50 u51 u52 u53 u54 u55 u56 u57 u58 u59 u60 u61 u62 u63 u64 u65 u66 u67 u68 u69 u70 u71 u72 u73 u74 u75 u79 u80 u81 u82 u83 u84 u85 u86 u87 u88 u89 u90 u91 u92 u93 u94 u95 u96 u97 u98 u99 u100 u101 u102 u103 u104 u105 u106 u107 u108 u109 u110 u111 u112 u113 u114 u115 u116 u117 u118 u119 u120 u121 u122 u123 u124 u125 u126 u127 u128 u129 u130 u131 u132 u133 u134 u135 u136 u137 u138 u139 u140 u141 u142 u143 u144 u145 u146 u147 u148 u149 u150 u151 u152 : Value) (Q : Exit → Act → World → Prop) (hq : ∀ j, j < 3 → w0.cell? ⟨sg, j, none⟩ = some (.int .i64 (q j))) (hl : ∀ j, j < 3 → w0.cell? ⟨gl, j, none⟩ = some (.bool (lv.getD j false))) (hI : (0 ≤ 3 ∧ (-1) = bst q lv 0 ∧ w = w0))
    (hX : ∀ (v22 v23 v79 v80 v81 v82 v83 v84 v85 v86 v87 v88 v89 v90 v91 v92 v93 v94 v95 v96 v97 v98 v99 v100 : Value) (d : Nat) (k : Int) (V : World), (d ≤ 3 ∧ k = bst q lv d ∧ V = w0) → (d = 3) → Q (.exit 2) ⟨List.toArray (u0 :: u1 :: u2 :: u3 :: u4 :: u5 :: u6 :: u7 :: u8 :: u9 :: u10 :: u11 :: u12 :: (.pointer (some ⟨b, 0, none⟩)) :: u14 :: (.slice (some ⟨sg, 0, none⟩) 3 3) :: u16 :: u17 :: u18 :: u19 :: (.slice (some ⟨gl, 0, none⟩) 3 3) :: (.int .i64 k) :: v22 :: v23 :: u24 :: u25 :: u26 :: u27 :: u28 :: u29 :: u30 :: u31 :: u32 :: u33 :: u34 :: u35 :: u36 :: u37 :: u38 :: u39 :: u40 :: u41 :: u42 :: u43 :: u44 :: u45 :: u46 :: u47 :: u48 :: u49 :: u50 :: u51 :: u52 :: u53 :: u54 :: u55 :: u56 :: u57 :: u58 :: u59 :: u60 :: u61 :: u62 :: u63 :: u64 :: u65 :: u66 :: u67 :: u68 :: u69 :: u70 :: u71 :: u72 :: u73 :: u74 :: u75 :: (.slice (some ⟨sg, 0, none⟩) 3 3) :: (.int .i64 3) :: (.int .i64 ((d : Nat) : Int)) :: v79 :: v80 :: v81 :: v82 :: v83 :: v84 :: v85 :: v86 :: v87 :: v88 :: v89 :: v90 :: v91 :: v92 :: v93 :: v94 :: v95 :: v96 :: v97 :: v98 :: v99 :: v100 :: u101 :: u102 :: u103 :: u104 :: u105 :: u106 :: u107 :: u108 :: u109 :: u110 :: u111 :: u112 :: u113 :: u114 :: u115 :: u116 :: u117 :: u118 :: u119 :: u120 :: u121 :: u122 :: u123 :: u124 :: u125 :: u126 :: u127 :: u128 :: u129 :: u130 :: u131 :: u132 :: u133 :: u134 :: u135 :: u136 :: u137 :: u138 :: u139 :: u140 :: u141 :: u142 :: u143 :: u144 :: u145 :: u146 :: u147 :: u148 :: u149 :: u150 :: u151 :: u152 :: []), []⟩ V) :
    Code.wp Tryd.prog (.loop (sub [1, 1, 1, 1, 1, 1, 1, 0, 1, 0, 0] codeLGr)) Q ⟨List.toArray (u0 :: u1 :: u2 :: u3 :: u4 :: u5 :: u6 :: u7 :: u8 :: u9 :: u10 :: u11 :: u12 :: (.pointer (some ⟨b, 0, none⟩)) :: u14 :: (.slice (some ⟨sg, 0, none⟩) 3 3) :: u16 :: u17 :: u18 :: u19 :: (.slice (some ⟨gl, 0, none⟩) 3 3) :: (.int .i64 (-1)) :: u22 :: u23 :: u24 :: u25 :: u26 :: u27 :: u28 :: u29 :: u30 :: u31 :: u32 :: u33 :: u34 :: u35 :: u36 :: u37 :: u38 :: u39 :: u40 :: u41 :: u42 :: u43 :: u44 :: u45 :: u46 :: u47 :: u48 :: u49 :: u50 :: u51 :: u52 :: u53 :: u54 :: u55 :: u56 :: u57 :: u58 :: u59 :: u60 :: u61 :: u62 :: u63 :: u64 :: u65 :: u66 :: u67 :: u68 :: u69 :: u70 :: u71 :: u72 :: u73 :: u74 :: u75 :: (.slice (some ⟨sg, 0, none⟩) 3 3) :: (.int .i64 3) :: (.int .i64 ((0 : Nat) : Int)) :: u79 :: u80 :: u81 :: u82 :: u83 :: u84 :: u85 :: u86 :: u87 :: u88 :: u89 :: u90 :: u91 :: u92 :: u93 :: u94 :: u95 :: u96 :: u97 :: u98 :: u99 :: u100 :: u101 :: u102 :: u103 :: u104 :: u105 :: u106 :: u107 :: u108 :: u109 :: u110 :: u111 :: u112 :: u113 :: u114 :: u115 :: u116 :: u117 :: u118 :: u119 :: u120 :: u121 :: u122 :: u123 :: u124 :: u125 :: u126 :: u127 :: u128 :: u129 :: u130 :: u131 :: u132 :: u133 :: u134 :: u135 :: u136 :: u137 :: u138 :: u139 :: u140 :: u141 :: u142 :: u143 :: u144 :: u145 :: u146 :: u147 :: u148 :: u149 :: u150 :: u151 :: u152 :: []), []⟩ w := by
  refine wp_loop_ghost (fun gk a V => ∀ C : Prop, (∀ (u22 u23 u79 u80 u81 u82 u83 u84 u85 u86 u87 u88 u89 u90 u91 u92 u93 u94 u95 u96 u97 u98 u99 u100 : Value) (d : Nat) (k : Int), gk = 3 - d → (d ≤ 3 ∧ k = bst q lv d ∧ V = w0) → a = ⟨List.toArray (u0 :: u1 :: u2 :: u3 :: u4 :: u5 :: u6 :: u7 :: u8 :: u9 :: u10 :: u11 :: u12 :: (.pointer (some ⟨b, 0, none⟩)) :: u14 :: (.slice (some ⟨sg, 0, none⟩) 3 3) :: u16 :: u17 :: u18 :: u19 :: (.slice (some ⟨gl, 0, none⟩) 3 3) :: (.int .i64 k) :: u22 :: u23 :: u24 :: u25 :: u26 :: u27 :: u28 :: u29 :: u30 :: u31 :: u32 :: u33 :: u34 :: u35 :: u36 :: u37 :: u38 :: u39 :: u40 :: u41 :: u42 :: u43 :: u44 :: u45 :: u46 :: u47 :: u48 :: u49 :: u50 :: u51 :: u52 :: u53 :: u54 :: u55 :: u56 :: u57 :: u58 :: u59 :: u60 :: u61 :: u62 :: u63 :: u64 :: u65 :: u66 :: u67 :: u68 :: u69 :: u70 :: u71 :: u72 :: u73 :: u74 :: u75 :: (.slice (some ⟨sg, 0, none⟩) 3 3) :: (.int .i64 3) :: (.int .i64 ((d : Nat) : Int)) :: u79 :: u80 :: u81 :: u82 :: u83 :: u84 :: u85 :: u86 :: u87 :: u88 :: u89 :: u90 :: u91 :: u92 :: u93 :: u94 :: u95 :: u96 :: u97 :: u98 :: u99 :: u100 :: u101 :: u102 :: u103 :: u104 :: u105 :: u106 :: u107 :: u108 :: u109 :: u110 :: u111 :: u112 :: u113 :: u114 :: u115 :: u116 :: u117 :: u118 :: u119 :: u120 :: u121 :: u122 :: u123 :: u124 :: u125 :: u126 :: u127 :: u128 :: u129 :: u130 :: u131 :: u132 :: u133 :: u134 :: u135 :: u136 :: u137 :: u138 :: u139 :: u140 :: u141 :: u142 :: u143 :: u144 :: u145 :: u146 :: u147 :: u148 :: u149 :: u150 :: u151 :: u152 :: []), []⟩ → C) → C) (3 - 0) ?_ ?_
  · intro C hC
    exact hC _ _ _ _ _ _ _ _ _ _ _ _ _ _ _ _ _ _ _ _ _ _ _ _ (0) ((-1)) rfl hI rfl
  · intro gk a V hI'
    refine hI' _ ?_
    intro u22 u23 u79 u80 u81 u82 u83 u84 u85 u86 u87 u88 u89 u90 u91 u92 u93 u94 u95 u96 u97 u98 u99 u100 d k hk hinv ha
    subst ha
    subst hk
    refine lgBb _ _ _ _ _ _ _ _ _ _ _ _ _ _ _ _ _ _ _ _ _ _ _ _ _ _ _ _ _ _ _ _ _ _ _ _ _ _ _ _ _ _ _ _ _ _ _ _ _ _ _ _ _ _ _ _ _ _ _ _ _ _ _ _ _ _ _ _ _ _ _ _ _ _ _ _ _ _ _ _ _ _ _ _ _ _ _ _ _ _ _ _ _ _ _ _ _ _ _ _ _ _ _ _ _ _ _ _ _ _ _ _ _ _ _ _ _ _ _ _ _ _ _ _ _ _ _ _ _ _ _ _ _ _ _ _ _ _ _ _ _ _ _ _ _ _ _ _ hq hl hinv (fun v22 v23 v79 v80 v81 v82 v83 v84 v85 v86 v87 v88 v89 v90 v91 v92 v93 v94 v95 v96 v97 v98 v99 v100 k2 V2 h2 hm => ?_) (fun v22 v23 v79 v80 v81 v82 v83 v84 v85 v86 v87 v88 v89 v90 v91 v92 v93 v94 v95 v96 v97 v98 v99 v100 hx => hX v22 v23 v79 v80 v81 v82 v83 v84 v85 v86 v87 v88 v89 v90 v91 v92 v93 v94 v95 v96 v97 v98 v99 v100 d k V hinv hx)
    refine ⟨_, hm, fun C hC => ?_⟩
    exact hC v22 v23 v79 v80 v81 v82 v83 v84 v85 v86 v87 v88 v89 v90 v91 v92 v93 v94 v95 v96 v97 v98 v99 v100 ((d + 1)) (k2) rfl h2 rfl
end Go.Proofs.YtkbhnbkjpnigkaaDoor
