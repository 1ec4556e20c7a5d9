/- Texts put together: RecOf, RecOfA. -/
import Derived.Test.YtkbhnbkjpnigkaaDoorLcaj
import Derived.Test.YtkbhnbkjpnigkaaDoorLcak
import Derived.Test.YtkbhnbkjpnigkaaDoorLcad
import Derived.Test.YtkbhnbkjpnigkaaDoorLcaa
section
set_option linter.unusedVariables false
set_option linter.unusedSimpArgs false
namespace Go.Proofs.YtkbhnbkjpnigkaaDoor
open Go.RowKit

noncomputable def codeOf : Code := Tryd.f8.body.getD .skip
theorem i64_tdiv (n k : Int) (hk : 1 ≤ k) (hn : (-9223372036854775808 ≤ n ∧ n ≤ 9223372036854775807)) : (-9223372036854775808 ≤ n.tdiv k ∧ n.tdiv k ≤ 9223372036854775807) := by
  have key : ∀ m : Int, 0 ≤ m → 0 ≤ m.tdiv k ∧ m.tdiv k ≤ m := fun m hm => ⟨Int.tdiv_nonneg hm (by omega), Int.tdiv_le_self _ hm⟩
  by_cases h : 0 ≤ n
  · have := key n h; omega
  · have := key (-n) (by omega)
    rw [Int.neg_tdiv] at this
    omega
theorem its64_iff (l : List It) : Its64 l ↔ ∀ x ∈ l, It64 x := by
  refine ⟨fun h x hx => ?_, fun h k hk => h _ (itN_mem hk)⟩
  obtain ⟨k, hk, rfl⟩ := List.getElem_of_mem hx
  have := h k hk
  rwa [show itN l k = l[k] from by simp [itN, List.getD_eq_getElem?_getD, hk]] at this
theorem its64_app {l m : List It} (h : Its64 l) (g : Its64 m) : Its64 (l ++ m) := (its64_iff _).2 fun x hx => by
  rcases List.mem_append.1 hx with hx | hx
  · exact (its64_iff _).1 h x hx
  · exact (its64_iff _).1 g x hx
theorem its64_set {l : List It} (h : Its64 l) (k : Nat) (x : It) (hx : It64 x) : Its64 (l.set k x) := (its64_iff _).2 fun y hy => by
  rcases List.mem_or_eq_of_mem_set hy with hy | rfl
  · exact (its64_iff _).1 h y hy
  · exact hx
theorem its64_one {x : It} (h : It64 x) : Its64 [x] := (its64_iff _).2 fun y hy => by
  rw [List.mem_singleton] at hy; rw [hy]; exact h
theorem FdS.start2 (w : World) (t : TypeId) (y : Int) : FdS w y (.slice none 0 0) [] ((w.alloc (.cells #[.int .i64 0, .slice none 0 0] t)).alloc (.cells #[.int .i64 y, .slice none 0 0] t)) := by
  have c1 := fun i => cell_of_row _ _ i _ _ _ (heap_alloc_new (w.alloc (.cells #[.int .i64 0, .slice none 0 0] t)) (.cells #[.int .i64 y, .slice none 0 0] t))
  have hsz : (w.alloc (.cells #[.int .i64 0, .slice none 0 0] t)).heap.size = w.heap.size + 1 := by simp
  have f1 := fun i => World.frozen?_alloc_new (w.alloc (.cells #[.int .i64 0, .slice none 0 0] t)) #[.int .i64 y, .slice none 0 0] t i
  rw [hsz] at c1 f1
  have c0 := fun i => (World.cell?_alloc_lt (w.alloc (.cells #[.int .i64 0, .slice none 0 0] t)) (.cells #[.int .i64 y, .slice none 0 0] t) ⟨w.heap.size, i, none⟩ (by simp)).trans (cell_of_row _ _ i _ _ _ (heap_alloc_new w (.cells #[.int .i64 0, .slice none 0 0] t)))
  have f0 := fun i => (World.frozen?_alloc_old (w.alloc (.cells #[.int .i64 0, .slice none 0 0] t)) (.cells #[.int .i64 y, .slice none 0 0] t) (a := ⟨w.heap.size, i, none⟩) (by show w.heap.size ≠ _; rw [hsz]; exact Nat.ne_of_lt (Nat.lt_succ_self _))).trans (World.frozen?_alloc_new w #[.int .i64 0, .slice none 0 0] t i)
  exact ⟨OwIt.nil _ _ _ _, below2 _ _ _, c1 0, c1 1, f1, c0 0, c0 1, f0⟩
/-- Items all of whose Data are sectors. -/
def Its32 (l : List It) : Prop := ∀ x ∈ l, x.b.length = 32
set_option maxRecDepth 100000 in
set_option maxHeartbeats 3200000 in
theorem ofRb {w0 : World} {A : Option Addr} {cl : Nat} {zs : List Int} {s how : Int} {q : Int} {seq : Int} {i : Nat} {v : Value} {l : List It} {w : World} (u3 u4 u5 u10 u11 u12 u13 u14 u15 u16 u17 u18 u19 u20 u21 u22 u23 u24 u25 u26 u27 u28 u29 u30 u31 u32 u33 u34 u35 u36 u37 u38 u39 u40 u41 u42 u43 u44 u45 u46 u47 u48 u49 u50 u51 u52 u53 u54 u55 u56 u57 u58 u59 u60 u61 u62 u63 u64 u65 u66 u67 u68 u69 u70 u71 u72 u73 u74 u75 u76 u77 u78 u79 u80 u81 u82 u83 u84 u85 u86 u87 u88 u89 u90 u91 u92 u93 u94 u95 u96 u97 u98 u99 u100 u101 u102 u103 u104 u105 u106 u107 u108 u109 u110 u111 u112 u113 u114 u115 u116 : Value) (K : Act → World → Prop) (Q0 : Exit → Act → World → Prop) (hz : RdZ w0 w0.heap.size A zs) (CQ : Hid (∀ V, Calls Tryd.prog 9 #[.int .i64 how, .int .i64 4] V fun e w' => e = .returned (.int .i64 q) ∧ w' = V)) (hq : 0 ≤ q ∧ q < 4) (hI : (i = 2 * l.length ∧ l.length ≤ 3 ∧ FdS w0 s v l w ∧ Its64 l ∧ Its32 l))
    (hK : ∀ (v16 v17 v18 v19 v20 v21 v22 v23 v24 v25 v26 v27 v28 v29 v30 v31 v32 v33 v34 v35 v36 v37 v38 v39 v40 v41 v42 v43 v44 v45 v46 v47 v48 v49 v50 v51 v52 v53 v54 v55 v56 : Value) (v2 : Value) (l2 : List It) (V : World), ((i + 2) = 2 * l2.length ∧ l2.length ≤ 3 ∧ FdS w0 s v2 l2 V ∧ Its64 l2 ∧ Its32 l2) → zs.length - (i + 2) < zs.length - i → K ⟨List.toArray ((.int .i64 seq) :: (.slice A zs.length cl) :: (.int .i64 how) :: u3 :: u4 :: u5 :: (.pointer (some ⟨w0.heap.size, 0, none⟩)) :: (.func (.func 9) #[] #[]) :: (.pointer (some ⟨w0.heap.size + 1, 0, none⟩)) :: (.int .i64 (((i + 2) : Nat) : Int)) :: u10 :: u11 :: u12 :: u13 :: u14 :: u15 :: v16 :: v17 :: v18 :: v19 :: v20 :: v21 :: v22 :: v23 :: v24 :: v25 :: v26 :: v27 :: v28 :: v29 :: v30 :: v31 :: v32 :: v33 :: v34 :: v35 :: v36 :: v37 :: v38 :: v39 :: v40 :: v41 :: v42 :: v43 :: v44 :: v45 :: v46 :: v47 :: v48 :: v49 :: v50 :: v51 :: v52 :: v53 :: v54 :: v55 :: v56 :: u57 :: u58 :: u59 :: u60 :: u61 :: u62 :: u63 :: u64 :: u65 :: u66 :: u67 :: u68 :: u69 :: u70 :: u71 :: u72 :: u73 :: u74 :: u75 :: u76 :: u77 :: u78 :: u79 :: u80 :: u81 :: u82 :: u83 :: u84 :: u85 :: u86 :: u87 :: u88 :: u89 :: u90 :: u91 :: u92 :: u93 :: u94 :: u95 :: u96 :: u97 :: u98 :: u99 :: u100 :: u101 :: u102 :: u103 :: u104 :: u105 :: u106 :: u107 :: u108 :: u109 :: u110 :: u111 :: u112 :: u113 :: u114 :: u115 :: u116 :: []), []⟩ V)
    (hX : ∀ (v16 v17 v18 v19 v20 v21 v22 v23 v24 v25 v26 v27 v28 v29 v30 v31 v32 v33 v34 v35 v36 v37 v38 v39 v40 v41 v42 v43 v44 v45 v46 v47 v48 v49 v50 v51 v52 v53 v54 v55 v56 : Value), (True) → Q0 (.exit 0) ⟨List.toArray ((.int .i64 seq) :: (.slice A zs.length cl) :: (.int .i64 how) :: u3 :: u4 :: u5 :: (.pointer (some ⟨w0.heap.size, 0, none⟩)) :: (.func (.func 9) #[] #[]) :: (.pointer (some ⟨w0.heap.size + 1, 0, none⟩)) :: (.int .i64 ((i : Nat) : Int)) :: u10 :: u11 :: u12 :: u13 :: u14 :: u15 :: v16 :: v17 :: v18 :: v19 :: v20 :: v21 :: v22 :: v23 :: v24 :: v25 :: v26 :: v27 :: v28 :: v29 :: v30 :: v31 :: v32 :: v33 :: v34 :: v35 :: v36 :: v37 :: v38 :: v39 :: v40 :: v41 :: v42 :: v43 :: v44 :: v45 :: v46 :: v47 :: v48 :: v49 :: v50 :: v51 :: v52 :: v53 :: v54 :: v55 :: v56 :: u57 :: u58 :: u59 :: u60 :: u61 :: u62 :: u63 :: u64 :: u65 :: u66 :: u67 :: u68 :: u69 :: u70 :: u71 :: u72 :: u73 :: u74 :: u75 :: u76 :: u77 :: u78 :: u79 :: u80 :: u81 :: u82 :: u83 :: u84 :: u85 :: u86 :: u87 :: u88 :: u89 :: u90 :: u91 :: u92 :: u93 :: u94 :: u95 :: u96 :: u97 :: u98 :: u99 :: u100 :: u101 :: u102 :: u103 :: u104 :: u105 :: u106 :: u107 :: u108 :: u109 :: u110 :: u111 :: u112 :: u113 :: u114 :: u115 :: u116 :: []), []⟩ w) :
    Code.wp Tryd.prog (sub [1, 1, 1, 0, 1, 0, 0] codeOf) (Exit.then K Q0) ⟨List.toArray ((.int .i64 seq) :: (.slice A zs.length cl) :: (.int .i64 how) :: u3 :: u4 :: u5 :: (.pointer (some ⟨w0.heap.size, 0, none⟩)) :: (.func (.func 9) #[] #[]) :: (.pointer (some ⟨w0.heap.size + 1, 0, none⟩)) :: (.int .i64 ((i : Nat) : Int)) :: u10 :: u11 :: u12 :: u13 :: u14 :: u15 :: u16 :: u17 :: u18 :: u19 :: u20 :: u21 :: u22 :: u23 :: u24 :: u25 :: u26 :: u27 :: u28 :: u29 :: u30 :: u31 :: u32 :: u33 :: u34 :: u35 :: u36 :: u37 :: u38 :: u39 :: u40 :: u41 :: u42 :: u43 :: u44 :: u45 :: u46 :: u47 :: u48 :: u49 :: u50 :: u51 :: u52 :: u53 :: u54 :: u55 :: u56 :: u57 :: u58 :: u59 :: u60 :: u61 :: u62 :: u63 :: u64 :: u65 :: u66 :: u67 :: u68 :: u69 :: u70 :: u71 :: u72 :: u73 :: u74 :: u75 :: u76 :: u77 :: u78 :: u79 :: u80 :: u81 :: u82 :: u83 :: u84 :: u85 :: u86 :: u87 :: u88 :: u89 :: u90 :: u91 :: u92 :: u93 :: u94 :: u95 :: u96 :: u97 :: u98 :: u99 :: u100 :: u101 :: u102 :: u103 :: u104 :: u105 :: u106 :: u107 :: u108 :: u109 :: u110 :: u111 :: u112 :: u113 :: u114 :: u115 :: u116 :: []), []⟩ w := by
  have HK := Lib.hid hK
  have HX := Lib.hid hX
  clear hK hX
  conv => arg 2; whnf
  obtain ⟨hi, hl3, hst, h64, h32⟩ := hI
  have Hst := Lib.hid hst
  have H64 := Lib.hid h64
  have H32 := Lib.hid h32
  have Hi := Lib.hid hi
  have hi6 : i < 1000 := by omega
  clear hst h64 h32 hi
  by_cases h1 : i + 1 < zs.length
  · have h1' : (i : Int) + 1 < (zs.length : Int) := by omega
    have kw1 : IntKind.i64.wrap ((i : Int) + 1) = (i : Int) + 1 := by rw [IntKind.wrap_i64]; omega
    have kw2 : wrap64 ((i : Int) + 1) = (i : Int) + 1 := by unfold wrap64; omega
    have kw3 : ((i : Int) + 1).toNat = i + 1 := by omega
    have kw4 : (0 : Int) ≤ (i : Int) + 1 := by omega
    by_cases h2 : (i : Int) < 2 * q
    · go_wp2_with (go_at_call 9; (with_reducible refine (CQ.out _).mono ?_); rintro e wx ⟨rfl, rfl⟩)
      have hl2 : l.length < 3 := by have := Hi.out; omega
      obtain ⟨bz, oz, rfl, hbz, hcz⟩ := hz.2.2 (by omega)
      have z064 := hz.bd i
      have z164 := hz.bd (i + 1)
      have HC : Hid (∀ V, Below w0.heap.size w0 V → V.cell? ⟨bz, oz + i, none⟩ = some (.int .i64 (zs.getD i 0)) ∧ V.cell? ⟨bz, oz + (i + 1), none⟩ = some (.int .i64 (zs.getD (i + 1) 0))) := Lib.hid fun V hV => ⟨(hV.cell (p := ⟨bz, oz + i, none⟩) hbz).trans (hcz i (by omega)), (hV.cell (p := ⟨bz, oz + (i + 1), none⟩) hbz).trans (hcz (i + 1) (by omega))⟩
      generalize zs.getD i 0 = z0 at z064 HC
      generalize zs.getD (i + 1) 0 = z1 at z164 HC
      have t64 := i64_tdiv z0 8 (by omega) z064
      have W8 := Lib.hid fun V => within_any z0 8 V z064 (by omega)
      have W16 := Lib.hid fun V => within_any (z0.tdiv 8) 16 V t64 (by omega)
      have b8 := withinI_bd z0 8 (by omega)
      have b16 := withinI_bd (z0.tdiv 8) 16 (by omega)
      generalize withinI z0 8 = d0 at W8 b8
      generalize withinI (z0.tdiv 8) 16 = a0 at W16 b16
      have CS := Lib.hid fun V => sector_any z1 V z164
      have hsl := sectorB_len z1
      generalize sectorB z1 = dat at CS hsl
      have kq : IntKind.i64.wrap (z0.tdiv 8) = z0.tdiv 8 := by rw [IntKind.wrap_i64]; omega
      have ka : IntKind.i64.wrap (36 + a0) = 36 + a0 := by rw [IntKind.wrap_i64]; omega
      have i0 : (0 : Int) ≤ (i : Int) := by omega
      have i1 : (i : Int) < (zs.length : Int) := by omega
      have Hx64 := Lib.hid (show Its64 (l ++ [⟨d0, 36 + a0, dat⟩]) from its64_app H64.out (its64_one ⟨by dsimp only; omega, by dsimp only; omega⟩))
      have Hx32 := Lib.hid (show Its32 (l ++ [⟨d0, 36 + a0, dat⟩]) from fun x hx => by
        rcases List.mem_append.1 hx with hx | hx
        · exact H32.out x hx
        · rw [List.mem_singleton] at hx; rw [hx]; exact hsl)
      clear hcz CQ HX hz
      refine wp_region_noPanic (region_ord 24 [] (fun V => FdS w0 s v l V) (by kernel_rfl) (by kernel_rfl) (fun _ _ _ _ _ h => h) fun R => ?_)
      change anyI _ _ _ _ _ _ 27 _ _ wx.drew
      have HS0 := Lib.hid (show (fun V => FdS w0 s v l V) wx.drew from FdS.drew Hst.out)
      refine' anyI_take R 0 rfl (v := ?_) (by kernel_rfl) (by rfl) (fun V hV => ?hy) HS0.out ?_
      case hy => ((try dsimp only at hV);  have qk := HC.out V hV.2.1; have p0 := qk.1; have p1 := qk.2; have p3 := hV.2.2.2.1; go_simp; try with_reducible rfl)
      try simp only [Act.put, List.getElem_toArray, List.getElem_cons_succ, List.getElem_cons_zero, List.setIfInBounds_toArray, List.set_cons_zero, List.set_cons_succ]
      refine' anyI_take R 1 rfl (v := ?_) (by kernel_rfl) (by rfl) (fun V hV => ?hy) HS0.out ?_
      case hy => ((try dsimp only at hV);  have qk := HC.out V hV.2.1; have p0 := qk.1; have p1 := qk.2; have p3 := hV.2.2.2.1; go_simp; try with_reducible rfl)
      try simp only [Act.put, List.getElem_toArray, List.getElem_cons_succ, List.getElem_cons_zero, List.setIfInBounds_toArray, List.set_cons_zero, List.set_cons_succ]
      refine' anyI_take R 2 rfl (v := ?_) (by kernel_rfl) (by rfl) (fun V hV => ?hy) HS0.out ?_
      case hy => ((try dsimp only at hV);  have qk := HC.out V hV.2.1; have p0 := qk.1; have p1 := qk.2; have p3 := hV.2.2.2.1; go_simp; try with_reducible rfl)
      try simp only [Act.put, List.getElem_toArray, List.getElem_cons_succ, List.getElem_cons_zero, List.setIfInBounds_toArray, List.set_cons_zero, List.set_cons_succ]
      refine' anyI_take R 3 rfl (v := ?_) (by kernel_rfl) (by rfl) (fun V hV => ?hy) HS0.out ?_
      case hy => ((try dsimp only at hV);  have qk := HC.out V hV.2.1; have p0 := qk.1; have p1 := qk.2; have p3 := hV.2.2.2.1; go_simp; try with_reducible rfl)
      try simp only [Act.put, List.getElem_toArray, List.getElem_cons_succ, List.getElem_cons_zero, List.setIfInBounds_toArray, List.set_cons_zero, List.set_cons_succ]
      refine' anyI_take R 4 rfl (v := ?_) (by kernel_rfl) (by rfl) (fun V hV => ?hy) HS0.out ?_
      case hy => ((try dsimp only at hV);  have qk := HC.out V hV.2.1; have p0 := qk.1; have p1 := qk.2; have p3 := hV.2.2.2.1; go_simp; try with_reducible rfl)
      try simp only [Act.put, List.getElem_toArray, List.getElem_cons_succ, List.getElem_cons_zero, List.setIfInBounds_toArray, List.set_cons_zero, List.set_cons_succ]
      refine' anyI_take R 5 rfl (v := ?_) (by kernel_rfl) (by rfl) (fun V hV => ?hy) HS0.out ?_
      case hy => ((try dsimp only at hV);  have qk := HC.out V hV.2.1; have p0 := qk.1; have p1 := qk.2; have p3 := hV.2.2.2.1; go_simp; try with_reducible rfl)
      try simp only [Act.put, List.getElem_toArray, List.getElem_cons_succ, List.getElem_cons_zero, List.setIfInBounds_toArray, List.set_cons_zero, List.set_cons_succ]
      refine' anyI_take R 6 rfl (v := ?_) (by kernel_rfl) (by rfl) (fun V hV => ?hy) HS0.out ?_
      case hy => ((try dsimp only at hV);  have qk := HC.out V hV.2.1; have p0 := qk.1; have p1 := qk.2; have p3 := hV.2.2.2.1; go_simp; try with_reducible rfl)
      try simp only [Act.put, List.getElem_toArray, List.getElem_cons_succ, List.getElem_cons_zero, List.setIfInBounds_toArray, List.set_cons_zero, List.set_cons_succ]
      refine' anyI_take R 8 rfl (v := ?_) (by kernel_rfl) (by rfl) (fun V hV => ?hy) HS0.out ?_
      case hy => ((try dsimp only at hV);  have qk := HC.out V hV.2.1; have p0 := qk.1; have p1 := qk.2; have p3 := hV.2.2.2.1; go_simp; try with_reducible rfl)
      try simp only [Act.put, List.getElem_toArray, List.getElem_cons_succ, List.getElem_cons_zero, List.setIfInBounds_toArray, List.set_cons_zero, List.set_cons_succ]
      refine' anyI_take R 9 rfl (v := ?_) (by kernel_rfl) (by rfl) (fun V hV => ?hy) HS0.out ?_
      case hy => ((try dsimp only at hV);  have qk := HC.out V hV.2.1; have p0 := qk.1; have p1 := qk.2; have p3 := hV.2.2.2.1; go_simp; try with_reducible rfl)
      try simp only [Act.put, List.getElem_toArray, List.getElem_cons_succ, List.getElem_cons_zero, List.setIfInBounds_toArray, List.set_cons_zero, List.set_cons_succ]
      refine' anyI_take R 10 rfl (v := ?_) (by kernel_rfl) (by rfl) (fun V hV => ?hy) HS0.out ?_
      case hy => ((try dsimp only at hV);  have qk := HC.out V hV.2.1; have p0 := qk.1; have p1 := qk.2; have p3 := hV.2.2.2.1; go_simp; try with_reducible rfl)
      try simp only [Act.put, List.getElem_toArray, List.getElem_cons_succ, List.getElem_cons_zero, List.setIfInBounds_toArray, List.set_cons_zero, List.set_cons_succ]
      refine' anyI_take R 11 rfl (v := ?_) (by kernel_rfl) (by rfl) (fun V hV => ?hy) HS0.out ?_
      case hy => ((try dsimp only at hV);  have qk := HC.out V hV.2.1; have p0 := qk.1; have p1 := qk.2; have p3 := hV.2.2.2.1; go_simp; try with_reducible rfl)
      try simp only [Act.put, List.getElem_toArray, List.getElem_cons_succ, List.getElem_cons_zero, List.setIfInBounds_toArray, List.set_cons_zero, List.set_cons_succ]
      refine' anyI_take R 12 rfl (v := ?_) (by kernel_rfl) (by rfl) (fun V hV => ?hy) HS0.out ?_
      case hy => ((try dsimp only at hV);  have qk := HC.out V hV.2.1; have p0 := qk.1; have p1 := qk.2; have p3 := hV.2.2.2.1; go_simp; try with_reducible rfl)
      try simp only [Act.put, List.getElem_toArray, List.getElem_cons_succ, List.getElem_cons_zero, List.setIfInBounds_toArray, List.set_cons_zero, List.set_cons_succ]
      refine' anyI_take R 13 rfl (v := ?_) (by kernel_rfl) (by rfl) (fun V hV => ?hy) HS0.out ?_
      case hy => ((try dsimp only at hV);  have qk := HC.out V hV.2.1; have p0 := qk.1; have p1 := qk.2; have p3 := hV.2.2.2.1; go_simp; try with_reducible rfl)
      try simp only [Act.put, List.getElem_toArray, List.getElem_cons_succ, List.getElem_cons_zero, List.setIfInBounds_toArray, List.set_cons_zero, List.set_cons_succ]
      refine' anyI_take R 16 rfl (v := ?_) (by kernel_rfl) (by rfl) (fun V hV => ?hy) HS0.out ?_
      case hy => ((try dsimp only at hV);  have qk := HC.out V hV.2.1; have p0 := qk.1; have p1 := qk.2; have p3 := hV.2.2.2.1; go_simp; try with_reducible rfl)
      try simp only [Act.put, List.getElem_toArray, List.getElem_cons_succ, List.getElem_cons_zero, List.setIfInBounds_toArray, List.set_cons_zero, List.set_cons_succ]
      refine' anyI_take R 17 rfl (v := ?_) (by kernel_rfl) (by rfl) (fun V hV => ?hy) HS0.out ?_
      case hy => ((try dsimp only at hV);  have qk := HC.out V hV.2.1; have p0 := qk.1; have p1 := qk.2; have p3 := hV.2.2.2.1; go_simp; try with_reducible rfl)
      try simp only [Act.put, List.getElem_toArray, List.getElem_cons_succ, List.getElem_cons_zero, List.setIfInBounds_toArray, List.set_cons_zero, List.set_cons_succ]
      refine' anyI_take R 18 rfl (v := ?_) (by kernel_rfl) (by rfl) (fun V hV => ?hy) HS0.out ?_
      case hy => ((try dsimp only at hV);  have qk := HC.out V hV.2.1; have p0 := qk.1; have p1 := qk.2; have p3 := hV.2.2.2.1; go_simp; try with_reducible rfl)
      try simp only [Act.put, List.getElem_toArray, List.getElem_cons_succ, List.getElem_cons_zero, List.setIfInBounds_toArray, List.set_cons_zero, List.set_cons_succ]
      refine' anyI_take R 19 rfl (v := ?_) (by kernel_rfl) (by rfl) (fun V hV => ?hy) HS0.out ?_
      case hy => ((try dsimp only at hV);  have qk := HC.out V hV.2.1; have p0 := qk.1; have p1 := qk.2; have p3 := hV.2.2.2.1; go_simp; try with_reducible rfl)
      try simp only [Act.put, List.getElem_toArray, List.getElem_cons_succ, List.getElem_cons_zero, List.setIfInBounds_toArray, List.set_cons_zero, List.set_cons_succ]
      refine' anyI_take R 20 rfl (v := ?_) (by kernel_rfl) (by rfl) (fun V hV => ?hy) HS0.out ?_
      case hy => ((try dsimp only at hV);  have qk := HC.out V hV.2.1; have p0 := qk.1; have p1 := qk.2; have p3 := hV.2.2.2.1; go_simp; try with_reducible rfl)
      try simp only [Act.put, List.getElem_toArray, List.getElem_cons_succ, List.getElem_cons_zero, List.setIfInBounds_toArray, List.set_cons_zero, List.set_cons_succ]
      refine anyI_one 7 (by kernel_rfl) rfl ?_
      try simp only [List.getElem_toArray, List.getElem_cons_succ, List.getElem_cons_zero]
      refine opE_step ?_
      rw [if_pos (by rfl)]
      go_simp
      go_at_call 9
      (with_reducible refine (W8.out _).mono ?_)
      rintro e wx ⟨rfl, rfl⟩
      try dsimp only
      refine ⟨HS0.out, ?_⟩
      try simp only [Act.put, List.getElem_toArray, List.getElem_cons_succ, List.getElem_cons_zero, List.setIfInBounds_toArray, List.set_cons_zero, List.set_cons_succ]
      refine anyI_one 14 (by kernel_rfl) rfl ?_
      try simp only [List.getElem_toArray, List.getElem_cons_succ, List.getElem_cons_zero]
      refine opE_step ?_
      rw [if_pos (by rfl)]
      go_simp
      go_at_call 9
      (with_reducible refine (W16.out _).mono ?_)
      rintro e wx ⟨rfl, rfl⟩
      try dsimp only
      refine ⟨HS0.out, ?_⟩
      try simp only [Act.put, List.getElem_toArray, List.getElem_cons_succ, List.getElem_cons_zero, List.setIfInBounds_toArray, List.set_cons_zero, List.set_cons_succ]
      refine' anyI_take R 15 rfl (v := ?_) (by kernel_rfl) (by rfl) (fun V hV => ?hy) HS0.out ?_
      case hy => ((try dsimp only at hV);  have qk := HC.out V hV.2.1; have p0 := qk.1; have p1 := qk.2; have p3 := hV.2.2.2.1; go_simp; try with_reducible rfl)
      try simp only [Act.put, List.getElem_toArray, List.getElem_cons_succ, List.getElem_cons_zero, List.setIfInBounds_toArray, List.set_cons_zero, List.set_cons_succ]
      refine anyI_one 21 (by kernel_rfl) rfl ?_
      try simp only [List.getElem_toArray, List.getElem_cons_succ, List.getElem_cons_zero]
      refine opE_step ?_
      rw [if_pos (by rfl)]
      go_simp
      go_at_call 18
      refine (CS.out _).mono ?_
      rintro e w1 ⟨g1, rfl, OV, hb⟩
      have HZ := Lib.hid HS0.out.sz
      replace HS0 := Lib.hid (FdS.below HS0.out hb)
      have Hr1 := Lib.hid OV.rdS.1
      have hg1 := (OV.lt g1 rfl).1
      have Hg1 := Lib.hid (Nat.le_trans HZ.out hg1)
      have HW := Lib.hid hg1
      clear hb OV HZ hg1
      try dsimp only
      refine ⟨HS0.out, ?_⟩
      try simp only [Act.put, List.getElem_toArray, List.getElem_cons_succ, List.getElem_cons_zero, List.setIfInBounds_toArray, List.set_cons_zero, List.set_cons_succ]
      refine' anyI_take R 22 rfl (v := ?_) (by kernel_rfl) (by rfl) (fun V hV => ?hy) HS0.out ?_
      case hy => ((try dsimp only at hV);  have qk := HC.out V hV.2.1; have p0 := qk.1; have p1 := qk.2; have p3 := hV.2.2.2.1; go_simp; try with_reducible rfl)
      try simp only [Act.put, List.getElem_toArray, List.getElem_cons_succ, List.getElem_cons_zero, List.setIfInBounds_toArray, List.set_cons_zero, List.set_cons_succ]
      refine anyI_one 23 (by kernel_rfl) rfl ?_
      try simp only [List.getElem_toArray, List.getElem_cons_succ, List.getElem_cons_zero]
      refine opE_step ?_
      rw [if_pos (by rfl)]
      go_simp
      replace HS0 := Lib.hid (FdS.below HS0.out (below1 w1 (.cells #[.int .i64 d0, .int .i64 (36 + a0), .slice (some ⟨g1, 0, none⟩) 32 32] 43)))
      try dsimp only
      refine ⟨HS0.out, ?_⟩
      try simp only [Act.put, List.getElem_toArray, List.getElem_cons_succ, List.getElem_cons_zero, List.setIfInBounds_toArray, List.set_cons_zero, List.set_cons_succ]
      refine anyI_tail (by kernel_rfl) ?_
      try simp only [List.drop_succ_cons, List.drop_zero]
      clear R
      have HA := Lib.hid HS0.out
      have HN := Lib.hid (fun ob (hob : ob = v.ownBlock) => src_one (w := w1.alloc (.cells #[.int .i64 d0, .int .i64 (36 + a0), .slice (some ⟨g1, 0, none⟩) 32 32] 43)) (lo := w0.heap.size + 2) (g := w1.heap.size) (ob := ob) (x := ⟨d0, 36 + a0, dat⟩) (D := some ⟨g1, 0, none⟩) (c := 32) (by dsimp only; rw [hsl]; exact heap_alloc_new _ _) ((Hr1.out.below (below1 w1 _) (Nat.le_refl _)).more (by simp)) (by dsimp only; omega) (fun _ a ha => by
        injection ha with ha
        subst ha
        refine ⟨fun e => ?_, Hg1.out⟩
        rw [hob] at e
        have h1 := (Hst.out.1.lt g1 e.symm).2
        exact absurd (Nat.lt_of_lt_of_le h1 HW.out) (Nat.lt_irrefl _)))
      go_wp2_with (
        ((with_reducible refine (id ?_ : wpList _ _ _ (⟨some 55, _, _, _, _, _⟩ :: _) _ _)); refine wpList_append_I _ (by rfl) _ _ _ (by rfl) (w0.heap.size + 2) (w0.heap.size + 2) 43 Tryd.underlying27 infoI v _ (by rfl) HA.out.1 (some ⟨w1.heap.size, 0, none⟩) 1 1 _ (by rfl) (by rfl) (HN.out _ rfl) (by show l.length + 1 ≤ _; omega) HA.out.sz ?_
         intro v4 w4 O4 g4 _
         obtain ⟨A4, c4, rfl, _, _⟩ := O4.rd
         have H4 := Lib.hid (show FdS w0 s _ (l ++ [⟨d0, 36 + a0, dat⟩]) (w4.setCell ⟨w0.heap.size + 1, 1, none⟩ (.slice A4 _ c4)) from FdS.put1 HA.out g4 O4)
         rw [show (l ++ [(⟨d0, 36 + a0, dat⟩ : It)]).length = l.length + 1 from List.length_append] at H4
         obtain ⟨_, _, _, q3', q4', _⟩ := HA.out.grow g4 (fun k e => (HA.out.1.lt k e).1) O4
         have q5' := q4' 1
         clear O4 g4 q4'))
      refine NoPanic.normal ?_
      go_wp2_with fail
      exact HK.out _ _ _ _ _ _ _ _ _ _ _ _ _ _ _ _ _ _ _ _ _ _ _ _ _ _ _ _ _ _ _ _ _ _ _ _ _ _ _ _ _ _ _ _ ⟨by have := Hi.out; simp; omega, by simp; omega, H4.out, Hx64.out, Hx32.out⟩ (by omega)
    · clear HK
      go_wp2_with (go_at_call 9; (with_reducible refine (CQ.out _).mono ?_); rintro e wx ⟨rfl, rfl⟩)
      exact HX.out _ _ _ _ _ _ _ _ _ _ _ _ _ _ _ _ _ _ _ _ _ _ _ _ _ _ _ _ _ _ _ _ _ _ _ _ _ _ _ _ _ (by trivial)
  · have h1' : ¬ (i : Int) + 1 < (zs.length : Int) := by omega
    have kw1 : IntKind.i64.wrap ((i : Int) + 1) = (i : Int) + 1 := by rw [IntKind.wrap_i64]; omega
    clear HK
    go_wp2_with fail
    exact HX.out _ _ _ _ _ _ _ _ _ _ _ _ _ _ _ _ _ _ _ _ _ _ _ _ _ _ _ _ _ _ _ _ _ _ _ _ _ _ _ _ _ (by trivial)
set_option maxRecDepth 100000 in
set_option maxHeartbeats 3200000 in
theorem ofR {w0 : World} {A : Option Addr} {cl : Nat} {zs : List Int} {s how : Int} {q : Int} {seq : Int} {v0 : Value} {l0 : List It} {w : World} (u3 u4 u5 u10 u11 u12 u13 u14 u15 u16 u17 u18 u19 u20 u21 u22 u23 u24 u25 u26 u27 u28 u29 u30 u31 u32 u33 u34 u35 u36 u37 u38 u39 u40 u41 u42 u43 u44 u45 u46 u47 u48 u49 u50 u51 u52 u53 u54 u55 u56 u57 u58 u59 u60 u61 u62 u63 u64 u65 u66 u67 u68 u69 u70 u71 u72 u73 u74 u75 u76 u77 u78 u79 u80 u81 u82 u83 u84 u85 u86 u87 u88 u89 u90 u91 u92 u93 u94 u95 u96 u97 u98 u99 u100 u101 u102 u103 u104 u105 u106 u107 u108 u109 u110 u111 u112 u113 u114 u115 u116 : Value) (Q : Exit → Act → World → Prop) (hz : RdZ w0 w0.heap.size A zs) (CQ : Hid (∀ V, Calls Tryd.prog 9 #[.int .i64 how, .int .i64 4] V fun e w' => e = .returned (.int .i64 q) ∧ w' = V)) (hq : 0 ≤ q ∧ q < 4) (hI : (0 = 2 * l0.length ∧ l0.length ≤ 3 ∧ FdS w0 s v0 l0 w ∧ Its64 l0 ∧ Its32 l0))
    (hX : ∀ (v16 v17 v18 v19 v20 v21 v22 v23 v24 v25 v26 v27 v28 v29 v30 v31 v32 v33 v34 v35 v36 v37 v38 v39 v40 v41 v42 v43 v44 v45 v46 v47 v48 v49 v50 v51 v52 v53 v54 v55 v56 : Value) (i : Nat) (v : Value) (l : List It) (V : World), (i = 2 * l.length ∧ l.length ≤ 3 ∧ FdS w0 s v l V ∧ Its64 l ∧ Its32 l) → (True) → Q (.exit 0) ⟨List.toArray ((.int .i64 seq) :: (.slice A zs.length cl) :: (.int .i64 how) :: u3 :: u4 :: u5 :: (.pointer (some ⟨w0.heap.size, 0, none⟩)) :: (.func (.func 9) #[] #[]) :: (.pointer (some ⟨w0.heap.size + 1, 0, none⟩)) :: (.int .i64 ((i : Nat) : Int)) :: u10 :: u11 :: u12 :: u13 :: u14 :: u15 :: v16 :: v17 :: v18 :: v19 :: v20 :: v21 :: v22 :: v23 :: v24 :: v25 :: v26 :: v27 :: v28 :: v29 :: v30 :: v31 :: v32 :: v33 :: v34 :: v35 :: v36 :: v37 :: v38 :: v39 :: v40 :: v41 :: v42 :: v43 :: v44 :: v45 :: v46 :: v47 :: v48 :: v49 :: v50 :: v51 :: v52 :: v53 :: v54 :: v55 :: v56 :: u57 :: u58 :: u59 :: u60 :: u61 :: u62 :: u63 :: u64 :: u65 :: u66 :: u67 :: u68 :: u69 :: u70 :: u71 :: u72 :: u73 :: u74 :: u75 :: u76 :: u77 :: u78 :: u79 :: u80 :: u81 :: u82 :: u83 :: u84 :: u85 :: u86 :: u87 :: u88 :: u89 :: u90 :: u91 :: u92 :: u93 :: u94 :: u95 :: u96 :: u97 :: u98 :: u99 :: u100 :: u101 :: u102 :: u103 :: u104 :: u105 :: u106 :: u107 :: u108 :: u109 :: u110 :: u111 :: u112 :: u113 :: u114 :: u115 :: u116 :: []), []⟩ V) :
    Code.wp Tryd.prog (.loop (sub [1, 1, 1, 0, 1, 0, 0] codeOf)) Q ⟨List.toArray ((.int .i64 seq) :: (.slice A zs.length cl) :: (.int .i64 how) :: u3 :: u4 :: u5 :: (.pointer (some ⟨w0.heap.size, 0, none⟩)) :: (.func (.func 9) #[] #[]) :: (.pointer (some ⟨w0.heap.size + 1, 0, none⟩)) :: (.int .i64 ((0 : Nat) : Int)) :: u10 :: u11 :: u12 :: u13 :: u14 :: u15 :: u16 :: u17 :: u18 :: u19 :: u20 :: u21 :: u22 :: u23 :: u24 :: u25 :: u26 :: u27 :: u28 :: u29 :: u30 :: u31 :: u32 :: u33 :: u34 :: u35 :: u36 :: u37 :: u38 :: u39 :: u40 :: u41 :: u42 :: u43 :: u44 :: u45 :: u46 :: u47 :: u48 :: u49 :: u50 :: u51 :: u52 :: u53 :: u54 :: u55 :: u56 :: u57 :: u58 :: u59 :: u60 :: u61 :: u62 :: u63 :: u64 :: u65 :: u66 :: u67 :: u68 :: u69 :: u70 :: u71 :: u72 :: u73 :: u74 :: u75 :: u76 :: u77 :: u78 :: u79 :: u80 :: u81 :: u82 :: u83 :: u84 :: u85 :: u86 :: u87 :: u88 :: u89 :: u90 :: u91 :: u92 :: u93 :: u94 :: u95 :: u96 :: u97 :: u98 :: u99 :: u100 :: u101 :: u102 :: u103 :: u104 :: u105 :: u106 :: u107 :: u108 :: u109 :: u110 :: u111 :: u112 :: u113 :: u114 :: u115 :: u116 :: []), []⟩ w := by
  refine wp_loop_ghost (fun gk a V => ∀ C : Prop, (∀ (u16 u17 u18 u19 u20 u21 u22 u23 u24 u25 u26 u27 u28 u29 u30 u31 u32 u33 u34 u35 u36 u37 u38 u39 u40 u41 u42 u43 u44 u45 u46 u47 u48 u49 u50 u51 u52 u53 u54 u55 u56 : Value) (i : Nat) (v : Value) (l : List It), gk = zs.length - i → (i = 2 * l.length ∧ l.length ≤ 3 ∧ FdS w0 s v l V ∧ Its64 l ∧ Its32 l) → a = ⟨List.toArray ((.int .i64 seq) :: (.slice A zs.length cl) :: (.int .i64 how) :: u3 :: u4 :: u5 :: (.pointer (some ⟨w0.heap.size, 0, none⟩)) :: (.func (.func 9) #[] #[]) :: (.pointer (some ⟨w0.heap.size + 1, 0, none⟩)) :: (.int .i64 ((i : Nat) : Int)) :: u10 :: u11 :: u12 :: u13 :: u14 :: u15 :: u16 :: u17 :: u18 :: u19 :: u20 :: u21 :: u22 :: u23 :: u24 :: u25 :: u26 :: u27 :: u28 :: u29 :: u30 :: u31 :: u32 :: u33 :: u34 :: u35 :: u36 :: u37 :: u38 :: u39 :: u40 :: u41 :: u42 :: u43 :: u44 :: u45 :: u46 :: u47 :: u48 :: u49 :: u50 :: u51 :: u52 :: u53 :: u54 :: u55 :: u56 :: u57 :: u58 :: u59 :: u60 :: u61 :: u62 :: u63 :: u64 :: u65 :: u66 :: u67 :: u68 :: u69 :: u70 :: u71 :: u72 :: u73 :: u74 :: u75 :: u76 :: u77 :: u78 :: u79 :: u80 :: u81 :: u82 :: u83 :: u84 :: u85 :: u86 :: u87 :: u88 :: u89 :: u90 :: u91 :: u92 :: u93 :: u94 :: u95 :: u96 :: u97 :: u98 :: u99 :: u100 :: u101 :: u102 :: u103 :: u104 :: u105 :: u106 :: u107 :: u108 :: u109 :: u110 :: u111 :: u112 :: u113 :: u114 :: u115 :: u116 :: []), []⟩ → C) → C) (zs.length - 0) ?_ ?_
  · intro C hC
    exact hC _ _ _ _ _ _ _ _ _ _ _ _ _ _ _ _ _ _ _ _ _ _ _ _ _ _ _ _ _ _ _ _ _ _ _ _ _ _ _ _ _ (0) (v0) (l0) rfl hI rfl
  · intro gk a V hI'
    refine hI' _ ?_
    intro u16 u17 u18 u19 u20 u21 u22 u23 u24 u25 u26 u27 u28 u29 u30 u31 u32 u33 u34 u35 u36 u37 u38 u39 u40 u41 u42 u43 u44 u45 u46 u47 u48 u49 u50 u51 u52 u53 u54 u55 u56 i v l hk hinv ha
    subst ha
    subst hk
    refine ofRb _ _ _ _ _ _ _ _ _ _ _ _ _ _ _ _ _ _ _ _ _ _ _ _ _ _ _ _ _ _ _ _ _ _ _ _ _ _ _ _ _ _ _ _ _ _ _ _ _ _ _ _ _ _ _ _ _ _ _ _ _ _ _ _ _ _ _ _ _ _ _ _ _ _ _ _ _ _ _ _ _ _ _ _ _ _ _ _ _ _ _ _ _ _ _ _ _ _ _ _ _ _ _ _ _ _ _ _ _ _ _ _ hz CQ hq hinv (fun v16 v17 v18 v19 v20 v21 v22 v23 v24 v25 v26 v27 v28 v29 v30 v31 v32 v33 v34 v35 v36 v37 v38 v39 v40 v41 v42 v43 v44 v45 v46 v47 v48 v49 v50 v51 v52 v53 v54 v55 v56 v2 l2 V2 h2 hm => ?_) (fun v16 v17 v18 v19 v20 v21 v22 v23 v24 v25 v26 v27 v28 v29 v30 v31 v32 v33 v34 v35 v36 v37 v38 v39 v40 v41 v42 v43 v44 v45 v46 v47 v48 v49 v50 v51 v52 v53 v54 v55 v56 hx => hX v16 v17 v18 v19 v20 v21 v22 v23 v24 v25 v26 v27 v28 v29 v30 v31 v32 v33 v34 v35 v36 v37 v38 v39 v40 v41 v42 v43 v44 v45 v46 v47 v48 v49 v50 v51 v52 v53 v54 v55 v56 i v l V hinv hx)
    refine ⟨_, hm, fun C hC => ?_⟩
    exact hC v16 v17 v18 v19 v20 v21 v22 v23 v24 v25 v26 v27 v28 v29 v30 v31 v32 v33 v34 v35 v36 v37 v38 v39 v40 v41 v42 v43 v44 v45 v46 v47 v48 v49 v50 v51 v52 v53 v54 v55 v56 ((i + 2)) (v2) (l2) rfl h2 rfl
set_option maxRecDepth 100000 in
set_option maxHeartbeats 3200000 in
theorem ofS {w0 : World} {A : Option Addr} {cl : Nat} {zs : List Int} {s how seq q : Int} {v : Value} {l : List It} {w : World} (u3 u4 u5 u9 u10 u11 u12 u13 u14 u15 u16 u17 u18 u19 u20 u21 u22 u23 u24 u25 u26 u27 u28 u29 u30 u31 u32 u33 u34 u35 u36 u37 u38 u39 u40 u41 u42 u43 u44 u45 u46 u47 u48 u49 u50 u51 u52 u53 u54 u55 u56 u57 u58 u59 u61 u62 u63 u64 u65 u66 u67 u68 u69 u70 u71 u72 u73 u74 u75 u76 u77 u78 u79 u80 u81 u82 u83 u84 u85 u86 u87 u88 u89 u90 u91 u92 u93 u94 u95 u96 u97 u98 u99 u100 u101 u102 u103 u104 u105 u106 u107 u108 u109 u110 u111 u112 u113 u114 u115 u116 : Value) (K : Act → World → Prop) (Q0 : Exit → Act → World → Prop) (hst : FdS w0 s v l w) (h64 : Its64 l) (h32 : Its32 l) (hs : (-9223372036854775808 ≤ s ∧ s ≤ 9223372036854775807)) (hseq : (-9223372036854775808 ≤ seq ∧ seq ≤ 9223372036854775807)) (hl : l.length ≤ 3) 
    (hK : ∀ (v61 v62 v63 v64 v65 v66 v67 v68 v69 v70 v71 v72 : Value) (s' : Int) (v' : Value) (l' : List It) (V : World), FdS w0 s' v' l' V → Its64 l' → Its32 l' → l'.length ≤ 6 → (-9223372036854775808 ≤ s' ∧ s' ≤ 9223372036854775807) → (s' = s ∨ s' = seq) →  K ⟨List.toArray ((.int .i64 seq) :: (.slice A zs.length cl) :: (.int .i64 how) :: u3 :: u4 :: u5 :: (.pointer (some ⟨w0.heap.size, 0, none⟩)) :: (.func (.func 9) #[] #[]) :: (.pointer (some ⟨w0.heap.size + 1, 0, none⟩)) :: u9 :: u10 :: u11 :: u12 :: u13 :: u14 :: u15 :: u16 :: u17 :: u18 :: u19 :: u20 :: u21 :: u22 :: u23 :: u24 :: u25 :: u26 :: u27 :: u28 :: u29 :: u30 :: u31 :: u32 :: u33 :: u34 :: u35 :: u36 :: u37 :: u38 :: u39 :: u40 :: u41 :: u42 :: u43 :: u44 :: u45 :: u46 :: u47 :: u48 :: u49 :: u50 :: u51 :: u52 :: u53 :: u54 :: u55 :: u56 :: u57 :: u58 :: u59 :: (.int .i64 q) :: v61 :: v62 :: v63 :: v64 :: v65 :: v66 :: v67 :: v68 :: v69 :: v70 :: v71 :: v72 :: u73 :: u74 :: u75 :: u76 :: u77 :: u78 :: u79 :: u80 :: u81 :: u82 :: u83 :: u84 :: u85 :: u86 :: u87 :: u88 :: u89 :: u90 :: u91 :: u92 :: u93 :: u94 :: u95 :: u96 :: u97 :: u98 :: u99 :: u100 :: u101 :: u102 :: u103 :: u104 :: u105 :: u106 :: u107 :: u108 :: u109 :: u110 :: u111 :: u112 :: u113 :: u114 :: u115 :: u116 :: []), []⟩ V) :
    Code.wp Tryd.prog (sub [1, 1, 1, 1, 0, 1] codeOf) (Exit.then K Q0) ⟨List.toArray ((.int .i64 seq) :: (.slice A zs.length cl) :: (.int .i64 how) :: u3 :: u4 :: u5 :: (.pointer (some ⟨w0.heap.size, 0, none⟩)) :: (.func (.func 9) #[] #[]) :: (.pointer (some ⟨w0.heap.size + 1, 0, none⟩)) :: u9 :: u10 :: u11 :: u12 :: u13 :: u14 :: u15 :: u16 :: u17 :: u18 :: u19 :: u20 :: u21 :: u22 :: u23 :: u24 :: u25 :: u26 :: u27 :: u28 :: u29 :: u30 :: u31 :: u32 :: u33 :: u34 :: u35 :: u36 :: u37 :: u38 :: u39 :: u40 :: u41 :: u42 :: u43 :: u44 :: u45 :: u46 :: u47 :: u48 :: u49 :: u50 :: u51 :: u52 :: u53 :: u54 :: u55 :: u56 :: u57 :: u58 :: u59 :: (.int .i64 q) :: u61 :: u62 :: u63 :: u64 :: u65 :: u66 :: u67 :: u68 :: u69 :: u70 :: u71 :: u72 :: u73 :: u74 :: u75 :: u76 :: u77 :: u78 :: u79 :: u80 :: u81 :: u82 :: u83 :: u84 :: u85 :: u86 :: u87 :: u88 :: u89 :: u90 :: u91 :: u92 :: u93 :: u94 :: u95 :: u96 :: u97 :: u98 :: u99 :: u100 :: u101 :: u102 :: u103 :: u104 :: u105 :: u106 :: u107 :: u108 :: u109 :: u110 :: u111 :: u112 :: u113 :: u114 :: u115 :: u116 :: []), []⟩ w := by
  have HK := Lib.hid hK
  clear hK
  conv => arg 2; whnf
  have Hst := Lib.hid hst
  have H64 := Lib.hid h64
  have H32 := Lib.hid h32
  have Hs := Lib.hid hs
  have Hseq := Lib.hid hseq
  by_cases h15 : q = 15
  · subst h15
    obtain ⟨_, _, q2, q3, q4, _⟩ := hst
    have q5 := q4 0
    have HP := Lib.hid (Hst.out.put0 seq)
    clear h64 h32 hs hseq q4
    go_wp2_with fail
    exact HK.out _ _ _ _ _ _ _ _ _ _ _ _ _ _ _ _ HP.out H64.out H32.out (by omega) Hseq.out (.inr rfl)
  · have e15 : (q == 15) = false := beq_eq_false_iff_ne.2 h15
    by_cases h16 : q = 16
    · subst h16
      obtain ⟨A5, c5, rfl, hc5, _⟩ := hst.1.rd
      obtain ⟨_, _, q2, q3, q4, _⟩ := hst
      have HA := Lib.hid Hst.out
      have HN := Lib.hid HA.out.1.src
      clear h64 h32 hs hseq q4
      go_wp2_with (
        ((with_reducible refine (id ?_ : wpList _ _ _ (⟨some 71, _, _, _, _, _⟩ :: _) _ _)); refine wpList_append_I _ (by rfl) _ _ _ (by rfl) (w0.heap.size + 2) (w0.heap.size + 2) 43 Tryd.underlying27 infoI _ l (by rfl) HA.out.1 A5 l.length c5 l (by rfl) rfl HN.out (by omega) HA.out.sz ?_
         intro v4 w4 O4 g4 _
         obtain ⟨A4, c4, rfl, _, _⟩ := O4.rd
         have H4 := Lib.hid (show FdS w0 s _ (l ++ l) (w4.setCell ⟨w0.heap.size + 1, 1, none⟩ (.slice A4 _ c4)) from FdS.put1 HA.out g4 O4)
         rw [List.length_append] at H4
         obtain ⟨_, _, _, q3', q4', _⟩ := HA.out.grow g4 (fun k e => (HA.out.1.lt k e).1) O4
         have q5' := q4' 1
         clear O4 g4 q4'))
      exact HK.out _ _ _ _ _ _ _ _ _ _ _ _ _ _ _ _ H4.out (its64_app H64.out H64.out) (fun x hx => by rcases List.mem_append.1 hx with hx | hx <;> exact H32.out x hx) (by simp; omega) Hs.out (.inl rfl)
    · have e16 : (q == 16) = false := beq_eq_false_iff_ne.2 h16
      clear h64 h32 hs hseq hst
      go_wp2_with fail
      exact HK.out _ _ _ _ _ _ _ _ _ _ _ _ _ _ _ _ Hst.out H64.out H32.out (by omega) Hs.out (.inl rfl)
set_option maxRecDepth 100000 in
set_option maxHeartbeats 3200000 in
theorem ofT {w0 : World} {A : Option Addr} {cl : Nat} {zs : List Int} {s how seq : Int} {k : Nat} {v : Value} {l : List It} {w : World} (u3 u4 u5 u9 u11 u12 u13 u14 u15 u16 u17 u18 u19 u20 u21 u22 u23 u24 u25 u26 u27 u28 u29 u30 u31 u32 u33 u34 u35 u36 u37 u38 u39 u40 u41 u42 u43 u44 u45 u46 u47 u48 u49 u50 u51 u52 u53 u54 u55 u56 u57 u58 u59 u60 u61 u62 u63 u64 u65 u66 u67 u68 u69 u70 u71 u72 u73 u74 u75 u76 u77 u79 u80 u81 u82 u83 u84 u85 u86 u87 u88 u89 u90 u91 u92 u93 u94 u95 u96 u97 u98 u99 u100 u101 u102 u103 u104 u105 u106 u107 u108 u109 u110 u111 u112 u113 u114 u115 u116 : Value) (K : Act → World → Prop) (Q0 : Exit → Act → World → Prop) (hst : FdS w0 s v l w) (h64 : Its64 l) (h32 : Its32 l) (hs : (-9223372036854775808 ≤ s ∧ s ≤ 9223372036854775807)) (hseq : (-9223372036854775808 ≤ seq ∧ seq ≤ 9223372036854775807)) (hl : l.length ≤ 6) (hk : k < l.length) (hhow : (-9223372036854775808 ≤ how ∧ how ≤ 9223372036854775807)) 
    (hK : ∀ (v79 v80 v81 v82 v83 v84 v85 v86 v87 v88 v89 v90 v91 v92 v93 v94 v95 v96 v97 v98 v99 v100 v101 v102 v103 v104 v105 v106 v107 v108 v109 v110 v111 v112 v113 v114 v115 : Value) (s' : Int) (v' : Value) (l' : List It) (V : World), FdS w0 s' v' l' V → Its64 l' → l'.length ≤ 6 → (-9223372036854775808 ≤ s' ∧ s' ≤ 9223372036854775807) → (s' = s ∨ s' = seq) →  K ⟨List.toArray ((.int .i64 seq) :: (.slice A zs.length cl) :: (.int .i64 how) :: u3 :: u4 :: u5 :: (.pointer (some ⟨w0.heap.size, 0, none⟩)) :: (.func (.func 9) #[] #[]) :: (.pointer (some ⟨w0.heap.size + 1, 0, none⟩)) :: u9 :: (.int .i64 ((k : Nat) : Int)) :: u11 :: u12 :: u13 :: u14 :: u15 :: u16 :: u17 :: u18 :: u19 :: u20 :: u21 :: u22 :: u23 :: u24 :: u25 :: u26 :: u27 :: u28 :: u29 :: u30 :: u31 :: u32 :: u33 :: u34 :: u35 :: u36 :: u37 :: u38 :: u39 :: u40 :: u41 :: u42 :: u43 :: u44 :: u45 :: u46 :: u47 :: u48 :: u49 :: u50 :: u51 :: u52 :: u53 :: u54 :: u55 :: u56 :: u57 :: u58 :: u59 :: u60 :: u61 :: u62 :: u63 :: u64 :: u65 :: u66 :: u67 :: u68 :: u69 :: u70 :: u71 :: u72 :: u73 :: u74 :: u75 :: u76 :: u77 :: (.bool true) :: v79 :: v80 :: v81 :: v82 :: v83 :: v84 :: v85 :: v86 :: v87 :: v88 :: v89 :: v90 :: v91 :: v92 :: v93 :: v94 :: v95 :: v96 :: v97 :: v98 :: v99 :: v100 :: v101 :: v102 :: v103 :: v104 :: v105 :: v106 :: v107 :: v108 :: v109 :: v110 :: v111 :: v112 :: v113 :: v114 :: v115 :: u116 :: []), []⟩ V) :
    Code.wp Tryd.prog (sub [1, 1, 1, 1, 1, 0, 1, 1] codeOf) (Exit.then K Q0) ⟨List.toArray ((.int .i64 seq) :: (.slice A zs.length cl) :: (.int .i64 how) :: u3 :: u4 :: u5 :: (.pointer (some ⟨w0.heap.size, 0, none⟩)) :: (.func (.func 9) #[] #[]) :: (.pointer (some ⟨w0.heap.size + 1, 0, none⟩)) :: u9 :: (.int .i64 ((k : Nat) : Int)) :: u11 :: u12 :: u13 :: u14 :: u15 :: u16 :: u17 :: u18 :: u19 :: u20 :: u21 :: u22 :: u23 :: u24 :: u25 :: u26 :: u27 :: u28 :: u29 :: u30 :: u31 :: u32 :: u33 :: u34 :: u35 :: u36 :: u37 :: u38 :: u39 :: u40 :: u41 :: u42 :: u43 :: u44 :: u45 :: u46 :: u47 :: u48 :: u49 :: u50 :: u51 :: u52 :: u53 :: u54 :: u55 :: u56 :: u57 :: u58 :: u59 :: u60 :: u61 :: u62 :: u63 :: u64 :: u65 :: u66 :: u67 :: u68 :: u69 :: u70 :: u71 :: u72 :: u73 :: u74 :: u75 :: u76 :: u77 :: (.bool true) :: u79 :: u80 :: u81 :: u82 :: u83 :: u84 :: u85 :: u86 :: u87 :: u88 :: u89 :: u90 :: u91 :: u92 :: u93 :: u94 :: u95 :: u96 :: u97 :: u98 :: u99 :: u100 :: u101 :: u102 :: u103 :: u104 :: u105 :: u106 :: u107 :: u108 :: u109 :: u110 :: u111 :: u112 :: u113 :: u114 :: u115 :: u116 :: []), []⟩ w := by
  have HK := Lib.hid hK
  clear hK
  conv => arg 2; whnf
  have Hst := Lib.hid hst
  have H64 := Lib.hid h64
  have H32 := Lib.hid h32
  have Hs := Lib.hid hs
  have Hseq := Lib.hid hseq
  have CW := Lib.hid fun V => within_any (how.tdiv 4) 20 V (i64_tdiv how 4 (by omega) hhow) (by omega)
  have W33' := Lib.hid fun V => within_any seq 33 V hseq (by omega)
  have b33 := withinI_bd seq 33 (by omega)
  obtain ⟨m, hm⟩ : ∃ m : Nat, withinI seq 33 = m := ⟨(withinI seq 33).toNat, by omega⟩
  rw [hm] at W33' b33
  have W33 := W33'
  have kq : IntKind.i64.wrap (how.tdiv 4) = how.tdiv 4 := by have := i64_tdiv how 4 (by omega) hhow; rw [IntKind.wrap_i64]; omega
  have t64 := i64_tdiv how 4 (by omega) hhow
  generalize withinI (how.tdiv 4) 20 = q at CW
  obtain ⟨A5, c5, rfl, hc5, hrd⟩ := hst.1.rd
  obtain ⟨g, rfl, hg, _⟩ := hrd.2 (by omega)
  obtain ⟨D, c, hrg, hDc, hcut⟩ := OwIt.cell hst.1 rfl k hk
  have hkb : (itN l k).b.length = 32 := h32 _ (itN_mem hk)
  rw [hkb] at hrg hDc hcut
  have HG := Lib.hid (fun (V : World) (l' : List It) (hg : w.grownBy V (some g)) (ho : OwIt 43 V (w0.heap.size + 2) (w0.heap.size + 2) (.slice (some ⟨g, 0, none⟩) l.length c5) l') => show FdS w0 s (.slice (some ⟨g, 0, none⟩) l.length c5) l' V from Hst.out.grow hg (fun k e => (Hst.out.1.lt k e).1) ho)
  have hx := (its64_iff l).1 h64 _ (itN_mem hk)
  have Hx := Lib.hid hx
  have HD := Lib.hid (OwIt.setD hst.1 rfl k hk seq)
  have HAt := Lib.hid (OwIt.setA hst.1 rfl k hk seq)
  have HB := Lib.hid (hcut m (by omega))
  obtain ⟨xs, hx1, _⟩ := hst.1
  have f0 := hx1.frozenAt (k * 3)
  have f1 := hx1.frozenAt (k * 3 + 1)
  have f2 := hx1.frozenAt (k * 3 + 2)
  have c0 : w.cell? ⟨g, k * 3, none⟩ = some (.int .i64 (itN l k).d) := hrg 0 _ rfl
  have c1 : w.cell? ⟨g, k * 3 + 1, none⟩ = some (.int .i64 (itN l k).a) := hrg 1 _ rfl
  have c2 : w.cell? ⟨g, k * 3 + 2, none⟩ = some (.slice D 32 c) := hrg 2 _ rfl
  have C2 := Lib.hid c2
  obtain ⟨_, _, q2, q3, _⟩ := hst
  have k0 : (0 : Int) ≤ (k : Int) := by omega
  have k1 : (k : Int) < (l.length : Int) := by omega
  clear hrd hrg hcut hx1 hx h64 h32 hs hm
  by_cases h17 : q = 17
  · subst h17
    have HF := Lib.hid (HG.out _ _ HD.out.2 HD.out.1)
    go_wp2_with (go_at_call 9; (with_reducible refine (CW.out _).mono ?_); rintro e wx ⟨rfl, rfl⟩)
    exact HK.out _ _ _ _ _ _ _ _ _ _ _ _ _ _ _ _ _ _ _ _ _ _ _ _ _ _ _ _ _ _ _ _ _ _ _ _ _ _ _ _ _ HF.out (its64_set H64.out k _ ⟨Hseq.out, Hx.out.a⟩) (by simp; omega) Hs.out (.inl rfl)
  · have e17 : (q == 17) = false := beq_eq_false_iff_ne.2 h17
    by_cases h18 : q = 18
    · subst h18
      have HF := Lib.hid (HG.out _ _ HAt.out.2 HAt.out.1)
      go_wp2_with (go_at_call 9; (with_reducible refine (CW.out _).mono ?_); rintro e wx ⟨rfl, rfl⟩)
      exact HK.out _ _ _ _ _ _ _ _ _ _ _ _ _ _ _ _ _ _ _ _ _ _ _ _ _ _ _ _ _ _ _ _ _ _ _ _ _ _ _ _ _ HF.out (its64_set H64.out k _ ⟨Hx.out.d, Hseq.out⟩) (by simp; omega) Hs.out (.inl rfl)
    · have e18 : (q == 18) = false := beq_eq_false_iff_ne.2 h18
      by_cases h19 : q = 19
      · subst h19
        have HF := Lib.hid (HG.out _ _ HB.out.2 HB.out.1)
        have km : (m : Int) ≤ (c : Int) := by omega
        have km0 : (0 : Int) ≤ (m : Int) := by omega
        clear c2 c0 c1 f0 f1 HD HAt q3 q2
        go_wp2_with (go_at_call 9; (with_reducible refine (CW.out _).mono ?_); rintro e wx ⟨rfl, rfl⟩)
        refine wp_region_noPanic (region_ord 15 [] (fun V => FdS w0 s (.slice (some ⟨g, 0, none⟩) l.length c5) l V ∧ V.cell? ⟨g, k * 3 + 2, none⟩ = some (.slice D 32 c)) (by kernel_rfl) (by kernel_rfl) (fun _ _ _ _ _ h => h) fun R => ?_)
        change anyI _ _ _ _ _ _ 16 _ _ wx.drew
        have HS0 := Lib.hid (show (fun V => FdS w0 s (.slice (some ⟨g, 0, none⟩) l.length c5) l V ∧ V.cell? ⟨g, k * 3 + 2, none⟩ = some (.slice D 32 c)) wx.drew from ⟨FdS.drew Hst.out, C2.out⟩)
        refine' anyI_take R 0 rfl (v := ?_) (by kernel_rfl) (by rfl) (fun V hV => ?hy) HS0.out ?_
        case hy => ((try dsimp only at hV);  have p3 := hV.1.2.2.2.1; have p4 := hV.2; go_simp; try with_reducible rfl)
        try simp only [Act.put, List.getElem_toArray, List.getElem_cons_succ, List.getElem_cons_zero, List.setIfInBounds_toArray, List.set_cons_zero, List.set_cons_succ]
        refine' anyI_take R 1 rfl (v := ?_) (by kernel_rfl) (by rfl) (fun V hV => ?hy) HS0.out ?_
        case hy => ((try dsimp only at hV);  have p3 := hV.1.2.2.2.1; have p4 := hV.2; go_simp; try with_reducible rfl)
        try simp only [Act.put, List.getElem_toArray, List.getElem_cons_succ, List.getElem_cons_zero, List.setIfInBounds_toArray, List.set_cons_zero, List.set_cons_succ]
        refine' anyI_take R 2 rfl (v := ?_) (by kernel_rfl) (by rfl) (fun V hV => ?hy) HS0.out ?_
        case hy => ((try dsimp only at hV);  have p3 := hV.1.2.2.2.1; have p4 := hV.2; go_simp; try with_reducible rfl)
        try simp only [Act.put, List.getElem_toArray, List.getElem_cons_succ, List.getElem_cons_zero, List.setIfInBounds_toArray, List.set_cons_zero, List.set_cons_succ]
        refine' anyI_take R 3 rfl (v := ?_) (by kernel_rfl) (by rfl) (fun V hV => ?hy) HS0.out ?_
        case hy => ((try dsimp only at hV);  have p3 := hV.1.2.2.2.1; have p4 := hV.2; go_simp; try with_reducible rfl)
        try simp only [Act.put, List.getElem_toArray, List.getElem_cons_succ, List.getElem_cons_zero, List.setIfInBounds_toArray, List.set_cons_zero, List.set_cons_succ]
        refine' anyI_take R 4 rfl (v := ?_) (by kernel_rfl) (by rfl) (fun V hV => ?hy) HS0.out ?_
        case hy => ((try dsimp only at hV);  have p3 := hV.1.2.2.2.1; have p4 := hV.2; go_simp; try with_reducible rfl)
        try simp only [Act.put, List.getElem_toArray, List.getElem_cons_succ, List.getElem_cons_zero, List.setIfInBounds_toArray, List.set_cons_zero, List.set_cons_succ]
        refine' anyI_take R 5 rfl (v := ?_) (by kernel_rfl) (by rfl) (fun V hV => ?hy) HS0.out ?_
        case hy => ((try dsimp only at hV);  have p3 := hV.1.2.2.2.1; have p4 := hV.2; go_simp; try with_reducible rfl)
        try simp only [Act.put, List.getElem_toArray, List.getElem_cons_succ, List.getElem_cons_zero, List.setIfInBounds_toArray, List.set_cons_zero, List.set_cons_succ]
        refine' anyI_take R 6 rfl (v := ?_) (by kernel_rfl) (by rfl) (fun V hV => ?hy) HS0.out ?_
        case hy => ((try dsimp only at hV);  have p3 := hV.1.2.2.2.1; have p4 := hV.2; go_simp; try with_reducible rfl)
        try simp only [Act.put, List.getElem_toArray, List.getElem_cons_succ, List.getElem_cons_zero, List.setIfInBounds_toArray, List.set_cons_zero, List.set_cons_succ]
        refine' anyI_take R 7 rfl (v := ?_) (by kernel_rfl) (by rfl) (fun V hV => ?hy) HS0.out ?_
        case hy => ((try dsimp only at hV);  have p3 := hV.1.2.2.2.1; have p4 := hV.2; go_simp; try with_reducible rfl)
        try simp only [Act.put, List.getElem_toArray, List.getElem_cons_succ, List.getElem_cons_zero, List.setIfInBounds_toArray, List.set_cons_zero, List.set_cons_succ]
        refine' anyI_take R 8 rfl (v := ?_) (by kernel_rfl) (by rfl) (fun V hV => ?hy) HS0.out ?_
        case hy => ((try dsimp only at hV);  have p3 := hV.1.2.2.2.1; have p4 := hV.2; go_simp; try with_reducible rfl)
        try simp only [Act.put, List.getElem_toArray, List.getElem_cons_succ, List.getElem_cons_zero, List.setIfInBounds_toArray, List.set_cons_zero, List.set_cons_succ]
        refine' anyI_take R 9 rfl (v := ?_) (by kernel_rfl) (by rfl) (fun V hV => ?hy) HS0.out ?_
        case hy => ((try dsimp only at hV);  have p3 := hV.1.2.2.2.1; have p4 := hV.2; go_simp; try with_reducible rfl)
        try simp only [Act.put, List.getElem_toArray, List.getElem_cons_succ, List.getElem_cons_zero, List.setIfInBounds_toArray, List.set_cons_zero, List.set_cons_succ]
        refine' anyI_take R 10 rfl (v := ?_) (by kernel_rfl) (by rfl) (fun V hV => ?hy) HS0.out ?_
        case hy => ((try dsimp only at hV);  have p3 := hV.1.2.2.2.1; have p4 := hV.2; go_simp; try with_reducible rfl)
        try simp only [Act.put, List.getElem_toArray, List.getElem_cons_succ, List.getElem_cons_zero, List.setIfInBounds_toArray, List.set_cons_zero, List.set_cons_succ]
        refine anyI_one 11 (by kernel_rfl) rfl ?_
        try simp only [List.getElem_toArray, List.getElem_cons_succ, List.getElem_cons_zero]
        refine opE_step ?_
        rw [if_pos (by rfl)]
        go_simp
        go_at_call 9
        (with_reducible refine (W33.out _).mono ?_)
        rintro e wx ⟨rfl, rfl⟩
        try dsimp only
        refine ⟨HS0.out, ?_⟩
        try simp only [Act.put, List.getElem_toArray, List.getElem_cons_succ, List.getElem_cons_zero, List.setIfInBounds_toArray, List.set_cons_zero, List.set_cons_succ]
        refine' anyI_take R 12 rfl (v := ?_) (by kernel_rfl) (by rfl) (fun V hV => ?hy) HS0.out ?_
        case hy => ((try dsimp only at hV);  have p3 := hV.1.2.2.2.1; have p4 := hV.2; go_simp; try with_reducible rfl)
        try simp only [Act.put, List.getElem_toArray, List.getElem_cons_succ, List.getElem_cons_zero, List.setIfInBounds_toArray, List.set_cons_zero, List.set_cons_succ]
        refine' anyI_take R 13 rfl (v := ?_) (by kernel_rfl) (by rfl) (fun V hV => ?hy) HS0.out ?_
        case hy => ((try dsimp only at hV);  have p3 := hV.1.2.2.2.1; have p4 := hV.2; go_simp; try with_reducible rfl)
        try simp only [Act.put, List.getElem_toArray, List.getElem_cons_succ, List.getElem_cons_zero, List.setIfInBounds_toArray, List.set_cons_zero, List.set_cons_succ]
        refine' anyI_take R 14 rfl (v := ?_) (by kernel_rfl) (by rfl) (fun V hV => ?hy) HS0.out ?_
        case hy => ((try dsimp only at hV);  have p3 := hV.1.2.2.2.1; have p4 := hV.2; go_simp; try with_reducible rfl)
        try simp only [Act.put, List.getElem_toArray, List.getElem_cons_succ, List.getElem_cons_zero, List.setIfInBounds_toArray, List.set_cons_zero, List.set_cons_succ]
        refine anyI_tail (by kernel_rfl) ?_
        try simp only [List.drop_succ_cons, List.drop_zero]
        clear R
        have c2 := HS0.out.2
        go_wp2_with fail
        exact HK.out _ _ _ _ _ _ _ _ _ _ _ _ _ _ _ _ _ _ _ _ _ _ _ _ _ _ _ _ _ _ _ _ _ _ _ _ _ _ _ _ _ (FdS.drew HF.out) (its64_set H64.out k _ ⟨Hx.out.d, Hx.out.a⟩) (by simp; omega) Hs.out (.inl rfl)
      · have e19 : (q == 19) = false := beq_eq_false_iff_ne.2 h19
        go_wp2_with (go_at_call 9; (with_reducible refine (CW.out _).mono ?_); rintro e wx ⟨rfl, rfl⟩)
        exact HK.out _ _ _ _ _ _ _ _ _ _ _ _ _ _ _ _ _ _ _ _ _ _ _ _ _ _ _ _ _ _ _ _ _ _ _ _ _ _ _ _ _ Hst.out H64.out (by omega) Hs.out (.inl rfl)
end Go.Proofs.YtkbhnbkjpnigkaaDoor
end
section
set_option linter.unusedVariables false
set_option linter.unusedSimpArgs false
namespace Go.Proofs.YtkbhnbkjpnigkaaDoor
open Go.RowKit

set_option maxRecDepth 100000 in
set_option maxHeartbeats 3200000 in
theorem of_seq (seq how : Int) (A : Option Addr) (zs : List Int) (cl : Nat) (w : World) (hseq : (-9223372036854775808 ≤ seq ∧ seq ≤ 9223372036854775807)) (hhow : (-9223372036854775808 ≤ how ∧ how ≤ 9223372036854775807)) (hz : RdZ w w.heap.size A zs) :
    Calls Tryd.prog 8 #[.int .i64 seq, .slice A zs.length cl, .int .i64 how] w fun e w' => ∃ (s : Int) (l : List It) (B : Option Addr) (c : Nat), e = .returned (.agg #[.int .i64 s, .slice B l.length c]) ∧ (-9223372036854775808 ≤ s ∧ s ≤ 9223372036854775807) ∧ (s = 1 + withinI seq 2147483647 ∨ s = seq) ∧ Its64 l ∧ l.length ≤ 6 ∧ OwIt 43 w' w.heap.size w.heap.size (.slice B l.length c) l ∧ Below w.heap.size w w' := by
  have Hz := Lib.hid hz
  have W0 := Lib.hid fun V => within_any seq 2147483647 V hseq (by omega)
  have b0 := withinI_bd seq 2147483647 (by omega)
  obtain ⟨s0, hs0⟩ : ∃ s0, withinI seq 2147483647 = s0 := ⟨_, rfl⟩
  rw [hs0] at W0 b0
  have HS0 := Lib.hid hs0
  clear hs0
  have W4 := Lib.hid fun V => within_any how 4 V hhow (by omega)
  have b4 := withinI_bd how 4 (by omega)
  generalize withinI how 4 = q4 at W4 b4
  have t64 := i64_tdiv how 4 (by omega) hhow
  have W20 := Lib.hid fun V => within_any (how.tdiv 4) 20 V t64 (by omega)
  have b20 := withinI_bd (how.tdiv 4) 20 (by omega)
  generalize withinI (how.tdiv 4) 20 = q at W20 b20
  have kq : IntKind.i64.wrap (how.tdiv 4) = how.tdiv 4 := by rw [IntKind.wrap_i64]; omega
  have k1 : IntKind.i64.wrap (1 + s0) = 1 + s0 := by rw [IntKind.wrap_i64]; omega
  have S0 := Lib.hid (FdS.start2 w 29 (1 + s0))
  clear hz
  go_enter Tryd.func8, Tryd.ntmps8
  go_wp2_with fail
  (with_reducible refine (W0.out _).mono ?_); rintro e wx ⟨rfl, rfl⟩
  go_upto_block 0 with fail
  refine wp_block ?_
  refine ofR _ _ _ _ _ _ _ _ _ _ _ _ _ _ _ _ _ _ _ _ _ _ _ _ _ _ _ _ _ _ _ _ _ _ _ _ _ _ _ _ _ _ _ _ _ _ _ _ _ _ _ _ _ _ _ _ _ _ _ _ _ _ _ _ _ _ _ _ _ _ _ _ _ _ _ _ _ _ _ _ _ _ _ _ _ _ _ _ _ _ _ _ _ _ _ _ _ _ _ _ _ _ _ _ _ _ _ _ _ _ _ Hz.out W4 (by omega) ⟨by simp, by simp, S0.out, fun k hk => by simp at hk, fun x hx => by simp at hx⟩ (fun v16 v17 v18 v19 v20 v21 v22 v23 v24 v25 v26 v27 v28 v29 v30 v31 v32 v33 v34 v35 v36 v37 v38 v39 v40 v41 v42 v43 v44 v45 v46 v47 v48 v49 v50 v51 v52 v53 v54 v55 v56 i v l V hI hx => ?_)
  obtain ⟨hi, hl3, hst, h64, h32⟩ := hI
  go_upto_block 2 with (go_at_call 9; (with_reducible refine (W20.out _).mono ?_); rintro e wx ⟨rfl, rfl⟩)
  refine ofS _ _ _ _ _ _ _ _ _ _ _ _ _ _ _ _ _ _ _ _ _ _ _ _ _ _ _ _ _ _ _ _ _ _ _ _ _ _ _ _ _ _ _ _ _ _ _ _ _ _ _ _ _ _ _ _ _ _ _ _ _ _ _ _ _ _ _ _ _ _ _ _ _ _ _ _ _ _ _ _ _ _ _ _ _ _ _ _ _ _ _ _ _ _ _ _ _ _ _ _ _ _ _ _ _ _ _ _ _ _ _ _ hst h64 h32 (by omega) hseq (by omega) (fun v61 v62 v63 v64 v65 v66 v67 v68 v69 v70 v71 v72 s1 v1 l1 V1 hst1 h641 h321 hl1 hs1 hq1 => ?_)
  clear hst h64 h32
  obtain ⟨A5, c5, rfl, hc5, _⟩ := hst1.1.rd
  have Hst := Lib.hid hst1
  have H64 := Lib.hid h641
  have H32 := Lib.hid h321
  have q3 := hst1.2.2.2.1
  have HQ1 := Lib.hid (show s1 = 1 + withinI seq 2147483647 ∨ s1 = seq by rw [HS0.out]; exact hq1)
  clear hst1 h641 h321 hq1
  by_cases h0 : l1.length = 0
  · have FE := Lib.hid (FdS.put_end Hst.out)
    obtain ⟨_, _, q2, _, q4, q5, q6, q7⟩ := Hst.out
    have q8 := q7 0
    have q9 := q7 1
    rw [h0] at q3 FE
    go_wp2_with fail
    refine bodyPost_ret (v := .agg #[.int .i64 s1, .slice A5 0 c5]) (by simp [results, Tryd.results8, go_sem, FE.out.1, FE.out.2.1]) rfl ⟨_, _, _, _, by rw [h0], hs1, HQ1.out, H64.out, hl1, by rw [h0]; exact FE.out.2.2.1, FE.out.2.2.2⟩
  · obtain ⟨k, hk⟩ : ∃ k, l1.length = k + 1 := ⟨l1.length - 1, by omega⟩
    have kk : IntKind.i64.wrap ((l1.length : Int) - 1) = ((k : Nat) : Int) := by rw [IntKind.wrap_i64]; omega
    have kp : (0 : Int) ≤ ((k : Nat) : Int) := by omega
    go_upto_if 78 with fail
    refine ofT _ _ _ _ _ _ _ _ _ _ _ _ _ _ _ _ _ _ _ _ _ _ _ _ _ _ _ _ _ _ _ _ _ _ _ _ _ _ _ _ _ _ _ _ _ _ _ _ _ _ _ _ _ _ _ _ _ _ _ _ _ _ _ _ _ _ _ _ _ _ _ _ _ _ _ _ _ _ _ _ _ _ _ _ _ _ _ _ _ _ _ _ _ _ _ _ _ _ _ _ _ _ _ _ _ _ _ _ _ _ _ Hst.out H64.out H32.out hs1 hseq hl1 (by omega) hhow (fun v79 v80 v81 v82 v83 v84 v85 v86 v87 v88 v89 v90 v91 v92 v93 v94 v95 v96 v97 v98 v99 v100 v101 v102 v103 v104 v105 v106 v107 v108 v109 v110 v111 v112 v113 v114 v115 s2 v2 l2 V2 hst2 h642 hl2 hs2 hq2 => ?_)
    obtain ⟨A6, c6, rfl, hc6, _⟩ := hst2.1.rd
    have HQ2 := Lib.hid (show s2 = 1 + withinI seq 2147483647 ∨ s2 = seq from hq2.elim (fun e => by rw [e]; exact HQ1.out) .inr)
    clear hq2
    have FE := Lib.hid (FdS.put_end hst2)
    obtain ⟨_, _, q2, q3', q4, q5, q6, q7⟩ := hst2
    have q8 := q7 0
    have q9 := q7 1
    clear q3
    go_wp2_with fail
    refine bodyPost_ret (v := .agg #[.int .i64 s2, .slice A6 l2.length c6]) (by simp [results, Tryd.results8, go_sem, FE.out.1, FE.out.2.1]) rfl ⟨_, _, _, _, rfl, hs2, HQ2.out, h642, hl2, FE.out.2.2.1, FE.out.2.2.2⟩
theorem recOf_any (seq how : Int) (A : Option Addr) (zs : List Int) (cl : Nat) (w : World) (hseq : (-9223372036854775808 ≤ seq ∧ seq ≤ 9223372036854775807)) (hhow : (-9223372036854775808 ≤ how ∧ how ≤ 9223372036854775807)) (hz : RdZ w w.heap.size A zs) :
    Calls Tryd.prog 8 #[.int .i64 seq, .slice A zs.length cl, .int .i64 how] w fun e w' => ∃ (s : Int) (l : List It) (B : Option Addr) (c : Nat), e = .returned (.agg #[.int .i64 s, .slice B l.length c]) ∧ (-9223372036854775808 ≤ s ∧ s ≤ 9223372036854775807) ∧ Its64 l ∧ l.length ≤ 6 ∧ OwIt 43 w' w.heap.size w.heap.size (.slice B l.length c) l ∧ Below w.heap.size w w' := by
  refine (of_seq seq how A zs cl w hseq hhow hz).mono ?_
  rintro e w' ⟨s, l, B, c, he, h1, _, h2⟩
  exact ⟨s, l, B, c, he, h1, h2⟩
end Go.Proofs.YtkbhnbkjpnigkaaDoor
end
