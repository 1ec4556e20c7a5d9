/- PlaceTells walked. -/
import Derived.Test.YtclmgldlpjhepaaRefBack
import Derived.Test.YtclmgldlpjhepaaPlaceWakes
import Derived.Test.YtclmgldlpjhepaaPlayGood
import Derived.Test.YtclmgldlpjhepaaOrdSkip
set_option linter.unusedVariables false
set_option linter.unusedSimpArgs false
namespace Go.Proofs.Ytclmgldlpjhepaa
open Go.RowKit

theorem sameJ_eq (A A' : Option Addr) (ns : List Int) (c c' : Nat) (w : World) (hr : RdJ w w.heap.size A ns) (hr' : RdJ w w.heap.size A' ns) :
    Calls Try.prog 9 #[.slice A ns.length c, .slice A' ns.length c'] w fun e w' => e = .returned (.bool true) ∧ Below w.heap.size w w' := by
  have := sameJ_any A A' ns ns ns.length ns.length c c' w rfl rfl hr hr'
  rwa [decide_eq_true rfl] at this
theorem gs_set {w0 W : World} {B b : Nat} {l d c : Int} (h : GS w0 B b l d c W) (h1 : B ≤ b) (L D C : Int) :
    GS w0 B b L D C (((W.setCell ⟨b, 0, none⟩ (.int .i64 L)).setCell ⟨b, 1, none⟩ (.int .i64 D)).setCell ⟨b, 2, none⟩ (.int .i64 C)) := by
  obtain ⟨g1, g2, g3, F⟩ := h
  refine ⟨?_, ?_, ?_, ((F.setCell (by exact h1) _).setCell (by exact h1) _).setCell (by exact h1) _⟩ <;> simp [go_sem, g1, g2, g3]
/-- A box of some geometry, and four numbers. -/
def TP (w : World) (v2 v3 v4 v5 : Value) (W : World) : Prop := ∃ l d c r k i n : Int, (-9223372036854775808 ≤ l ∧ l ≤ 9223372036854775807) ∧ (-9223372036854775808 ≤ d ∧ d ≤ 9223372036854775807) ∧ (-9223372036854775808 ≤ c ∧ c ≤ 9223372036854775807) ∧ (-9223372036854775808 ≤ r ∧ r ≤ 9223372036854775807) ∧ (-9223372036854775808 ≤ k ∧ k ≤ 9223372036854775807) ∧ (-9223372036854775808 ≤ i ∧ i ≤ 9223372036854775807) ∧ (-9223372036854775808 ≤ n ∧ n ≤ 9223372036854775807) ∧ v2 = .int .i64 r ∧ v3 = .int .i64 k ∧ v4 = .int .i64 i ∧ v5 = .int .i64 n ∧ GS w w.heap.size w.heap.size l d c W
set_option maxRecDepth 100000 in
set_option maxHeartbeats 3200000 in
theorem placetells (l d c m r k i n : Int) (rw : Bool) (w : World) (hl : (-9223372036854775808 ≤ l ∧ l ≤ 9223372036854775807)) (hd : (-9223372036854775808 ≤ d ∧ d ≤ 9223372036854775807)) (hc : (-9223372036854775808 ≤ c ∧ c ≤ 9223372036854775807)) (hm : (-9223372036854775808 ≤ m ∧ m ≤ 9223372036854775807)) (hr : (-9223372036854775808 ≤ r ∧ r ≤ 9223372036854775807)) (hk : (-9223372036854775808 ≤ k ∧ k ≤ 9223372036854775807)) (hi : (-9223372036854775808 ≤ i ∧ i ≤ 9223372036854775807)) (hn : (-9223372036854775808 ≤ n ∧ n ≤ 9223372036854775807)) :
    Calls Try.prog 5 #[.agg #[.int .i64 l, .int .i64 d, .int .i64 c], .int .i64 m, .int .i64 r, .int .i64 k, .int .i64 i, .int .i64 n, .bool rw] w fun e w' => e = .returned (.bool true) ∧ Below w.heap.size w w' := by
  have G := gat_new w l d c 23 (0, 0)
  have S0 : GS w w.heap.size w.heap.size l d c (w.alloc (.cells #[.int .i64 l, .int .i64 d, .int .i64 c] 23)) := ⟨G.1, G.2.1, G.2.2, below1 w _⟩
  clear G
  go_enter Try.func5, Try.ntmps5
  go_upto_if 30 with fail
  go_cut [2, 3, 4, 5] (fun v2 v3 v4 v5 W => TP w v2 v3 v4 v5 W)
  case first =>
    cases rw
    · have HM := Lib.hid (fun W => playGeom_any m W hm)
      have Hb := Lib.hid (pg_bd m)
      generalize pgL m = L at HM Hb
      generalize pgD m = D at HM Hb
      generalize pgC m = C at HM Hb
      have W1 := Lib.hid (fun W => within_any r 18 W hr (by omega))
      have W2 := Lib.hid (fun W => within_any k 9 W hk (by omega))
      have W3 := Lib.hid (fun W => within_any i 10 W hi (by omega))
      have W4 := Lib.hid (fun W => within_any n 130 W hn (by omega))
      have b1 := withinI_bd r 18 (by omega)
      have b2 := withinI_bd k 9 (by omega)
      have b3 := withinI_bd i 10 (by omega)
      have b4 := withinI_bd n 130 (by omega)
      generalize withinI r 18 = x1 at W1 b1
      generalize withinI k 9 = x2 at W2 b2
      generalize withinI i 10 = x3 at W3 b3
      generalize withinI n 130 = x4 at W4 b4
      go_wp2_with fail
      (with_reducible refine (HM.out _).mono ?_); rintro e w1 ⟨rfl, hb⟩
      have S1 := S0.later hb
      obtain ⟨hc1, hf1⟩ := bcells hb
      have hz1 : w.heap.size < w1.heap.size := by have := hb.size; simp at this; omega
      clear hb S0
      have T := gs_set S1 (Nat.le_refl _) L D C
      obtain ⟨g1, g2, g3, F⟩ := S1
      go_wp2_with fail
      (with_reducible refine (W1.out _).mono ?_); rintro e w2 ⟨rfl, rfl⟩
      go_wp2_with fail
      (with_reducible refine (W2.out _).mono ?_); rintro e w2 ⟨rfl, rfl⟩
      go_wp2_with fail
      (with_reducible refine (W3.out _).mono ?_); rintro e w2 ⟨rfl, rfl⟩
      go_wp2_with fail
      (with_reducible refine (W4.out _).mono ?_); rintro e w2 ⟨rfl, rfl⟩
      go_wp2_with fail
      go_meet
      have hB := Hb.out
      exact ⟨L, D, C, x1 - 1, x2 - 1, x3 - 1, x4 - 1, by omega, by omega, by omega, by omega, by omega, by omega, by omega, rfl, rfl, rfl, rfl, T⟩
    · go_wp2_with fail
      go_meet
      exact ⟨l, d, c, r, k, i, n, hl, hd, hc, hr, hk, hi, hn, rfl, rfl, rfl, rfl, S0⟩
  case rest =>
    clear S0 hl hd hc hm hr hk hi hn
    obtain ⟨l, d, c, r, k, i, n, hl, hd, hc, hr, hk, hi, hn, rfl, rfl, rfl, rfl, S1⟩ := hcut
    have C1 := Lib.hid (fun W => parity_any l d c r W hl hd hc hr)
    have C2 := Lib.hid (fun W => refParity_any l d c r W hl hd hc hr)
    have C3 := Lib.hid (fun W => disk_any l d c r k W hl hd hc hr hk)
    have C4 := Lib.hid (fun W => refDisk_any l d c r k W hl hd hc hr hk)
    have C5 := Lib.hid (fun W => numbers_any l d c r W hl hd hc hr)
    have C6 := Lib.hid (fun W => refNumbers_any l d c r W hl hd hc hr)
    have C7 := Lib.hid (fun W => of_any l d c n W hl hd hc hn)
    have C8 := Lib.hid (fun W => refOf_any l d c n W hl hd hc hn)
    have C9 := Lib.hid (fun W => back_any l d c i r W hl hd hc hi hr)
    have C10 := Lib.hid (fun W => refBack_any l d c i r W hl hd hc hi hr)
    have C11 := Lib.hid (fun W => wakesPlace_any W)
    clear hl hd hc hr hk hi hn
    generalize plP l d c r = p at C1 C2
    generalize plQ l d c r = q at C1 C2
    generalize plD l d c r k = dk at C3 C4
    generalize plNums l d c r = ns at C5 C6
    generalize plOfD l d c n = od at C7 C8
    generalize plOfR l d c n = or at C7 C8
    generalize plOfOk l d c n = ok at C7 C8
    generalize plBk l d c i r = bk at C9 C10
    generalize plBn l d c i r = bn at C9 C10
    generalize plBOk l d c i r = bo at C9 C10
    obtain ⟨g1, g2, g3, F⟩ := S1
    go_wp2_with fail
    (with_reducible refine (C1.out _).mono ?_); rintro e w3 ⟨rfl, hb⟩
    have S3 := GS.later ⟨g1, g2, g3, F⟩ hb
    clear hb g1 g2 g3 F
    obtain ⟨g1, g2, g3, F⟩ := S3
    go_wp2_with fail
    (with_reducible refine (C2.out _).mono ?_); rintro e wz ⟨rfl, hb⟩
    have S3 := GS.later ⟨g1, g2, g3, F⟩ hb
    clear hb g1 g2 g3 F
    obtain ⟨g1, g2, g3, F⟩ := S3
    go_wp2_with fail
    have S4 : GS w w.heap.size w.heap.size l d c wz := ⟨g1, g2, g3, F⟩
    clear g1 g2 g3 F
    refine wp_region_noPanic (region_ord 29 [] (fun V => GS w w.heap.size w.heap.size l d c V) (by kernel_rfl) (by kernel_rfl) (fun _ _ _ _ _ h => h) fun R => ?_)
    change anyI _ _ _ _ _ _ 29 _ _ wz.drew
    have HS0 := Lib.hid (show (fun V => GS w w.heap.size w.heap.size l d c V) wz.drew from GS.drew S4)
    refine' anyI_take R 0 rfl (v := ?_) (by kernel_rfl) (by rfl) (fun V hV => ?hy) HS0.out ?_
    case hy => ((try dsimp only at hV);  obtain ⟨q1, q2, q3, _⟩ := hV; go_simp; try with_reducible rfl)
    try simp only [Act.put, List.getElem_toArray, List.getElem_cons_succ, List.getElem_cons_zero, List.setIfInBounds_toArray, List.set_cons_zero, List.set_cons_succ]
    refine' anyI_take R 1 rfl (v := ?_) (by kernel_rfl) (by rfl) (fun V hV => ?hy) HS0.out ?_
    case hy => ((try dsimp only at hV);  obtain ⟨q1, q2, q3, _⟩ := hV; go_simp; try with_reducible rfl)
    try simp only [Act.put, List.getElem_toArray, List.getElem_cons_succ, List.getElem_cons_zero, List.setIfInBounds_toArray, List.set_cons_zero, List.set_cons_succ]
    refine' anyI_take R 2 rfl (v := ?_) (by kernel_rfl) (by rfl) (fun V hV => ?hy) HS0.out ?_
    case hy => ((try dsimp only at hV);  obtain ⟨q1, q2, q3, _⟩ := hV; go_simp; try with_reducible rfl)
    try simp only [Act.put, List.getElem_toArray, List.getElem_cons_succ, List.getElem_cons_zero, List.setIfInBounds_toArray, List.set_cons_zero, List.set_cons_succ]
    refine' anyI_take R 3 rfl (v := ?_) (by kernel_rfl) (by rfl) (fun V hV => ?hy) HS0.out ?_
    case hy => ((try dsimp only at hV);  obtain ⟨q1, q2, q3, _⟩ := hV; go_simp; try with_reducible rfl)
    try simp only [Act.put, List.getElem_toArray, List.getElem_cons_succ, List.getElem_cons_zero, List.setIfInBounds_toArray, List.set_cons_zero, List.set_cons_succ]
    refine' anyI_take R 4 rfl (v := ?_) (by kernel_rfl) (by rfl) (fun V hV => ?hy) HS0.out ?_
    case hy => ((try dsimp only at hV);  obtain ⟨q1, q2, q3, _⟩ := hV; go_simp; try with_reducible rfl)
    try simp only [Act.put, List.getElem_toArray, List.getElem_cons_succ, List.getElem_cons_zero, List.setIfInBounds_toArray, List.set_cons_zero, List.set_cons_succ]
    refine' anyI_take R 5 rfl (v := ?_) (by kernel_rfl) (by rfl) (fun V hV => ?hy) HS0.out ?_
    case hy => ((try dsimp only at hV);  obtain ⟨q1, q2, q3, _⟩ := hV; go_simp; try with_reducible rfl)
    try simp only [Act.put, List.getElem_toArray, List.getElem_cons_succ, List.getElem_cons_zero, List.setIfInBounds_toArray, List.set_cons_zero, List.set_cons_succ]
    refine' anyI_take R 6 rfl (v := ?_) (by kernel_rfl) (by rfl) (fun V hV => ?hy) HS0.out ?_
    case hy => ((try dsimp only at hV);  obtain ⟨q1, q2, q3, _⟩ := hV; go_simp; try with_reducible rfl)
    try simp only [Act.put, List.getElem_toArray, List.getElem_cons_succ, List.getElem_cons_zero, List.setIfInBounds_toArray, List.set_cons_zero, List.set_cons_succ]
    refine' anyI_take R 7 rfl (v := ?_) (by kernel_rfl) (by rfl) (fun V hV => ?hy) HS0.out ?_
    case hy => ((try dsimp only at hV);  obtain ⟨q1, q2, q3, _⟩ := hV; go_simp; try with_reducible rfl)
    try simp only [Act.put, List.getElem_toArray, List.getElem_cons_succ, List.getElem_cons_zero, List.setIfInBounds_toArray, List.set_cons_zero, List.set_cons_succ]
    refine' anyI_take R 8 rfl (v := ?_) (by kernel_rfl) (by rfl) (fun V hV => ?hy) HS0.out ?_
    case hy => ((try dsimp only at hV);  obtain ⟨q1, q2, q3, _⟩ := hV; go_simp; try with_reducible rfl)
    try simp only [Act.put, List.getElem_toArray, List.getElem_cons_succ, List.getElem_cons_zero, List.setIfInBounds_toArray, List.set_cons_zero, List.set_cons_succ]
    refine' anyI_take R 9 rfl (v := ?_) (by kernel_rfl) (by rfl) (fun V hV => ?hy) HS0.out ?_
    case hy => ((try dsimp only at hV);  obtain ⟨q1, q2, q3, _⟩ := hV; go_simp; try with_reducible rfl)
    try simp only [Act.put, List.getElem_toArray, List.getElem_cons_succ, List.getElem_cons_zero, List.setIfInBounds_toArray, List.set_cons_zero, List.set_cons_succ]
    refine' anyI_take R 10 rfl (v := ?_) (by kernel_rfl) (by rfl) (fun V hV => ?hy) HS0.out ?_
    case hy => ((try dsimp only at hV);  obtain ⟨q1, q2, q3, _⟩ := hV; go_simp; try with_reducible rfl)
    try simp only [Act.put, List.getElem_toArray, List.getElem_cons_succ, List.getElem_cons_zero, List.setIfInBounds_toArray, List.set_cons_zero, List.set_cons_succ]
    refine' anyI_take R 11 rfl (v := ?_) (by kernel_rfl) (by rfl) (fun V hV => ?hy) HS0.out ?_
    case hy => ((try dsimp only at hV);  obtain ⟨q1, q2, q3, _⟩ := hV; go_simp; try with_reducible rfl)
    try simp only [Act.put, List.getElem_toArray, List.getElem_cons_succ, List.getElem_cons_zero, List.setIfInBounds_toArray, List.set_cons_zero, List.set_cons_succ]
    refine' anyI_take R 13 rfl (v := ?_) (by kernel_rfl) (by rfl) (fun V hV => ?hy) HS0.out ?_
    case hy => ((try dsimp only at hV);  obtain ⟨q1, q2, q3, _⟩ := hV; go_simp; try with_reducible rfl)
    try simp only [Act.put, List.getElem_toArray, List.getElem_cons_succ, List.getElem_cons_zero, List.setIfInBounds_toArray, List.set_cons_zero, List.set_cons_succ]
    refine' anyI_take R 14 rfl (v := ?_) (by kernel_rfl) (by rfl) (fun V hV => ?hy) HS0.out ?_
    case hy => ((try dsimp only at hV);  obtain ⟨q1, q2, q3, _⟩ := hV; go_simp; try with_reducible rfl)
    try simp only [Act.put, List.getElem_toArray, List.getElem_cons_succ, List.getElem_cons_zero, List.setIfInBounds_toArray, List.set_cons_zero, List.set_cons_succ]
    refine' anyI_take R 15 rfl (v := ?_) (by kernel_rfl) (by rfl) (fun V hV => ?hy) HS0.out ?_
    case hy => ((try dsimp only at hV);  obtain ⟨q1, q2, q3, _⟩ := hV; go_simp; try with_reducible rfl)
    try simp only [Act.put, List.getElem_toArray, List.getElem_cons_succ, List.getElem_cons_zero, List.setIfInBounds_toArray, List.set_cons_zero, List.set_cons_succ]
    refine anyI_one 12 (by kernel_rfl) rfl ?_
    try simp only [List.getElem_toArray, List.getElem_cons_succ, List.getElem_cons_zero]
    refine opE_step ?_
    rw [if_pos (by rfl)]
    go_simp
    go_at_call 12
    refine (C3.out _).mono ?_
    rintro e w12 ⟨rfl, hb⟩
    replace HS0 := Lib.hid (GS.later HS0.out hb)
    clear hb
    dsimp only
    refine ⟨HS0.out, ?_⟩
    try simp only [Act.put, List.getElem_toArray, List.getElem_cons_succ, List.getElem_cons_zero, List.setIfInBounds_toArray, List.set_cons_zero, List.set_cons_succ]
    refine anyI_one 16 (by kernel_rfl) rfl ?_
    try simp only [List.getElem_toArray, List.getElem_cons_succ, List.getElem_cons_zero]
    refine opE_step ?_
    rw [if_pos (by rfl)]
    go_simp
    go_at_call 19
    refine (C4.out _).mono ?_
    rintro e w16 ⟨rfl, hb⟩
    replace HS0 := Lib.hid (GS.later HS0.out hb)
    clear hb
    dsimp only
    refine ⟨HS0.out, ?_⟩
    try simp only [Act.put, List.getElem_toArray, List.getElem_cons_succ, List.getElem_cons_zero, List.setIfInBounds_toArray, List.set_cons_zero, List.set_cons_succ]
    refine' anyI_take R 17 rfl (v := ?_) (by kernel_rfl) (by rfl) (fun V hV => ?hy) HS0.out ?_
    case hy => ((try dsimp only at hV);  obtain ⟨q1, q2, q3, _⟩ := hV; go_simp; try with_reducible rfl)
    try simp only [Act.put, List.getElem_toArray, List.getElem_cons_succ, List.getElem_cons_zero, List.setIfInBounds_toArray, List.set_cons_zero, List.set_cons_succ]
    refine' anyI_take R 18 rfl (v := ?_) (by kernel_rfl) (by rfl) (fun V hV => ?hy) HS0.out ?_
    case hy => ((try dsimp only at hV);  obtain ⟨q1, q2, q3, _⟩ := hV; go_simp; try with_reducible rfl)
    try simp only [Act.put, List.getElem_toArray, List.getElem_cons_succ, List.getElem_cons_zero, List.setIfInBounds_toArray, List.set_cons_zero, List.set_cons_succ]
    refine' anyI_take R 19 rfl (v := ?_) (by kernel_rfl) (by rfl) (fun V hV => ?hy) HS0.out ?_
    case hy => ((try dsimp only at hV);  obtain ⟨q1, q2, q3, _⟩ := hV; go_simp; try with_reducible rfl)
    try simp only [Act.put, List.getElem_toArray, List.getElem_cons_succ, List.getElem_cons_zero, List.setIfInBounds_toArray, List.set_cons_zero, List.set_cons_succ]
    refine' anyI_take R 20 rfl (v := ?_) (by kernel_rfl) (by rfl) (fun V hV => ?hy) HS0.out ?_
    case hy => ((try dsimp only at hV);  obtain ⟨q1, q2, q3, _⟩ := hV; go_simp; try with_reducible rfl)
    try simp only [Act.put, List.getElem_toArray, List.getElem_cons_succ, List.getElem_cons_zero, List.setIfInBounds_toArray, List.set_cons_zero, List.set_cons_succ]
    refine' anyI_take R 21 rfl (v := ?_) (by kernel_rfl) (by rfl) (fun V hV => ?hy) HS0.out ?_
    case hy => ((try dsimp only at hV);  obtain ⟨q1, q2, q3, _⟩ := hV; go_simp; try with_reducible rfl)
    try simp only [Act.put, List.getElem_toArray, List.getElem_cons_succ, List.getElem_cons_zero, List.setIfInBounds_toArray, List.set_cons_zero, List.set_cons_succ]
    refine' anyI_take R 23 rfl (v := ?_) (by kernel_rfl) (by rfl) (fun V hV => ?hy) HS0.out ?_
    case hy => ((try dsimp only at hV);  obtain ⟨q1, q2, q3, _⟩ := hV; go_simp; try with_reducible rfl)
    try simp only [Act.put, List.getElem_toArray, List.getElem_cons_succ, List.getElem_cons_zero, List.setIfInBounds_toArray, List.set_cons_zero, List.set_cons_succ]
    refine' anyI_take R 24 rfl (v := ?_) (by kernel_rfl) (by rfl) (fun V hV => ?hy) HS0.out ?_
    case hy => ((try dsimp only at hV);  obtain ⟨q1, q2, q3, _⟩ := hV; go_simp; try with_reducible rfl)
    try simp only [Act.put, List.getElem_toArray, List.getElem_cons_succ, List.getElem_cons_zero, List.setIfInBounds_toArray, List.set_cons_zero, List.set_cons_succ]
    refine anyI_one 22 (by kernel_rfl) rfl ?_
    try simp only [List.getElem_toArray, List.getElem_cons_succ, List.getElem_cons_zero]
    refine opE_step ?_
    rw [if_pos (by rfl)]
    go_simp
    go_at_call 10
    refine (C5.out _).mono ?_
    rintro e w22 ⟨A1, cp1, rfl, hr1, hb⟩
    replace HS0 := Lib.hid (GS.later HS0.out hb)
    clear hb
    dsimp only
    refine ⟨HS0.out, ?_⟩
    try simp only [Act.put, List.getElem_toArray, List.getElem_cons_succ, List.getElem_cons_zero, List.setIfInBounds_toArray, List.set_cons_zero, List.set_cons_succ]
    refine anyI_one 25 (by kernel_rfl) rfl ?_
    try simp only [List.getElem_toArray, List.getElem_cons_succ, List.getElem_cons_zero]
    refine opE_step ?_
    rw [if_pos (by rfl)]
    go_simp
    go_at_call 20
    refine (C6.out _).mono ?_
    rintro e w25 ⟨A2, cp2, rfl, hr2, hb⟩
    replace HS0 := Lib.hid (GS.later HS0.out hb)
    have hr3 := (hr1.below hb (Nat.le_refl _)).more hb.size
    clear hb hr1
    dsimp only
    refine ⟨HS0.out, ?_⟩
    try simp only [Act.put, List.getElem_toArray, List.getElem_cons_succ, List.getElem_cons_zero, List.setIfInBounds_toArray, List.set_cons_zero, List.set_cons_succ]
    refine anyI_one 26 (by kernel_rfl) rfl ?_
    try simp only [List.getElem_toArray, List.getElem_cons_succ, List.getElem_cons_zero]
    refine opE_step ?_
    rw [if_pos (by rfl)]
    go_simp
    go_at_call 9
    refine (sameJ_eq A1 A2 ns cp1 cp2 _ hr3 hr2).mono ?_
    rintro e w26 ⟨rfl, hb⟩
    replace HS0 := Lib.hid (GS.later HS0.out hb)
    clear hb hr2 hr3
    dsimp only
    refine ⟨HS0.out, ?_⟩
    try simp only [Act.put, List.getElem_toArray, List.getElem_cons_succ, List.getElem_cons_zero, List.setIfInBounds_toArray, List.set_cons_zero, List.set_cons_succ]
    refine' anyI_take R 27 rfl (v := ?_) (by kernel_rfl) (by rfl) (fun V hV => ?hy) HS0.out ?_
    case hy => ((try dsimp only at hV);  obtain ⟨q1, q2, q3, _⟩ := hV; go_simp; try with_reducible rfl)
    try simp only [Act.put, List.getElem_toArray, List.getElem_cons_succ, List.getElem_cons_zero, List.setIfInBounds_toArray, List.set_cons_zero, List.set_cons_succ]
    refine' anyI_take R 28 rfl (v := ?_) (by kernel_rfl) (by rfl) (fun V hV => ?hy) HS0.out ?_
    case hy => ((try dsimp only at hV);  obtain ⟨q1, q2, q3, _⟩ := hV; go_simp; try with_reducible rfl)
    try simp only [Act.put, List.getElem_toArray, List.getElem_cons_succ, List.getElem_cons_zero, List.setIfInBounds_toArray, List.set_cons_zero, List.set_cons_succ]
    refine anyI_tail (by kernel_rfl) ?_
    try simp only [List.drop_succ_cons, List.drop_zero]
    clear R
    go_wp2_with fail
    refine NoPanic.normal ?_
    obtain ⟨g1, g2, g3, F⟩ := HS0.out
    clear HS0 S4
    go_wp2_with fail
    (with_reducible refine (C7.out _).mono ?_); rintro e w30 ⟨rfl, hb⟩
    have S3 := GS.later ⟨g1, g2, g3, F⟩ hb
    clear hb g1 g2 g3 F
    obtain ⟨g1, g2, g3, F⟩ := S3
    go_wp2_with fail
    (with_reducible refine (C8.out _).mono ?_); rintro e w31 ⟨rfl, hb⟩
    have S3 := GS.later ⟨g1, g2, g3, F⟩ hb
    clear hb g1 g2 g3 F
    obtain ⟨g1, g2, g3, F⟩ := S3
    go_wp2_with fail
    (with_reducible refine (C9.out _).mono ?_); rintro e w32 ⟨rfl, hb⟩
    have S3 := GS.later ⟨g1, g2, g3, F⟩ hb
    clear hb g1 g2 g3 F
    obtain ⟨g1, g2, g3, F⟩ := S3
    go_wp2_with fail
    (with_reducible refine (C10.out _).mono ?_); rintro e w33 ⟨rfl, hb⟩
    have S3 := GS.later ⟨g1, g2, g3, F⟩ hb
    clear hb g1 g2 g3 F
    obtain ⟨g1, g2, g3, F⟩ := S3
    go_wp2_with fail
    (with_reducible refine (C11.out _).mono ?_); rintro e w34 ⟨rfl, hb⟩
    have S3 := GS.later ⟨g1, g2, g3, F⟩ hb
    clear hb g1 g2 g3 F
    go_wp2_with fail
    go_ret
    exact ⟨rfl, S3.2.2.2⟩
end Go.Proofs.Ytclmgldlpjhepaa
