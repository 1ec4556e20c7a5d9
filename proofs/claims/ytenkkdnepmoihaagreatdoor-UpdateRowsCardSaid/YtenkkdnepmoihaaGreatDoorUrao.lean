/- Texts put together: GeoCap, PlaceOf, PlaceNums, StpOne, Kx, StpKeep, OnGood. -/
import Derived.Test.YtenkkdnepmoihaaGreatDoorUrae
import Derived.Test.YtenkkdnepmoihaaGreatDoorUraf
import Derived.Test.YtenkkdnepmoihaaGreatDoorUram
import Derived.Test.YtenkkdnepmoihaaGreatDoorUran
import Derived.Test.YtenkkdnepmoihaaGreatDoorUrag
import Derived.Test.YtenkkdnepmoihaaGreatDoorUral
section
namespace Go.Proofs.YtenkkdnepmoihaaGreatDoor
open Go.RowKit

theorem capacity_any (l d c : Int) (w : World) (hl : -9223372036854775808 ≤ l ∧ l ≤ 9223372036854775807) (hd : -9223372036854775808 ≤ d ∧ d ≤ 9223372036854775807) (hc : -9223372036854775808 ≤ c ∧ c ≤ 9223372036854775807) :
    Calls Tryz.prog 79 #[.agg #[.int .i64 l, .int .i64 d, .int .i64 c]] w fun e w' => e = .returned (.int .i64 (gCap l d c)) ∧ Below w.heap.size w w' := by
  have hB := gWid_bd l d c
  have HC : Hid (gCap l d c = gWid l d c * 16) := rfl
  go_enter Tryz.func79, Tryz.ntmps79
  go_wp2_with fail
  (with_reducible refine (width_any l d c _ hl hd hc).mono ?_); rintro e w1 ⟨rfl, hb⟩
  have F := (below1 w _).trans (hb.mono (by simp))
  clear hb
  generalize gWid l d c = wd at hB HC
  go_wp2_with fail
  go_ret
  exact ⟨by rw [HC.out]; rfl, F⟩
end Go.Proofs.YtenkkdnepmoihaaGreatDoor
end
section
set_option linter.unusedVariables false
set_option linter.unusedSimpArgs false
namespace Go.Proofs.YtenkkdnepmoihaaGreatDoor
open Go.RowKit

theorem of_any (l d c n : Int) (w : World) (hl : (-9223372036854775808 ≤ l ∧ l ≤ 9223372036854775807)) (hd : (-9223372036854775808 ≤ d ∧ d ≤ 9223372036854775807)) (hc : (-9223372036854775808 ≤ c ∧ c ≤ 9223372036854775807)) (hn : (-9223372036854775808 ≤ n ∧ n ≤ 9223372036854775807)) :
    Calls Tryz.prog 48 #[.agg #[.int .i64 l, .int .i64 d, .int .i64 c], .int .i64 n] w fun e w' => e = .returned (.tuple #[.int .i64 (plOfD l d c n), .int .i64 (plOfR l d c n), .bool (plOfOk l d c n)]) ∧ Below w.heap.size w w' := by
  have G := gat_new w l d c 24 (0, 0)
  have HD : Hid (∀ b, plOfOk l d c n = b → plOfD l d c n = if b = true then plD l d c (plRow l d c n) (n / c % (d - (l - 4))) else 0) := Lib.hid (fun b h => by subst h; rfl)
  have HR : Hid (∀ b, plOfOk l d c n = b → plOfR l d c n = if b = true then plRow l d c n else 0) := Lib.hid (fun b h => by subst h; rfl)
  have HC := Lib.hid (fun W => capacity_any l d c W hl hd hc)
  have hb7 := gCap_bd l d c
  by_cases h0 : n < 0
  · have H := Lib.hid (plOfOk_no (l := l) (d := d) (c := c) (n := n) (by omega))
    have H1 := Lib.hid ((HD.out false H.out).trans (if_neg (by decide)))
    have H2 := Lib.hid ((HR.out false H.out).trans (if_neg (by decide)))
    have e0 : decide (n < 0) = true := decide_eq_true h0
    go_enter Tryz.func48, Tryz.ntmps48
    go_wp2_with fail
    go_ret3
    exact ⟨by rw [H.out, H1.out, H2.out]; rfl, below1 _ _⟩
  · have e0 : decide (n < 0) = false := decide_eq_false h0
    by_cases h1 : gCap l d c ≤ n
    · have H := Lib.hid (plOfOk_no (l := l) (d := d) (c := c) (n := n) (by omega))
      have H1 := Lib.hid ((HD.out false H.out).trans (if_neg (by decide)))
      have H2 := Lib.hid ((HR.out false H.out).trans (if_neg (by decide)))
      clear HD HR
      generalize gCap l d c = cp at HC h1 hb7
      have e1 : decide (cp ≤ n) = true := decide_eq_true h1
      go_enter Tryz.func48, Tryz.ntmps48
      go_wp2_with fail
      (with_reducible refine (HC.out _).mono ?_); rintro e w1 ⟨rfl, hb⟩
      have F := (below1 w _).trans (hb.mono (by simp))
      clear hb
      go_wp2_with fail
      go_ret3
      exact ⟨by rw [H.out, H1.out, H2.out]; rfl, F⟩
    · have hok : plOfOk l d c n = true := decide_eq_true (by omega)
      have H := Lib.hid hok
      have hg := plOfOk_ok hok
      have hb6 := gOk_bd hg
      have hcp := gCap_yes hg
      have hgw := gWid_yes hg
      have H1 := Lib.hid ((HD.out true hok).trans (if_pos rfl))
      have H2 := Lib.hid ((HR.out true hok).trans (if_pos rfl))
      have HW := Lib.hid (fun W => width_any l d c W hl hd hc)
      have hw := gWid_bd l d c
      rw [← hgw] at H1
      have H3 : Hid (plRow l d c n = n / c / gWid l d c * c + n % c) := by rw [hgw]; rfl
      generalize plRow l d c n = row at H1 H2 H3
      have hcw : gCap l d c = gWid l d c * 16 := rfl
      generalize gWid l d c = wd at HW hw H1 H3 hgw hcw
      rw [hcw] at HC h1 hb7
      have hch := quo_bd 112 (show 0 ≤ n by omega) (show n < 112 by omega) (show 1 ≤ c by omega)
      have e1 : decide (wd * 16 ≤ n) = false := decide_eq_false h1
      generalize hqq : n / c = ch at H1 H3 hch
      have hst := quo_bd 112 hch.1 hch.2 (show 1 ≤ wd by omega)
      have hk := rem_bd ch (show 1 ≤ wd by omega)
      have hm := rem_bd n (show 1 ≤ c by omega)
      have t1 : n.tdiv c = ch := by rw [Int.tdiv_eq_ediv_of_nonneg (by omega)]; exact hqq
      have hx : 0 ≤ ch / wd * c ∧ ch / wd * c ≤ 112 * 4 := ⟨Int.mul_nonneg hst.1 (by omega), Int.mul_le_mul (by omega) (by omega) (by omega) (by omega)⟩
      have hrow : 0 ≤ row ∧ row ≤ 1000 := by rw [H3.out]; omega
      have HK := Lib.hid (fun W => disk_any l d c row (ch % wd) W hl hd hc (by omega) (by omega))
      have n1 : ¬ c = 0 := by omega
      have n2 : ¬ wd = 0 := by omega
      have i0 : 0 ≤ n := by omega
      have z0 : IntKind.i64.wrap ch = ch := IntWalk.i64_in _ (by omega)
      clear hqq HD HR hok hg hcp h0 h1 hgw hcw
      go_enter Tryz.func48, Tryz.ntmps48
      go_wp2_with fail
      (with_reducible refine (HC.out _).mono ?_); rintro e w1 ⟨rfl, hb⟩
      have S1 := GS.later (w0 := w) (B := w.heap.size) ⟨G.1, G.2.1, G.2.2, below1 w _⟩ hb
      clear hb G
      obtain ⟨g1, g2, g3, F⟩ := S1
      go_wp2_with fail
      have S0 : GS w w.heap.size w.heap.size l d c w1 := ⟨g1, g2, g3, F⟩
      clear g1 g2 g3 F
      go_region_held3 (GS w w.heap.size w.heap.size l d c)
        (first | assumption | exact GS.drew ‹_›)
        ((go_at_call 80; (with_reducible refine (HW.out _).mono ?_); rintro e w2 ⟨rfl, hb⟩; have S2 := (GS.drew S0).later hb))
      obtain ⟨g1, g2, g3, F⟩ := S2
      clear S0 hb
      go_wp2_with fail
      go_quiet (fail)
      go_wp2_with fail
      rw [← H3.out]
      have S0 : GS w w.heap.size w.heap.size l d c (w2.drewN nq) := ⟨g1, g2, g3, F.trans (belowN _ _ _)⟩
      have t2 : ch.tmod wd = ch % wd := Int.tmod_eq_emod_of_nonneg hch.1
      clear g1 g2 g3 F
      generalize w2.drewN nq = w4 at S0 ⊢
      clear H3
      go_region_held3 (GS w w.heap.size w.heap.size l d c)
        (first | assumption | exact GS.drew ‹_›)
        ((go_at_call 81; (with_reducible refine (HK.out _).mono ?_); rintro e w3 ⟨rfl, hb⟩; have S3 := (GS.drew S0).later hb))
      go_wp2
      go_ret3
      exact ⟨by rw [H.out, H1.out, H2.out]; rfl, S3.2.2.2⟩
end Go.Proofs.YtenkkdnepmoihaaGreatDoor
end
section
set_option linter.unusedVariables false
set_option linter.unusedSimpArgs false
namespace Go.Proofs.YtenkkdnepmoihaaGreatDoor
open Go.RowKit

/-- The first k numbers are there, the others are zeros yet. -/
def plNumsTo (l d c r : Int) (n k : Nat) : List Int := (List.range k).map (fun j : Nat => plN l d c r (j : Int)) ++ List.replicate (n - k) 0
theorem plNumsTo_len (l d c r : Int) {n k : Nat} (h : k ≤ n) : (plNumsTo l d c r n k).length = n := by simp [plNumsTo]; omega
theorem plNumsTo_zero (l d c r : Int) (n : Nat) : plNumsTo l d c r n 0 = List.replicate n 0 := by simp [plNumsTo]
theorem plNumsTo_succ (l d c r : Int) {n k : Nat} (h : k < n) : (plNumsTo l d c r n k).set k (plN l d c r (k : Int)) = plNumsTo l d c r n (k + 1) := by
  unfold plNumsTo
  rw [List.set_append_right _ _ (by simp), show n - k = (n - (k + 1)) + 1 by omega, List.replicate_succ, List.length_map, List.length_range, Nat.sub_self, List.set_cons_zero, List.range_succ, List.map_append, List.append_assoc]
  rfl
theorem plNumsTo_all {l d c r : Int} {n : Nat} (h : plOk l d c r = true) (hn : gWid l d c = n) : plNumsTo l d c r n n = plNums l d c r := by
  have hg := (plOk_yes h).1
  rw [gWid_yes hg] at hn
  unfold plNums plNumsTo
  rw [if_pos h, hn]
  simp
theorem plNums_no {l d c r : Int} (h : plOk l d c r = false) : plNums l d c r = [] := if_neg (by rw [h]; decide)
theorem plNums_len {l d c r : Int} (h : plOk l d c r = true) : (plNums l d c r).length = (gWid l d c).toNat := by
  have hg := (plOk_yes h).1
  rw [gWid_yes hg]
  unfold plNums
  rw [if_pos h]
  simp
theorem plNums_get {l d c r : Int} (h : plOk l d c r = true) {k : Nat} (hk : (k : Int) < gWid l d c) : (plNums l d c r).getD k 0 = plN l d c r (k : Int) := by
  have hg := (plOk_yes h).1
  rw [gWid_yes hg] at hk
  unfold plNums
  rw [if_pos h]
  have : k < (d - (l - 4)).toNat := by omega
  simp [this]
theorem GS.set {w0 W : World} {B b : Nat} {l d c : Int} (h : GS w0 B b l d c W) {p : Addr} (hp : B ≤ p.block) (hne : p.block ≠ b) (u : Value) : GS w0 B b l d c (W.setCell p u) :=
  ⟨(World.cell?_setCell_far _ _ _ _ hne).trans h.1, (World.cell?_setCell_far _ _ _ _ hne).trans h.2.1, (World.cell?_setCell_far _ _ _ _ hne).trans h.2.2.1, h.2.2.2.setCell hp u⟩
set_option maxHeartbeats 800000 in
theorem numbers_own (l d c r : Int) (w : World) (HT : Hid (plOk l d c r = true)) (hl : (-9223372036854775808 ≤ l ∧ l ≤ 9223372036854775807)) (hd : (-9223372036854775808 ≤ d ∧ d ≤ 9223372036854775807)) (hc : (-9223372036854775808 ≤ c ∧ c ≤ 9223372036854775807)) (hr : (-9223372036854775808 ≤ r ∧ r ≤ 9223372036854775807)) :
    Calls Tryz.prog 51 #[.agg #[.int .i64 l, .int .i64 d, .int .i64 c], .int .i64 r] w fun e w' => ∃ v, e = .returned v ∧ OwJ w' w.heap.size v (plNums l d c r) ∧ Below w.heap.size w w' := by
  have G := gat_new w l d c 24 (0, 0)
  obtain ⟨hg, h0, h1⟩ := plOk_yes HT.out
  have HW := Lib.hid (fun W => width_any l d c W hl hd hc)
  have hw := gWid_bd l d c
  obtain ⟨n, hn⟩ : ∃ n : Nat, gWid l d c = n := ⟨(gWid l d c).toNat, by omega⟩
  have Hall := Lib.hid (plNumsTo_all HT.out hn)
  have HN : Hid (∀ (k : Nat) W, k < n → Calls Tryz.prog 84 #[.agg #[.int .i64 l, .int .i64 d, .int .i64 c], .int .i64 r, .int .i64 (k : Int)] W fun e w' => e = .returned (.int .i64 (plN l d c r (k : Int))) ∧ Below W.heap.size W w') :=
    Lib.hid (fun k W hk => number_any l d c r (k : Int) W HT (by omega) hl hd hc hr)
  rw [hn] at HW hw
  have hn8 : n ≤ 1000000 := by omega
  have km := make_ints n hn8
  clear hn hg
  go_enter Tryz.func51, Tryz.ntmps51
  go_wp2_with fail
  (with_reducible refine (there_yes l d c r _ HT hl hd hc hr).mono ?_); rintro e w1 ⟨rfl, hb⟩
  have S1 := GS.later (w0 := w) (B := w.heap.size) ⟨G.1, G.2.1, G.2.2, below1 w _⟩ hb
  clear hb G
  obtain ⟨g1, g2, g3, F⟩ := S1
  go_wp2_with fail
  (with_reducible refine (HW.out _).mono ?_); rintro e w2 ⟨rfl, hb⟩
  have S2 := GS.later (w0 := w) (B := w.heap.size) ⟨g1, g2, g3, F⟩ hb
  clear hb g1 g2 g3 F
  have own0 := ownJ_make w2 n hn8
  have S3 := S2.later (below1 w2 (.cells (madeCells #[.int .i64 0] n) 3))
  have z2 := S2.2.2.2.size
  have b2 := World.block_lt_of_cell? _ _ S2.1
  clear S2
  rw [← plNumsTo_zero l d c r n] at own0
  go_wp2_with fail
  generalize w2.heap.size = g at own0 S3 z2 b2 ⊢
  generalize w2.alloc (.cells (madeCells #[.int .i64 0] n) 3) = w3 at own0 S3 ⊢
  go_loopw [16] (fun i wr => ∃ k : Nat, k ≤ n ∧ i = .int .i64 k ∧ OwJ wr g (.slice (some ⟨g, 0, none⟩) n n) (plNumsTo l d c r n k) ∧ GS w w.heap.size w.heap.size l d c wr) (fun i _ => n - (intOf i).toNat)
  case atStart => exact ⟨0, Nat.zero_le _, rfl, own0, S3⟩
  case round =>
    obtain ⟨k, hk, rfl, hown, hS⟩ := hrel
    by_cases hlt : k < n
    · have i0 : (0 : Int) ≤ (k : Int) := by omega
      have i1 : (k : Int) < (n : Int) := by omega
      obtain ⟨g1, g2, g3, F⟩ := hS
      go_wp2_with fail
      (with_reducible refine (HN.out k _ hlt).mono ?_); rintro e w4 ⟨rfl, hb⟩
      have S4 := GS.later (w0 := w) (B := w.heap.size) ⟨g1, g2, g3, F⟩ hb
      have hown4 := hown.below hb
      obtain ⟨c4, f4⟩ := hown4.cellF (plNumsTo_len l d c r hk).symm k hlt
      have hown5 := hown4.set (plNumsTo_len l d c r hk).symm k (plN l d c r (k : Int))
      rw [plNumsTo_succ l d c r hlt] at hown5
      have S5 := S4.set (p := ⟨g, k, none⟩) (by show w.heap.size ≤ g; omega) (by show g ≠ w.heap.size; omega) (.int .i64 (plN l d c r (k : Int)))
      clear hb g1 g2 g3 F hown S4 hown4
      go_wp2
      go_roundw
      case rel => exact ⟨k + 1, by omega, by go_num, hown5, S5⟩
      case measure => simp [intOf]; omega
    · obtain rfl : k = n := by omega
      rw [Hall.out] at hown
      go_wp2
      go_ret
      exact ⟨_, rfl, hown.le (by omega), hS.2.2.2⟩
theorem numbers_any (l d c r : Int) (w : World) (hl : (-9223372036854775808 ≤ l ∧ l ≤ 9223372036854775807)) (hd : (-9223372036854775808 ≤ d ∧ d ≤ 9223372036854775807)) (hc : (-9223372036854775808 ≤ c ∧ c ≤ 9223372036854775807)) (hr : (-9223372036854775808 ≤ r ∧ r ≤ 9223372036854775807)) :
    Calls Tryz.prog 51 #[.agg #[.int .i64 l, .int .i64 d, .int .i64 c], .int .i64 r] w fun e w' => ∃ A cp, e = .returned (.slice A (plNums l d c r).length cp) ∧ RdJ w' w'.heap.size A (plNums l d c r) ∧ Below w.heap.size w w' := by
  cases hT : plOk l d c r
  · have H := Lib.hid (plNums_no hT)
    have HT := Lib.hid hT
    clear hT
    go_enter Tryz.func51, Tryz.ntmps51
    go_wp2_with fail
    (with_reducible refine (there_no l d c r _ HT hl hd hc hr).mono ?_); rintro e w1 ⟨rfl, hb⟩
    have F := (below1 w _).trans (hb.mono (by simp))
    clear hb
    go_wp2_with fail
    go_ret
    exact ⟨none, 0, by rw [H.out]; rfl, by rw [H.out]; exact RdJ.nil _ _ _, F⟩
  · refine (numbers_own l d c r w (Lib.hid hT) hl hd hc hr).mono ?_
    rintro e w' ⟨v, rfl, ho, hb⟩
    have hw := gWid_bd l d c
    obtain ⟨A, cp, rfl, hr⟩ := ho.rd (by rw [plNums_len hT]; omega)
    exact ⟨A, cp, rfl, hr, hb⟩
end Go.Proofs.YtenkkdnepmoihaaGreatDoor
end
section
set_option maxRecDepth 20000
set_option linter.unusedVariables false
set_option linter.unusedSimpArgs false
namespace Go.Proofs.YtenkkdnepmoihaaGreatDoor
open Go.RowKit

theorem solveB_len {N : Nat} {p q : List UInt8} {rs L : List (List UInt8)} (h : solveB N p q rs = some L) : L.length = rs.length := by
  unfold solveB at h
  split at h
  · injection h with h
    subst h
    rcases hm : missB rs with _ | ⟨i, _ | ⟨j, ms⟩⟩ <;> simp only [toldB, List.length_set, filledB_len]
  · cases h
theorem roTake_len {l d c r : Int} {xs L : List (List UInt8)} (h : roTake l d c r xs = some L) : L.length = roW l d := by
  unfold roTake at h
  split at h
  · rw [solveB_len h, dataL_len]
  · cases h
theorem srdL_len {N : Bch} {lv : List Bool} {l d c r : Int} (h : srdE N lv l d c r = 0) : (srdL N lv l d c r).length = roW l d := by
  unfold srdL
  rw [if_pos h]
  unfold srdE at h
  split at h
  · cases h
  · split at h
    · cases h
    · split at h
      · next hs =>
        obtain ⟨L, hL⟩ := Option.isSome_iff_exists.1 hs
        rw [hL]; exact roTake_len hL
      · cases h
/-- Where a number stands in its row. -/
theorem nums_at {l d c n : Int} (h : plOfOk l d c n = true) : plOk l d c (plOfR l d c n) = true ∧ kOf l d c n < roW l d ∧ (plNums l d c (plOfR l d c n)).length = roW l d ∧ (plNums l d c (plOfR l d c n)).getD (kOf l d c n) 0 = n ∧ (∀ j, j < kOf l d c n → (plNums l d c (plOfR l d c n)).getD j 0 ≠ n) ∧ plOfD l d c n = plD l d c (plOfR l d c n) (kOf l d c n : Nat) := by
  have hg := plOfOk_ok h
  obtain ⟨h0, h1⟩ := plOfOk_yes h
  obtain ⟨r0, r1, k0, k1, _, hN⟩ := of_row hg h0 h1
  obtain ⟨_, hr, hd, hk⟩ := of_yes hg h0 h1
  have hT := (plDok_yes hk).1
  have hw : gWid l d c = d - (l - 4) := gWid_yes hg
  have hW : ((roW l d : Nat) : Int) = d - (l - 4) := by unfold roW; omega
  have hK : ((kOf l d c n : Nat) : Int) = n / c % (d - (l - 4)) := by unfold kOf; omega
  rw [hr]
  refine ⟨hT, by omega, by rw [plNums_len hT, hw]; unfold roW; rfl, ?_, fun j hj e => ?_, by rw [hd, hK]⟩
  · rw [plNums_get hT (by omega), hK]; exact hN
  · rw [plNums_get hT (by omega)] at e
    have := (num_row (plDok_mk (k := (j : Int)) hT (by omega) (by omega))).2.2.2
    rw [e] at this
    omega
end Go.Proofs.YtenkkdnepmoihaaGreatDoor
end
section
set_option maxRecDepth 8000
set_option linter.unusedVariables false
set_option linter.unusedSimpArgs false
namespace Go.Proofs.YtenkkdnepmoihaaGreatDoor
open Go.RowKit

structure KX (W w : World) (b : Nat) (H : BH) (N : Bch) (K : List (Nat × Obj)) : Prop where
  bp : BP W w b H N
  kp : ∀ p ∈ K, w.heap[p.1]? = some p.2 ∧ ¬ BF b H N.n p.1 ∧ W.heap.size ≤ p.1
section
variable {W w w' : World} {b : Nat} {H : BH} {N : Bch} {K : List (Nat × Obj)}
theorem KX.below (h : KX W w b H N K) (hb : Below w.heap.size w w') : KX W w' b H N K :=
  ⟨h.bp.grow hb, fun p hp => ⟨(hb.block _ (Array.getElem?_eq_some_iff.1 (h.kp p hp).1).1).trans (h.kp p hp).1, (h.kp p hp).2⟩⟩
theorem KX.add (h : KX W w b H N K) (o : Obj) : KX W (w.alloc o) b H N ((w.heap.size, o) :: K) := by
  refine ⟨h.bp.alloc o, fun p hp => ?_⟩
  rcases List.mem_cons.1 hp with rfl | hp
  · exact ⟨heap_alloc_new _ _, (fun e => by have h9 : w.heap.size < w.heap.size := (h.bp.at'.flt e).2; omega), h.bp.bel.size⟩
  · exact (h.below (below1 w o)).kp p hp
end
theorem damage_n (N : Bch) (d k : Int) (x : List UInt8) : (N.damage d k x).n = N.n := by unfold Bch.damage; split <;> rfl
section
variable {W w : World} {b : Nat} {H : BH} {N : Bch} {K : List (Nat × Obj)} (h : KX W w b H N K)
include h
end
end Go.Proofs.YtenkkdnepmoihaaGreatDoor
end
section
set_option maxRecDepth 20000
set_option linter.unusedVariables false
set_option linter.unusedSimpArgs false
namespace Go.Proofs.YtenkkdnepmoihaaGreatDoor
open Go.RowKit

structure KS (W w : World) (b : Nat) (H : BH) (N : Bch) (K : List (Nat × Obj)) (R : List (Option Addr × List (List UInt8))) (S : List (Option Addr × List UInt8)) : Prop where
  kx : KX W w b H N K
  rx : ∀ p ∈ R, RdRX (BF b H N.n) w p.1 p.2
  sx : ∀ p ∈ S, RdBX (BF b H N.n) w p.1 p.2
section
variable {W w w' : World} {b : Nat} {H : BH} {N : Bch} {K : List (Nat × Obj)} {R : List (Option Addr × List (List UInt8))} {S : List (Option Addr × List UInt8)}
theorem KS.bp (h : KS W w b H N K R S) : BP W w b H N := h.kx.bp
theorem KS.below (h : KS W w b H N K R S) (hb : Below w.heap.size w w') : KS W w' b H N K R S := ⟨h.kx.below hb, fun p hp => (h.rx p hp).below hb, fun p hp => (h.sx p hp).below hb⟩
theorem KS.bc (h : KS W w b H N K R S) {N' : Bch} (hc : BC W w w' b H N.n N') (hn : N'.n = N.n) : ∃ H', KS W w' b H' N' K R S := by
  obtain ⟨H', a, c, m⟩ := hc
  have hx : KX W w' b H' N' K := by
    refine ⟨a, fun p hp => ?_⟩
    obtain ⟨h1, h2, h3⟩ := h.kx.kp p hp
    have hl := (Array.getElem?_eq_some_iff.1 h1).1
    exact ⟨(c.block _ hl h2).trans h1, by rw [hn]; exact BC.off m hl h2, h3⟩
  exact ⟨H', hx, fun p hp => by rw [hn]; exact (h.rx p hp).chg c (bnew_weak m), fun p hp => by rw [hn]; exact (h.sx p hp).chg c (bnew_weak m)⟩
theorem KS.add (h : KS W w b H N K R S) (o : Obj) : KS W (w.alloc o) b H N ((w.heap.size, o) :: K) R S := ⟨h.kx.add o, fun p hp => (h.rx p hp).below (below1 w o), fun p hp => (h.sx p hp).below (below1 w o)⟩
theorem KS.flt (h : KS W w b H N K R S) : ∀ k, BF b H N.n k → k < w.heap.size := fun k hk => (h.bp.at'.flt hk).2
theorem KS.off (h : KS W w b H N K R S) {lo : Nat} (hlo : w.heap.size ≤ lo) : ∀ k, k < w'.heap.size → lo ≤ k → ¬ BF b H N.n k := fun k _ hk e => by have := h.flt k e; omega
/-- With rows that were made since. -/
theorem KS.rows (h : KS W w b H N K R S) (hb : Below w.heap.size w w') {A : Option Addr} {rs : List (List UInt8)} (hr : RdF w.heap.size w' A rs) : KS W w' b H N K ((A, rs) :: R) S := by
  have h' := h.below hb
  refine ⟨h'.kx, fun p hp => ?_, h'.sx⟩
  rcases List.mem_cons.1 hp with rfl | hp
  · exact hr.rdrx (h.off (Nat.le_refl _))
  · exact h'.rx p hp
theorem KS.slice (h : KS W w b H N K R S) (hb : Below w.heap.size w w') {A : Option Addr} {bs : List UInt8} (hr : RdBF w.heap.size w' A bs) : KS W w' b H N K R ((A, bs) :: S) := by
  have h' := h.below hb
  refine ⟨h'.kx, h'.rx, fun p hp => ?_⟩
  rcases List.mem_cons.1 hp with rfl | hp
  · exact hr.rdbx (h.off (Nat.le_refl _))
  · exact h'.sx p hp
theorem KS.less (h : KS W w b H N K R S) {K' : List (Nat × Obj)} {R' : List (Option Addr × List (List UInt8))} {S' : List (Option Addr × List UInt8)} (hK : ∀ p ∈ K', p ∈ K) (hR : ∀ p ∈ R', p ∈ R) (hS : ∀ p ∈ S', p ∈ S) : KS W w b H N K' R' S' :=
  ⟨⟨h.kx.bp, fun p hp => h.kx.kp p (hK p hp)⟩, fun p hp => h.rx p (hR p hp), fun p hp => h.sx p (hS p hp)⟩
theorem KS.sl (h : KS W w b H N K R S) {A : Option Addr} {bs : List UInt8} (hm : (A, bs) ∈ S) : RdB w w.heap.size A bs := (h.sx _ hm).rdb
theorem KS.lv (h : KS W w b H N K R S) {g : Nat} {cs : Array Value} {t : TypeId} {f : Nat × Nat} {lv : List Bool} (hm : (g, Obj.cells cs t f) ∈ K) (hcs : cs = (lv.map Value.bool).toArray) (hl : lv.length ≤ 1000000) : RdOX (BF b H N.n) w (some ⟨g, 0, none⟩) lv := by
  subst hcs
  obtain ⟨h1, h2, _⟩ := h.kx.kp _ hm
  refine ⟨by omega, fun _ => ⟨g, 0, rfl, (Array.getElem?_eq_some_iff.1 h1).1, h2, fun k hk => ?_⟩⟩
  rw [Nat.zero_add, cell_of_row w g k _ t f h1, List.getElem?_toArray, List.getElem?_map, List.getElem?_eq_getElem hk]
  simp [List.getD_eq_getElem?_getD, hk]
theorem KS.gat (h : KS W w b H N K R S) {g : Nat} {l d c : Int} {t : TypeId} {f : Nat × Nat} (hm : (g, Obj.cells #[.int .i64 l, .int .i64 d, .int .i64 c] t f) ∈ K) : GAt w g l d c := by
  have h1 := (h.kx.kp _ hm).1
  exact ⟨cell_of_row w g 0 _ t f h1, cell_of_row w g 1 _ t f h1, cell_of_row w g 2 _ t f h1⟩
end
section
variable {W w : World} {b : Nat} {H : BH} {N : Bch} {K : List (Nat × Obj)} {R : List (Option Addr × List (List UInt8))} {S : List (Option Addr × List UInt8)} (h : KS W w b H N K R S)
include h
theorem ks_damage (d k : Int) (x : List UInt8) (A : Option Addr) (n c : Nat) (hn : n = x.length) (hd : i64B d) (hk : i64B k) (hr : RdB w w.heap.size A x) (hps : ∀ i, i < N.n → (N.D i).ps.length ≤ 2000000) :
    Calls Tryz.prog 42 #[.pointer (some ⟨b, 0, none⟩), .int .i64 d, .int .i64 k, .slice A n c] w fun e w' => e = .returned (.int .i64 (N.damageE d k n)) ∧ ∃ H', KS W w' b H' (N.damage d k x) K R S := by
  refine (bch_damage_any _ b H N w h.bp.at' d k x A n c hn hd hk hr hps).mono ?_
  rintro e w' ⟨rfl, ht⟩
  obtain ⟨H', k'⟩ := h.bc (h.bp.to ht) (damage_n _ _ _ _)
  exact ⟨rfl, H', k'⟩
end
end Go.Proofs.YtenkkdnepmoihaaGreatDoor
end
section
set_option linter.unusedVariables false
set_option linter.unusedSimpArgs false
namespace Go.Proofs.YtenkkdnepmoihaaGreatDoor

end Go.Proofs.YtenkkdnepmoihaaGreatDoor
end
