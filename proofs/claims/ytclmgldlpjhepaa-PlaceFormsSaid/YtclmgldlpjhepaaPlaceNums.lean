/- The numbers in a row: Numbers. -/
import Derived.Test.YtclmgldlpjhepaaPlaceOf
import Derived.Test.YtclmgldlpjhepaaOwnInt
set_option linter.unusedVariables false
set_option linter.unusedSimpArgs false
namespace Go.Proofs.Ytclmgldlpjhepaa
open Go.RowKit

/-- The first k numbers are there, the others are zeros yet. -/
def plNumsTo (l d c r : Int) (n k : Nat) : List Int := (List.range k).map (fun j : Nat => plN l d c r (j : Int)) ++ List.replicate (n - k) 0
theorem plNumsTo_len (l d c r : Int) {n k : Nat} (h : k ≤ n) : (plNumsTo l d c r n k).length = n := by simp [plNumsTo]; omega
theorem plNumsTo_zero (l d c r : Int) (n : Nat) : plNumsTo l d c r n 0 = List.replicate n 0 := by simp [plNumsTo]
theorem plNumsTo_succ (l d c r : Int) {n k : Nat} (h : k < n) : (plNumsTo l d c r n k).set k (plN l d c r (k : Int)) = plNumsTo l d c r n (k + 1) := by
  unfold plNumsTo
  rw [List.set_append_right _ _ (by simp), show n - k = (n - (k + 1)) + 1 by omega, List.replicate_succ, List.length_map, List.length_range, Nat.sub_self, List.set_cons_zero, List.range_succ, List.map_append, List.append_assoc]
  rfl
theorem plNumsTo_all {l d c r : Int} {n : Nat} (h : plOk l d c r = true) (hn : gWid l d c = n) : plNumsTo l d c r n n = plNums l d c r := by
  have hg := (plOk_yes h).1
  rw [gWid_yes hg] at hn
  unfold plNums plNumsTo
  rw [if_pos h, hn]
  simp
theorem plNums_no {l d c r : Int} (h : plOk l d c r = false) : plNums l d c r = [] := if_neg (by rw [h]; decide)
theorem plNums_len {l d c r : Int} (h : plOk l d c r = true) : (plNums l d c r).length = (gWid l d c).toNat := by
  have hg := (plOk_yes h).1
  rw [gWid_yes hg]
  unfold plNums
  rw [if_pos h]
  simp
theorem plNums_get {l d c r : Int} (h : plOk l d c r = true) {k : Nat} (hk : (k : Int) < gWid l d c) : (plNums l d c r).getD k 0 = plN l d c r (k : Int) := by
  have hg := (plOk_yes h).1
  rw [gWid_yes hg] at hk
  unfold plNums
  rw [if_pos h]
  have : k < (d - (l - 4)).toNat := by omega
  simp [this]
theorem GS.set {w0 W : World} {B b : Nat} {l d c : Int} (h : GS w0 B b l d c W) {p : Addr} (hp : B ≤ p.block) (hne : p.block ≠ b) (u : Value) : GS w0 B b l d c (W.setCell p u) :=
  ⟨(World.cell?_setCell_far _ _ _ _ hne).trans h.1, (World.cell?_setCell_far _ _ _ _ hne).trans h.2.1, (World.cell?_setCell_far _ _ _ _ hne).trans h.2.2.1, h.2.2.2.setCell hp u⟩
set_option maxHeartbeats 800000 in
theorem numbers_own (l d c r : Int) (w : World) (HT : Hid (plOk l d c r = true)) (hl : (-9223372036854775808 ≤ l ∧ l ≤ 9223372036854775807)) (hd : (-9223372036854775808 ≤ d ∧ d ≤ 9223372036854775807)) (hc : (-9223372036854775808 ≤ c ∧ c ≤ 9223372036854775807)) (hr : (-9223372036854775808 ≤ r ∧ r ≤ 9223372036854775807)) :
    Calls Try.prog 10 #[.agg #[.int .i64 l, .int .i64 d, .int .i64 c], .int .i64 r] w fun e w' => ∃ v, e = .returned v ∧ OwJ w' w.heap.size v (plNums l d c r) ∧ Below w.heap.size w w' := by
  have G := gat_new w l d c 23 (0, 0)
  obtain ⟨hg, h0, h1⟩ := plOk_yes HT.out
  have HW := Lib.hid (fun W => width_any l d c W hl hd hc)
  have hw := gWid_bd l d c
  obtain ⟨n, hn⟩ : ∃ n : Nat, gWid l d c = n := ⟨(gWid l d c).toNat, by omega⟩
  have Hall := Lib.hid (plNumsTo_all HT.out hn)
  have HN : Hid (∀ (k : Nat) W, k < n → Calls Try.prog 25 #[.agg #[.int .i64 l, .int .i64 d, .int .i64 c], .int .i64 r, .int .i64 (k : Int)] W fun e w' => e = .returned (.int .i64 (plN l d c r (k : Int))) ∧ Below W.heap.size W w') :=
    Lib.hid (fun k W hk => number_any l d c r (k : Int) W HT (by omega) hl hd hc hr)
  rw [hn] at HW hw
  have hn8 : n ≤ 1000000 := by omega
  have km := make_ints n hn8
  clear hn hg
  go_enter Try.func10, Try.ntmps10
  go_wp2_with fail
  (with_reducible refine (there_yes l d c r _ HT hl hd hc hr).mono ?_); rintro e w1 ⟨rfl, hb⟩
  have S1 := GS.later (w0 := w) (B := w.heap.size) ⟨G.1, G.2.1, G.2.2, below1 w _⟩ hb
  clear hb G
  obtain ⟨g1, g2, g3, F⟩ := S1
  go_wp2_with fail
  (with_reducible refine (HW.out _).mono ?_); rintro e w2 ⟨rfl, hb⟩
  have S2 := GS.later (w0 := w) (B := w.heap.size) ⟨g1, g2, g3, F⟩ hb
  clear hb g1 g2 g3 F
  have own0 := ownJ_make w2 n hn8
  have S3 := S2.later (below1 w2 (.cells (madeCells #[.int .i64 0] n) 3))
  have z2 := S2.2.2.2.size
  have b2 := World.block_lt_of_cell? _ _ S2.1
  clear S2
  rw [← plNumsTo_zero l d c r n] at own0
  go_wp2_with fail
  generalize w2.heap.size = g at own0 S3 z2 b2 ⊢
  generalize w2.alloc (.cells (madeCells #[.int .i64 0] n) 3) = w3 at own0 S3 ⊢
  go_loopw [16] (fun i wr => ∃ k : Nat, k ≤ n ∧ i = .int .i64 k ∧ OwJ wr g (.slice (some ⟨g, 0, none⟩) n n) (plNumsTo l d c r n k) ∧ GS w w.heap.size w.heap.size l d c wr) (fun i _ => n - (intOf i).toNat)
  case atStart => exact ⟨0, Nat.zero_le _, rfl, own0, S3⟩
  case round =>
    obtain ⟨k, hk, rfl, hown, hS⟩ := hrel
    by_cases hlt : k < n
    · have i0 : (0 : Int) ≤ (k : Int) := by omega
      have i1 : (k : Int) < (n : Int) := by omega
      obtain ⟨g1, g2, g3, F⟩ := hS
      go_wp2_with fail
      (with_reducible refine (HN.out k _ hlt).mono ?_); rintro e w4 ⟨rfl, hb⟩
      have S4 := GS.later (w0 := w) (B := w.heap.size) ⟨g1, g2, g3, F⟩ hb
      have hown4 := hown.below hb
      obtain ⟨c4, f4⟩ := hown4.cellF (plNumsTo_len l d c r hk).symm k hlt
      have hown5 := hown4.set (plNumsTo_len l d c r hk).symm k (plN l d c r (k : Int))
      rw [plNumsTo_succ l d c r hlt] at hown5
      have S5 := S4.set (p := ⟨g, k, none⟩) (by show w.heap.size ≤ g; omega) (by show g ≠ w.heap.size; omega) (.int .i64 (plN l d c r (k : Int)))
      clear hb g1 g2 g3 F hown S4 hown4
      go_wp2
      go_roundw
      case rel => exact ⟨k + 1, by omega, by go_num, hown5, S5⟩
      case measure => simp [intOf]; omega
    · obtain rfl : k = n := by omega
      rw [Hall.out] at hown
      go_wp2
      go_ret
      exact ⟨_, rfl, hown.le (by omega), hS.2.2.2⟩
theorem numbers_any (l d c r : Int) (w : World) (hl : (-9223372036854775808 ≤ l ∧ l ≤ 9223372036854775807)) (hd : (-9223372036854775808 ≤ d ∧ d ≤ 9223372036854775807)) (hc : (-9223372036854775808 ≤ c ∧ c ≤ 9223372036854775807)) (hr : (-9223372036854775808 ≤ r ∧ r ≤ 9223372036854775807)) :
    Calls Try.prog 10 #[.agg #[.int .i64 l, .int .i64 d, .int .i64 c], .int .i64 r] w fun e w' => ∃ A cp, e = .returned (.slice A (plNums l d c r).length cp) ∧ RdJ w' w'.heap.size A (plNums l d c r) ∧ Below w.heap.size w w' := by
  cases hT : plOk l d c r
  · have H := Lib.hid (plNums_no hT)
    have HT := Lib.hid hT
    clear hT
    go_enter Try.func10, Try.ntmps10
    go_wp2_with fail
    (with_reducible refine (there_no l d c r _ HT hl hd hc hr).mono ?_); rintro e w1 ⟨rfl, hb⟩
    have F := (below1 w _).trans (hb.mono (by simp))
    clear hb
    go_wp2_with fail
    go_ret
    exact ⟨none, 0, by rw [H.out]; rfl, by rw [H.out]; exact RdJ.nil _ _ _, F⟩
  · refine (numbers_own l d c r w (Lib.hid hT) hl hd hc hr).mono ?_
    rintro e w' ⟨v, rfl, ho, hb⟩
    have hw := gWid_bd l d c
    obtain ⟨A, cp, rfl, hr⟩ := ho.rd (by rw [plNums_len hT]; omega)
    exact ⟨A, cp, rfl, hr, hb⟩
end Go.Proofs.Ytclmgldlpjhepaa
