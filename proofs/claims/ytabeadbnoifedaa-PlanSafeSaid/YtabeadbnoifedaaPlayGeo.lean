/- The statements' geometries of a number. -/
import Derived.Test.YtabeadbnoifedaaRefGeo
import Derived.Test.YtabeadbnoifedaaWithin0
set_option linter.unusedVariables false
set_option linter.unusedSimpArgs false
namespace Go.Proofs.Ytabeadbnoifedaa
open Go.RowKit

/-- The chunks there are. -/
def chk (k : Int) : Int := if k = 0 then 1 else if k = 1 then 2 else 4
def pgE (n : Int) : Int := withinI (n.tdiv 24) 40
def pgL (n : Int) : Int := if pgE n = 36 then withinI n 9 else 5 + withinI n 2
def pgD (n : Int) : Int := if pgE n = 37 then withinI n 12 - 1 else if pgE n = 39 then 8 else if withinI n 2 = 1 then 4 + withinI (n.tdiv 6) 4 else 3 + withinI (n.tdiv 6) 4
def pgC (n : Int) : Int := if pgE n = 38 then withinI n 9 - 1 else chk (withinI (n.tdiv 2) 3)
theorem pg_bd (n : Int) : (0 ≤ pgL n ∧ pgL n ≤ 8) ∧ (-1 ≤ pgD n ∧ pgD n ≤ 10) ∧ (-1 ≤ pgC n ∧ pgC n ≤ 7) := by
  have b1 := withinI_bd n 2 (by omega)
  have b3 := withinI_bd (n.tdiv 6) 4 (by omega)
  have b5 := withinI_bd n 9 (by omega)
  have b6 := withinI_bd n 12 (by omega)
  refine ⟨?_, ?_, ?_⟩
  · unfold pgL; split <;> omega
  · unfold pgD; split
    · omega
    · split
      · omega
      · split <;> omega
  · unfold pgC chk; split
    · omega
    · split
      · omega
      · split <;> omega
theorem tdiv_nonneg_bd (m k : Int) (hm : 0 ≤ m) (hk : 1 ≤ k) : 0 ≤ m.tdiv k ∧ m.tdiv k ≤ m :=
  ⟨Int.tdiv_nonneg hm (by omega), Int.tdiv_le_self _ hm⟩
theorem tdiv_i64 (n k : Int) (hk : 1 ≤ k) (hn : -9223372036854775808 ≤ n ∧ n ≤ 9223372036854775807) : -9223372036854775808 ≤ n.tdiv k ∧ n.tdiv k ≤ 9223372036854775807 := by
  by_cases h : 0 ≤ n
  · have := tdiv_nonneg_bd n k h hk; omega
  · have := tdiv_nonneg_bd (-n) k (by omega) hk
    rw [Int.neg_tdiv] at this
    omega
theorem chk_cell (w : World) (k : Nat) (hk : k < 3) (t : TypeId) : (w.alloc (.cells #[.int .i64 1, .int .i64 2, .int .i64 4] t)).cell? ⟨w.heap.size, k, none⟩ = some (.int .i64 (chk k)) := by
  have c := fun i => cell_of_row _ _ i _ _ _ (heap_alloc_new w (.cells #[.int .i64 1, .int .i64 2, .int .i64 4] t))
  match k, hk with
  | 0, _ => exact c 0
  | 1, _ => exact c 1
  | 2, _ => exact c 2
/-- What is known of a number's parts. -/
structure PG (n : Int) (k1 : Int) (k2 : Nat) (k3 k4 k5 k6 : Int) : Prop where
  b1 : 0 ≤ k1 ∧ k1 < 2
  b2 : k2 < 3
  b3 : 0 ≤ k3 ∧ k3 < 4
  b4 : 0 ≤ k4 ∧ k4 < 40
  b5 : 0 ≤ k5 ∧ k5 < 9
  b6 : 0 ≤ k6 ∧ k6 < 12
  l : pgL n = if k4 = 36 then k5 else 5 + k1
  d : pgD n = if k4 = 37 then k6 - 1 else if k4 = 39 then 8 else if k1 = 1 then 4 + k3 else 3 + k3
  c : pgC n = if k4 = 38 then k5 - 1 else chk k2
set_option maxHeartbeats 2000000 in
theorem pgw (n : Int) (k1 k3 k4 k5 k6 : Int) (k2 : Nat) (w : World) (hn : -9223372036854775808 ≤ n ∧ n ≤ 9223372036854775807) (P : PG n k1 k2 k3 k4 k5 k6) (W1 : Hid (∀ V, Calls Try.prog 25 #[.int .i64 (n), .int .i64 2] V fun e w' => e = .returned (.int .i64 k1) ∧ w' = V)) (W2 : Hid (∀ V, Calls Try.prog 25 #[.int .i64 (n.tdiv 2), .int .i64 3] V fun e w' => e = .returned (.int .i64 (k2 : Int)) ∧ w' = V)) (W3 : Hid (∀ V, Calls Try.prog 25 #[.int .i64 (n.tdiv 6), .int .i64 4] V fun e w' => e = .returned (.int .i64 k3) ∧ w' = V)) (W4 : Hid (∀ V, Calls Try.prog 25 #[.int .i64 (n.tdiv 24), .int .i64 40] V fun e w' => e = .returned (.int .i64 k4) ∧ w' = V)) (W5 : Hid (∀ V, Calls Try.prog 25 #[.int .i64 (n), .int .i64 9] V fun e w' => e = .returned (.int .i64 k5) ∧ w' = V)) (W6 : Hid (∀ V, Calls Try.prog 25 #[.int .i64 (n), .int .i64 12] V fun e w' => e = .returned (.int .i64 k6) ∧ w' = V)) :
    Calls Try.prog 14 #[.int .i64 n] w fun e w' => e = .returned (.agg #[.int .i64 (pgL n), .int .i64 (pgD n), .int .i64 (pgC n)]) ∧ Below w.heap.size w w' := by
  obtain ⟨b1, b2, b3, b4, b5, b6, hl, hd, hc⟩ := P
  have HL := Lib.hid hl
  have HD := Lib.hid hd
  have HC := Lib.hid hc
  have HB := Lib.hid b4
  obtain ⟨D0, hD⟩ : ∃ D0 : Int, D0 = if k1 = 1 then 4 + k3 else 3 + k3 := ⟨_, rfl⟩
  have bD : 3 ≤ D0 ∧ D0 ≤ 7 := by rw [hD]; split <;> omega
  have HE := Lib.hid hD
  have q2 : (0 : Int) ≤ (k2 : Int) ∧ (k2 : Int) < 3 := by omega
  have hcell := chk_cell (w.alloc (.cells #[.int .i64 0, .int .i64 0, .int .i64 0] 23)) k2 b2 3
  rw [show (w.alloc (.cells #[.int .i64 0, .int .i64 0, .int .i64 0] 23)).heap.size = w.heap.size + 1 by simp] at hcell
  have HX : Hid (∃ ck, ck = chk k2) := Lib.hid ⟨_, rfl⟩
  generalize chk k2 = ck at hcell HC
  clear hl hd hc hD b4 HX
  go_enter Try.func14, Try.ntmps14
  go_wp2_with fail
  (with_reducible refine (W1.out _).mono ?_); rintro e w' ⟨rfl, rfl⟩
  go_wp2_with fail
  (with_reducible refine (W2.out _).mono ?_); rintro e w' ⟨rfl, rfl⟩
  go_wp2_with fail
  (with_reducible refine (W3.out _).mono ?_); rintro e w' ⟨rfl, rfl⟩
  clear hcell
  go_upto_if 25 with fail
  go_cut [25] (fun _ W => W = (((w.alloc (.cells #[.int .i64 0, .int .i64 0, .int .i64 0] 23)).alloc (.cells #[.int .i64 1, .int .i64 2, .int .i64 4] 3)).alloc (.cells #[.int .i64 (5 + k1), .int .i64 D0, .int .i64 ck] 23)))
  case first =>
    by_cases h1 : k1 = 1
    · subst h1
      obtain rfl : D0 = 4 + k3 := HE.out.trans (if_pos rfl)
      go_wp2_with fail
      (with_reducible refine (W3.out _).mono ?_); rintro e w' ⟨rfl, rfl⟩
      go_wp2_with fail
      go_meet
      exact rfl
    · obtain rfl : k1 = 0 := by omega
      obtain rfl : D0 = 3 + k3 := HE.out.trans (if_neg (by decide))
      clear h1
      go_wp2_with fail
      go_meet
      exact rfl
  case rest =>
    subst hcut
    by_cases h36 : k4 = 36
    · subst h36
      have H1 := Lib.hid (show k5 = pgL n by rw [HL.out]; simp)
      have H2 := Lib.hid (show D0 = pgD n by rw [HD.out, HE.out]; simp)
      have H3 := Lib.hid (show ck = pgC n by rw [HC.out]; simp)
      go_wp2_with fail
      (with_reducible refine (W4.out _).mono ?_); rintro e w' ⟨rfl, rfl⟩
      go_wp2_with fail
      (with_reducible refine (W5.out _).mono ?_); rintro e w' ⟨rfl, rfl⟩
      go_wp2_with fail
      refine bodyPost_ret (v := .agg #[.int .i64 (k5), .int .i64 (D0), .int .i64 (ck)]) (by simp [results, Try.results14, go_sem]) rfl ⟨?_, below3 _ _ _ _⟩
      rw [H1.out, H2.out, H3.out]
    by_cases h37 : k4 = 37
    · subst h37
      have H1 := Lib.hid (show 5 + k1 = pgL n by rw [HL.out]; simp)
      have H2 := Lib.hid (show k6 - 1 = pgD n by rw [HD.out]; simp)
      have H3 := Lib.hid (show ck = pgC n by rw [HC.out]; simp)
      go_wp2_with fail
      (with_reducible refine (W4.out _).mono ?_); rintro e w' ⟨rfl, rfl⟩
      go_wp2_with fail
      (with_reducible refine (W6.out _).mono ?_); rintro e w' ⟨rfl, rfl⟩
      go_wp2_with fail
      refine bodyPost_ret (v := .agg #[.int .i64 (5 + k1), .int .i64 (k6 - 1), .int .i64 (ck)]) (by simp [results, Try.results14, go_sem]) rfl ⟨?_, below3 _ _ _ _⟩
      rw [H1.out, H2.out, H3.out]
    by_cases h38 : k4 = 38
    · subst h38
      have H1 := Lib.hid (show 5 + k1 = pgL n by rw [HL.out]; simp)
      have H2 := Lib.hid (show D0 = pgD n by rw [HD.out, HE.out]; simp)
      have H3 := Lib.hid (show k5 - 1 = pgC n by rw [HC.out]; simp)
      go_wp2_with fail
      (with_reducible refine (W4.out _).mono ?_); rintro e w' ⟨rfl, rfl⟩
      go_wp2_with fail
      (with_reducible refine (W5.out _).mono ?_); rintro e w' ⟨rfl, rfl⟩
      go_wp2_with fail
      refine bodyPost_ret (v := .agg #[.int .i64 (5 + k1), .int .i64 (D0), .int .i64 (k5 - 1)]) (by simp [results, Try.results14, go_sem]) rfl ⟨?_, below3 _ _ _ _⟩
      rw [H1.out, H2.out, H3.out]
    by_cases h39 : k4 = 39
    · subst h39
      have H1 := Lib.hid (show 5 + k1 = pgL n by rw [HL.out]; simp)
      have H2 := Lib.hid (show 8 = pgD n by rw [HD.out]; simp)
      have H3 := Lib.hid (show ck = pgC n by rw [HC.out]; simp)
      go_wp2_with fail
      (with_reducible refine (W4.out _).mono ?_); rintro e w' ⟨rfl, rfl⟩
      go_wp2_with fail
      refine bodyPost_ret (v := .agg #[.int .i64 (5 + k1), .int .i64 (8), .int .i64 (ck)]) (by simp [results, Try.results14, go_sem]) rfl ⟨?_, below3 _ _ _ _⟩
      rw [H1.out, H2.out, H3.out]
    have e36 : (k4 == 36) = false := ibeq_no h36
    have e37 : (k4 == 37) = false := ibeq_no h37
    have e38 : (k4 == 38) = false := ibeq_no h38
    have e39 : (k4 == 39) = false := ibeq_no h39
    have H1 := Lib.hid (show 5 + k1 = pgL n by rw [HL.out]; simp [h36])
    have H2 := Lib.hid (show D0 = pgD n by rw [HD.out, HE.out]; simp [h37, h39])
    have H3 := Lib.hid (show ck = pgC n by rw [HC.out]; simp [h38])
    clear h36 h37 h38 h39
    go_wp2_with fail
    (with_reducible refine (W4.out _).mono ?_); rintro e w' ⟨rfl, rfl⟩
    go_wp2_with fail
    refine bodyPost_ret (v := .agg #[.int .i64 (5 + k1), .int .i64 (D0), .int .i64 (ck)]) (by simp [results, Try.results14, go_sem]) rfl ⟨?_, below3 _ _ _ _⟩
    rw [H1.out, H2.out, H3.out]
theorem playGeom_any (n : Int) (w : World) (hn : -9223372036854775808 ≤ n ∧ n ≤ 9223372036854775807) :
    Calls Try.prog 14 #[.int .i64 n] w fun e w' => e = .returned (.agg #[.int .i64 (pgL n), .int .i64 (pgD n), .int .i64 (pgC n)]) ∧ Below w.heap.size w w' := by
  have b2 := withinI_bd (n.tdiv 2) 3 (by omega)
  obtain ⟨k2, hk2⟩ := Int.eq_ofNat_of_zero_le b2.1
  have P : PG n (withinI n 2) k2 (withinI (n.tdiv 6) 4) (withinI (n.tdiv 24) 40) (withinI n 9) (withinI n 12) :=
    ⟨withinI_bd n 2 (by omega), by omega, withinI_bd _ 4 (by omega), withinI_bd _ 40 (by omega), withinI_bd n 9 (by omega), withinI_bd n 12 (by omega), rfl, rfl, by unfold pgC; rw [hk2]; rfl⟩
  have W1 := Lib.hid fun V => within_any n 2 V hn (by omega)
  have W2 := Lib.hid fun V => within_any (n.tdiv 2) 3 V (tdiv_i64 n 2 (by omega) hn) (by omega)
  rw [hk2] at W2
  have W3 := Lib.hid fun V => within_any (n.tdiv 6) 4 V (tdiv_i64 n 6 (by omega) hn) (by omega)
  have W4 := Lib.hid fun V => within_any (n.tdiv 24) 40 V (tdiv_i64 n 24 (by omega) hn) (by omega)
  have W5 := Lib.hid fun V => within_any n 9 V hn (by omega)
  have W6 := Lib.hid fun V => within_any n 12 V hn (by omega)
  generalize withinI n 2 = k1 at P W1
  generalize withinI (n.tdiv 6) 4 = k3 at P W3
  generalize withinI (n.tdiv 24) 40 = k4 at P W4
  generalize withinI n 9 = k5 at P W5
  generalize withinI n 12 = k6 at P W6
  exact pgw n k1 k3 k4 k5 k6 k2 w hn P W1 W2 W3 W4 W5 W6
end Go.Proofs.Ytabeadbnoifedaa
