/- Texts put together: PlayGeo, PlayGood, Sub, RowKit, Plain, LawArgs. -/
import Derived.Test.YtbojmofkhkegmaaRaah
import Derived.Test.YtbojmofkhkegmaaRaaa
import Derived.Deep.LoopGhost
import Derived.Deep.DeepCutAuto
import Derived.Deep.CutBlock
import Derived.Carry
import Derived.Test.YtbojmofkhkegmaaRows
import Derived.Test.YtbojmofkhkegmaaRaab
import Derived.Test.YtbojmofkhkegmaaRaag
import Derived.Deep.Grids
section
set_option linter.unusedVariables false
set_option linter.unusedSimpArgs false
namespace Go.Proofs.Ytbojmofkhkegmaa
open Go.RowKit

/-- The chunks there are. -/
def chk (k : Int) : Int := if k = 0 then 1 else if k = 1 then 2 else 4
def pgE (n : Int) : Int := withinI (n.tdiv 24) 40
def pgL (n : Int) : Int := if pgE n = 36 then withinI n 9 else 5 + withinI n 2
def pgD (n : Int) : Int := if pgE n = 37 then withinI n 12 - 1 else if pgE n = 39 then 8 else if withinI n 2 = 1 then 4 + withinI (n.tdiv 6) 4 else 3 + withinI (n.tdiv 6) 4
def pgC (n : Int) : Int := if pgE n = 38 then withinI n 9 - 1 else chk (withinI (n.tdiv 2) 3)
theorem pg_bd (n : Int) : (0 ≤ pgL n ∧ pgL n ≤ 8) ∧ (-1 ≤ pgD n ∧ pgD n ≤ 10) ∧ (-1 ≤ pgC n ∧ pgC n ≤ 7) := by
  have b1 := withinI_bd n 2 (by omega)
  have b3 := withinI_bd (n.tdiv 6) 4 (by omega)
  have b5 := withinI_bd n 9 (by omega)
  have b6 := withinI_bd n 12 (by omega)
  refine ⟨?_, ?_, ?_⟩
  · unfold pgL; split <;> omega
  · unfold pgD; split
    · omega
    · split
      · omega
      · split <;> omega
  · unfold pgC chk; split
    · omega
    · split
      · omega
      · split <;> omega
theorem tdiv_nonneg_bd (m k : Int) (hm : 0 ≤ m) (hk : 1 ≤ k) : 0 ≤ m.tdiv k ∧ m.tdiv k ≤ m :=
  ⟨Int.tdiv_nonneg hm (by omega), Int.tdiv_le_self _ hm⟩
theorem tdiv_i64 (n k : Int) (hk : 1 ≤ k) (hn : -9223372036854775808 ≤ n ∧ n ≤ 9223372036854775807) : -9223372036854775808 ≤ n.tdiv k ∧ n.tdiv k ≤ 9223372036854775807 := by
  by_cases h : 0 ≤ n
  · have := tdiv_nonneg_bd n k h hk; omega
  · have := tdiv_nonneg_bd (-n) k (by omega) hk
    rw [Int.neg_tdiv] at this
    omega
theorem chk_cell (w : World) (k : Nat) (hk : k < 3) (t : TypeId) : (w.alloc (.cells #[.int .i64 1, .int .i64 2, .int .i64 4] t)).cell? ⟨w.heap.size, k, none⟩ = some (.int .i64 (chk k)) := by
  have c := fun i => cell_of_row _ _ i _ _ _ (heap_alloc_new w (.cells #[.int .i64 1, .int .i64 2, .int .i64 4] t))
  match k, hk with
  | 0, _ => exact c 0
  | 1, _ => exact c 1
  | 2, _ => exact c 2
/-- What is known of a number's parts. -/
structure PG (n : Int) (k1 : Int) (k2 : Nat) (k3 k4 k5 k6 : Int) : Prop where
  b1 : 0 ≤ k1 ∧ k1 < 2
  b2 : k2 < 3
  b3 : 0 ≤ k3 ∧ k3 < 4
  b4 : 0 ≤ k4 ∧ k4 < 40
  b5 : 0 ≤ k5 ∧ k5 < 9
  b6 : 0 ≤ k6 ∧ k6 < 12
  l : pgL n = if k4 = 36 then k5 else 5 + k1
  d : pgD n = if k4 = 37 then k6 - 1 else if k4 = 39 then 8 else if k1 = 1 then 4 + k3 else 3 + k3
  c : pgC n = if k4 = 38 then k5 - 1 else chk k2
set_option maxHeartbeats 2000000 in
theorem pgw (n : Int) (k1 k3 k4 k5 k6 : Int) (k2 : Nat) (w : World) (hn : -9223372036854775808 ≤ n ∧ n ≤ 9223372036854775807) (P : PG n k1 k2 k3 k4 k5 k6) (W1 : Hid (∀ V, Calls Try.prog 13 #[.int .i64 (n), .int .i64 2] V fun e w' => e = .returned (.int .i64 k1) ∧ w' = V)) (W2 : Hid (∀ V, Calls Try.prog 13 #[.int .i64 (n.tdiv 2), .int .i64 3] V fun e w' => e = .returned (.int .i64 (k2 : Int)) ∧ w' = V)) (W3 : Hid (∀ V, Calls Try.prog 13 #[.int .i64 (n.tdiv 6), .int .i64 4] V fun e w' => e = .returned (.int .i64 k3) ∧ w' = V)) (W4 : Hid (∀ V, Calls Try.prog 13 #[.int .i64 (n.tdiv 24), .int .i64 40] V fun e w' => e = .returned (.int .i64 k4) ∧ w' = V)) (W5 : Hid (∀ V, Calls Try.prog 13 #[.int .i64 (n), .int .i64 9] V fun e w' => e = .returned (.int .i64 k5) ∧ w' = V)) (W6 : Hid (∀ V, Calls Try.prog 13 #[.int .i64 (n), .int .i64 12] V fun e w' => e = .returned (.int .i64 k6) ∧ w' = V)) :
    Calls Try.prog 34 #[.int .i64 n] w fun e w' => e = .returned (.agg #[.int .i64 (pgL n), .int .i64 (pgD n), .int .i64 (pgC n)]) ∧ Below w.heap.size w w' := by
  obtain ⟨b1, b2, b3, b4, b5, b6, hl, hd, hc⟩ := P
  have HL := Lib.hid hl
  have HD := Lib.hid hd
  have HC := Lib.hid hc
  have HB := Lib.hid b4
  obtain ⟨D0, hD⟩ : ∃ D0 : Int, D0 = if k1 = 1 then 4 + k3 else 3 + k3 := ⟨_, rfl⟩
  have bD : 3 ≤ D0 ∧ D0 ≤ 7 := by rw [hD]; split <;> omega
  have HE := Lib.hid hD
  have q2 : (0 : Int) ≤ (k2 : Int) ∧ (k2 : Int) < 3 := by omega
  have hcell := chk_cell (w.alloc (.cells #[.int .i64 0, .int .i64 0, .int .i64 0] 23)) k2 b2 3
  rw [show (w.alloc (.cells #[.int .i64 0, .int .i64 0, .int .i64 0] 23)).heap.size = w.heap.size + 1 by simp] at hcell
  have HX : Hid (∃ ck, ck = chk k2) := Lib.hid ⟨_, rfl⟩
  generalize chk k2 = ck at hcell HC
  clear hl hd hc hD b4 HX
  go_enter Try.func34, Try.ntmps34
  go_wp2_with fail
  (with_reducible refine (W1.out _).mono ?_); rintro e w' ⟨rfl, rfl⟩
  go_wp2_with fail
  (with_reducible refine (W2.out _).mono ?_); rintro e w' ⟨rfl, rfl⟩
  go_wp2_with fail
  (with_reducible refine (W3.out _).mono ?_); rintro e w' ⟨rfl, rfl⟩
  clear hcell
  go_upto_if 25 with fail
  go_cut [25] (fun _ W => W = (((w.alloc (.cells #[.int .i64 0, .int .i64 0, .int .i64 0] 23)).alloc (.cells #[.int .i64 1, .int .i64 2, .int .i64 4] 3)).alloc (.cells #[.int .i64 (5 + k1), .int .i64 D0, .int .i64 ck] 23)))
  case first =>
    by_cases h1 : k1 = 1
    · subst h1
      obtain rfl : D0 = 4 + k3 := HE.out.trans (if_pos rfl)
      go_wp2_with fail
      (with_reducible refine (W3.out _).mono ?_); rintro e w' ⟨rfl, rfl⟩
      go_wp2_with fail
      go_meet
      exact rfl
    · obtain rfl : k1 = 0 := by omega
      obtain rfl : D0 = 3 + k3 := HE.out.trans (if_neg (by decide))
      clear h1
      go_wp2_with fail
      go_meet
      exact rfl
  case rest =>
    subst hcut
    by_cases h36 : k4 = 36
    · subst h36
      have H1 := Lib.hid (show k5 = pgL n by rw [HL.out]; simp)
      have H2 := Lib.hid (show D0 = pgD n by rw [HD.out, HE.out]; simp)
      have H3 := Lib.hid (show ck = pgC n by rw [HC.out]; simp)
      go_wp2_with fail
      (with_reducible refine (W4.out _).mono ?_); rintro e w' ⟨rfl, rfl⟩
      go_wp2_with fail
      (with_reducible refine (W5.out _).mono ?_); rintro e w' ⟨rfl, rfl⟩
      go_wp2_with fail
      refine bodyPost_ret (v := .agg #[.int .i64 (k5), .int .i64 (D0), .int .i64 (ck)]) (by simp [results, Try.results34, go_sem]) rfl ⟨?_, below3 _ _ _ _⟩
      rw [H1.out, H2.out, H3.out]
    by_cases h37 : k4 = 37
    · subst h37
      have H1 := Lib.hid (show 5 + k1 = pgL n by rw [HL.out]; simp)
      have H2 := Lib.hid (show k6 - 1 = pgD n by rw [HD.out]; simp)
      have H3 := Lib.hid (show ck = pgC n by rw [HC.out]; simp)
      go_wp2_with fail
      (with_reducible refine (W4.out _).mono ?_); rintro e w' ⟨rfl, rfl⟩
      go_wp2_with fail
      (with_reducible refine (W6.out _).mono ?_); rintro e w' ⟨rfl, rfl⟩
      go_wp2_with fail
      refine bodyPost_ret (v := .agg #[.int .i64 (5 + k1), .int .i64 (k6 - 1), .int .i64 (ck)]) (by simp [results, Try.results34, go_sem]) rfl ⟨?_, below3 _ _ _ _⟩
      rw [H1.out, H2.out, H3.out]
    by_cases h38 : k4 = 38
    · subst h38
      have H1 := Lib.hid (show 5 + k1 = pgL n by rw [HL.out]; simp)
      have H2 := Lib.hid (show D0 = pgD n by rw [HD.out, HE.out]; simp)
      have H3 := Lib.hid (show k5 - 1 = pgC n by rw [HC.out]; simp)
      go_wp2_with fail
      (with_reducible refine (W4.out _).mono ?_); rintro e w' ⟨rfl, rfl⟩
      go_wp2_with fail
      (with_reducible refine (W5.out _).mono ?_); rintro e w' ⟨rfl, rfl⟩
      go_wp2_with fail
      refine bodyPost_ret (v := .agg #[.int .i64 (5 + k1), .int .i64 (D0), .int .i64 (k5 - 1)]) (by simp [results, Try.results34, go_sem]) rfl ⟨?_, below3 _ _ _ _⟩
      rw [H1.out, H2.out, H3.out]
    by_cases h39 : k4 = 39
    · subst h39
      have H1 := Lib.hid (show 5 + k1 = pgL n by rw [HL.out]; simp)
      have H2 := Lib.hid (show 8 = pgD n by rw [HD.out]; simp)
      have H3 := Lib.hid (show ck = pgC n by rw [HC.out]; simp)
      go_wp2_with fail
      (with_reducible refine (W4.out _).mono ?_); rintro e w' ⟨rfl, rfl⟩
      go_wp2_with fail
      refine bodyPost_ret (v := .agg #[.int .i64 (5 + k1), .int .i64 (8), .int .i64 (ck)]) (by simp [results, Try.results34, go_sem]) rfl ⟨?_, below3 _ _ _ _⟩
      rw [H1.out, H2.out, H3.out]
    have e36 : (k4 == 36) = false := ibeq_no h36
    have e37 : (k4 == 37) = false := ibeq_no h37
    have e38 : (k4 == 38) = false := ibeq_no h38
    have e39 : (k4 == 39) = false := ibeq_no h39
    have H1 := Lib.hid (show 5 + k1 = pgL n by rw [HL.out]; simp [h36])
    have H2 := Lib.hid (show D0 = pgD n by rw [HD.out, HE.out]; simp [h37, h39])
    have H3 := Lib.hid (show ck = pgC n by rw [HC.out]; simp [h38])
    clear h36 h37 h38 h39
    go_wp2_with fail
    (with_reducible refine (W4.out _).mono ?_); rintro e w' ⟨rfl, rfl⟩
    go_wp2_with fail
    refine bodyPost_ret (v := .agg #[.int .i64 (5 + k1), .int .i64 (D0), .int .i64 (ck)]) (by simp [results, Try.results34, go_sem]) rfl ⟨?_, below3 _ _ _ _⟩
    rw [H1.out, H2.out, H3.out]
theorem playGeom_any (n : Int) (w : World) (hn : -9223372036854775808 ≤ n ∧ n ≤ 9223372036854775807) :
    Calls Try.prog 34 #[.int .i64 n] w fun e w' => e = .returned (.agg #[.int .i64 (pgL n), .int .i64 (pgD n), .int .i64 (pgC n)]) ∧ Below w.heap.size w w' := by
  have b2 := withinI_bd (n.tdiv 2) 3 (by omega)
  obtain ⟨k2, hk2⟩ := Int.eq_ofNat_of_zero_le b2.1
  have P : PG n (withinI n 2) k2 (withinI (n.tdiv 6) 4) (withinI (n.tdiv 24) 40) (withinI n 9) (withinI n 12) :=
    ⟨withinI_bd n 2 (by omega), by omega, withinI_bd _ 4 (by omega), withinI_bd _ 40 (by omega), withinI_bd n 9 (by omega), withinI_bd n 12 (by omega), rfl, rfl, by unfold pgC; rw [hk2]; rfl⟩
  have W1 := Lib.hid fun V => within_any n 2 V hn (by omega)
  have W2 := Lib.hid fun V => within_any (n.tdiv 2) 3 V (tdiv_i64 n 2 (by omega) hn) (by omega)
  rw [hk2] at W2
  have W3 := Lib.hid fun V => within_any (n.tdiv 6) 4 V (tdiv_i64 n 6 (by omega) hn) (by omega)
  have W4 := Lib.hid fun V => within_any (n.tdiv 24) 40 V (tdiv_i64 n 24 (by omega) hn) (by omega)
  have W5 := Lib.hid fun V => within_any n 9 V hn (by omega)
  have W6 := Lib.hid fun V => within_any n 12 V hn (by omega)
  generalize withinI n 2 = k1 at P W1
  generalize withinI (n.tdiv 6) 4 = k3 at P W3
  generalize withinI (n.tdiv 24) 40 = k4 at P W4
  generalize withinI n 9 = k5 at P W5
  generalize withinI n 12 = k6 at P W6
  exact pgw n k1 k3 k4 k5 k6 k2 w hn P W1 W2 W3 W4 W5 W6
end Go.Proofs.Ytbojmofkhkegmaa
end
section
set_option linter.unusedVariables false
set_option linter.unusedSimpArgs false
namespace Go.Proofs.Ytbojmofkhkegmaa
open Go.RowKit

def pgO (n : Int) : Bool := gOk (pgL n) (pgD n) (pgC n)
def goL (n : Int) : Int := if pgO n = true then pgL n else 5
def goD (n : Int) : Int := if pgO n = true then pgD n else 3
def goC (n : Int) : Int := if pgO n = true then pgC n else 1
theorem go_ok (n : Int) : gOk (goL n) (goD n) (goC n) = true := by
  unfold goL goD goC
  cases h : pgO n
  · rfl
  · simp; exact h
theorem below_cells {W w1 : World} (hb : Below W.heap.size W w1) : (∀ b o, b < W.heap.size → w1.cell? ⟨b, o, none⟩ = W.cell? ⟨b, o, none⟩) ∧ (∀ b o, b < W.heap.size → w1.frozen? ⟨b, o, none⟩ = W.frozen? ⟨b, o, none⟩) :=
  ⟨fun b o h => hb.cell (p := ⟨b, o, none⟩) h, fun b o h => hb.frozen (p := ⟨b, o, none⟩) h⟩
set_option maxHeartbeats 1000000 in
theorem playGood_any (n : Int) (w : World) (hn : -9223372036854775808 ≤ n ∧ n ≤ 9223372036854775807) :
    Calls Try.prog 16 #[.int .i64 n] w fun e w' => e = .returned (.agg #[.int .i64 (goL n), .int .i64 (goD n), .int .i64 (goC n)]) ∧ Below w.heap.size w w' := by
  have HP := Lib.hid (fun W => playGeom_any n W hn)
  have b := pg_bd n
  have HC := Lib.hid (fun W => refCheck_any (pgL n) (pgD n) (pgC n) W (by omega) (by omega) (by omega))
  obtain ⟨L, hL⟩ : ∃ L, L = goL n := ⟨_, rfl⟩
  obtain ⟨D, hD⟩ : ∃ D, D = goD n := ⟨_, rfl⟩
  obtain ⟨C, hC⟩ : ∃ C, C = goC n := ⟨_, rfl⟩
  have HL := Lib.hid (hL.trans (show goL n = if gOk (pgL n) (pgD n) (pgC n) = true then pgL n else 5 from rfl))
  have HD := Lib.hid (hD.trans (show goD n = if gOk (pgL n) (pgD n) (pgC n) = true then pgD n else 3 from rfl))
  have HK := Lib.hid (hC.trans (show goC n = if gOk (pgL n) (pgD n) (pgC n) = true then pgC n else 1 from rfl))
  rw [← hL, ← hD, ← hC]
  clear hL hD hC
  generalize pgL n = l at b HP HC HL HD HK
  generalize pgD n = d at b HP HC HL HD HK
  generalize pgC n = c at b HP HC HL HD HK
  generalize gOk l d c = ok at HC HL HD HK
  have G := gat_new w 0 0 0 23 (0, 0)
  go_enter Try.func16, Try.ntmps16
  go_wp2_with fail
  (with_reducible refine (HP.out _).mono ?_); rintro e w1 ⟨rfl, hb⟩
  obtain ⟨hc1, hf1⟩ := below_cells hb
  have G1 := (G.below hb (by simp)).below (below1 w1 (.cells #[.int .i64 l, .int .i64 d, .int .i64 c] 23)) (by have := hb.size; simp at this; omega)
  have hz1 : w.heap.size < w1.heap.size := by have := hb.size; simp at this; omega
  have F1 := (below1 w _).trans (hb.mono (by simp))
  clear hb
  go_wp2_with fail
  (with_reducible refine (HC.out _).mono ?_); rintro e w2 ⟨rfl, hb⟩
  obtain ⟨hc2, hf2⟩ := below_cells hb
  obtain ⟨g1, g2, g3⟩ := G1.below hb (by simp; omega)
  have hz2 : w1.heap.size < w2.heap.size := by have := hb.size; simp at this; omega
  have F2 := F1.trans (((below1 w1 _).trans (hb.mono (by simp))).mono F1.size)
  clear hb F1
  cases ok
  · go_wp2_with fail
    refine bodyPost_ret (v := .agg #[.int .i64 5, .int .i64 3, .int .i64 1]) (by simp [results, Try.results16, go_sem, g1, g2, g3]) rfl ⟨?_, ?_⟩
    · rw [HL.out, HD.out, HK.out]; rfl
    · exact ((F2.setCell (Nat.le_refl _) _).setCell (Nat.le_refl _) _).setCell (Nat.le_refl _) _
  · go_wp2_with fail
    refine bodyPost_ret (v := .agg #[.int .i64 l, .int .i64 d, .int .i64 c]) (by simp [results, Try.results16, go_sem, g1, g2, g3]) rfl ⟨?_, ?_⟩
    · rw [HL.out, HD.out, HK.out]; rfl
    · exact ((F2.setCell (Nat.le_refl _) _).setCell (Nat.le_refl _) _).setCell (Nat.le_refl _) _
end Go.Proofs.Ytbojmofkhkegmaa
end
section
namespace Go.Proofs.Ytbojmofkhkegmaa
open Go.RowKit

/-- A part of a piece of code. -/
def sub : List Nat → Code → Code
  | [], c => c
  | 0 :: p, .seq a _ => sub p a
  | _ :: p, .seq _ b => sub p b
  | _ :: p, .block _ c => sub p c
  | _ :: p, .loop c => sub p c
  | _ :: p, .scope c => sub p c
  | 0 :: p, .cond _ a _ => sub p a
  | _ :: p, .cond _ _ b => sub p b
  | _, c => c
theorem wp_block_then {P : Program} {id : Nat} {c : Code} {K : Act → World → Prop} {Q : Exit → Act → World → Prop} {a : Act} {w : World} (h : c.wp P (Exit.then K (Exit.inBlock id (Exit.then K Q))) a w) : (Code.block id c).wp P (Exit.then K Q) a w :=
  wp_block (wp_mono h fun e a w h => by cases e <;> exact h)
end Go.Proofs.Ytbojmofkhkegmaa
end
section
set_option maxRecDepth 8000
set_option linter.unusedVariables false
set_option linter.unusedSimpArgs false
namespace Go.Proofs.Ytbojmofkhkegmaa
open Go.RowKit

/-- Fill of what may be filled. -/
theorem fill_good {A : Option Addr} {rs : List (List UInt8)} {n cp D F : Nat} {l d c r : Int} {w : World} (hrd : RdR w w.heap.size A rs) (hn : rs.length = n) (hT : fillOk l d c r rs = true) (hD : roD d = D) (hF : roF l d c r = F)
    (hl : -9223372036854775808 ≤ l ∧ l ≤ 9223372036854775807) (hd : -9223372036854775808 ≤ d ∧ d ≤ 9223372036854775807) (hc : -9223372036854775808 ≤ c ∧ c ≤ 9223372036854775807) (hr : -9223372036854775808 ≤ r ∧ r ≤ 9223372036854775807) :
    Calls Try.prog 10 #[.agg #[.int .i64 l, .int .i64 d, .int .i64 c], .int .i64 r, .slice A n cp] w fun e w' => ∃ g xs, e = .returned (.tuple #[.slice (some ⟨g, 0, none⟩) D D, .bool true]) ∧ Rq w.heap.size w' g D D xs (fillL D F rs) ∧ Below w.heap.size w w' := by
  subst hD hF
  refine (fill_yes A rs n cp l d c r w hn hrd hT hl hd hc hr).mono ?_
  rintro e w' ⟨g, xs, he, hq, hb⟩
  rw [fillL_len] at he hq
  exact ⟨g, xs, he, hq, hb⟩
/-- Sectors that are made, as they are read. -/
theorem sectors_rd {A : Option Addr} {zs : List Int} {m cp n : Nat} {w : World} (hm : m = zs.length) (hr : RdZ w w.heap.size A zs) (hn : n ≤ 8) :
    Calls Try.prog 17 #[.slice A m cp, .int .i64 (n : Int)] w fun e w' => ∃ A' c', e = .returned (.slice A' n c') ∧ OwV w.heap.size w' (.slice A' n c') (sectorsB zs n) ∧ RdR w' w'.heap.size A' (sectorsB zs n) ∧ Below w.heap.size w w' :=
  (sectors_any A zs m cp n w hm hr hn).mono fun _ _ ⟨v, he, ho, hb⟩ => by
    obtain ⟨A', c', rfl, _, hrd⟩ := ho.rd (by rw [sectorsB_len]; omega)
    rw [sectorsB_len] at he ho
    exact ⟨A', c', he, ho, hrd, hb⟩
/-- A good geometry, a row of it: what stands where. -/
structure Gr (n : Int) (l c r : Int) (D F W : Nat) : Prop where
  ok : plOk l (D : Int) c r = true
  R : Ro l (D : Int) c r
  eD : roD (D : Int) = D
  eF : roF l (D : Int) c r = F
  eW : roW l (D : Int) = W
  hF : F < D
  hW : W < D
  w1 : 1 ≤ W
  w7 : W ≤ 7
  d8 : D ≤ 8
  d3 : 3 ≤ D
  lv : (l = 5 ∧ D = W + 1) ∨ (l = 6 ∧ D = W + 2)
  wd : gWid l (D : Int) c = (W : Int)
  l64 : -9223372036854775808 ≤ l ∧ l ≤ 9223372036854775807
  d64 : -9223372036854775808 ≤ (D : Int) ∧ (D : Int) ≤ 9223372036854775807
  c64 : -9223372036854775808 ≤ c ∧ c ≤ 9223372036854775807
  r64 : -9223372036854775808 ≤ r ∧ r ≤ 9223372036854775807
  r0 : 0 ≤ r ∧ r < 16
theorem gr_of (n : Int) {r : Int} (h0 : 0 ≤ r) (h1 : r < 16) : ∃ D F W : Nat, goD n = (D : Int) ∧ Gr n (goL n) (goC n) r D F W := by
  have hg := go_ok n
  have hb := gOk_bd hg
  have hok := plOk_mk hg h0 h1
  have R := ro_of hok
  obtain ⟨D, hD⟩ : ∃ D : Nat, goD n = (D : Int) := ⟨_, R.dd.symm⟩
  rw [hD] at hg hb hok R
  exact ⟨D, roF (goL n) D (goC n) r, roW (goL n) D, hD, hok, R, rfl, rfl, rfl, R.hF, R.hW, R.w1, R.w7, R.d8, R.d3, R.lv, R.wd, by omega, by omega, by omega, by omega, ⟨h0, h1⟩⟩
section
variable {n l c r : Int} {D F W : Nat}
theorem Gr.fok (h : Gr n l c r D F W) {rs : List (List UInt8)} (hl : rs.length = W) (ha : ∀ x ∈ rs, x.length = 32) : fillOk l (D : Int) c r rs = true := fillOk_mk h.ok (by rw [h.eW]; exact hl) ha
theorem Gr.fill (h : Gr n l c r D F W) {A : Option Addr} {rs : List (List UInt8)} {cp : Nat} {w : World} (hrd : RdR w w.heap.size A rs) (hl : rs.length = W) (ha : ∀ x ∈ rs, x.length = 32) :
    Calls Try.prog 10 #[.agg #[.int .i64 l, .int .i64 (D : Int), .int .i64 c], .int .i64 r, .slice A W cp] w fun e w' => ∃ g xs, e = .returned (.tuple #[.slice (some ⟨g, 0, none⟩) D D, .bool true]) ∧ Rq w.heap.size w' g D D xs (fillL D F rs) ∧ Below w.heap.size w w' :=
  fill_good hrd hl (h.fok hl ha) h.eD h.eF h.l64 h.d64 h.c64 h.r64
theorem Gr.take (h : Gr n l c r D F W) {A : Option Addr} {xs : List (List UInt8)} {cp : Nat} {w : World} (hrd : RdR w w.heap.size A xs) (hl : xs.length = D) :
    Calls Try.prog 14 #[.agg #[.int .i64 l, .int .i64 (D : Int), .int .i64 c], .int .i64 r, .slice A D cp] w (SolveR w (roTake l (D : Int) c r xs)) :=
  take_any A xs D cp l D c r w hl (by have := h.d8; omega) hrd h.l64 h.d64 h.c64 h.r64
theorem Gr.right (h : Gr n l c r D F W) {A : Option Addr} {xs : List (List UInt8)} {cp : Nat} {w : World} (hrd : RdR w w.heap.size A xs) (hl : xs.length = D) :
    Calls Try.prog 12 #[.agg #[.int .i64 l, .int .i64 (D : Int), .int .i64 c], .int .i64 r, .slice A D cp] w fun e w' => e = .returned (.bool (roRight l (D : Int) c r xs)) ∧ Below w.heap.size w w' :=
  right_any A xs D cp l D c r w hl (by have := h.d8; omega) hrd h.l64 h.d64 h.c64 h.r64
theorem Gr.fills (h : Gr n l c r D F W) {rs : List (List UInt8)} (hl : rs.length = W) (ha : ∀ x ∈ rs, x.length = 32) {i : Nat} (hi : i < D) : ((fillL D F rs).getD i []).length = 32 := by
  have := fill_32 (h.fok hl ha) (i := i) (by rw [h.eD]; exact hi)
  rwa [h.eD, h.eF] at this
end
end Go.Proofs.Ytbojmofkhkegmaa
end
section
namespace Go.Proofs.Ytbojmofkhkegmaa
open Go.ChangeShapes Go.WideShapes Go.ChangeAt Go.RowKit

theorem laidOut : laidOutB Try.prog = true := by kernel_rfl
theorem own : ownKnob Try.prog.godebug = none := by kernel_rfl
theorem below_same {W W' : World} (h : W' = W) : Below W.heap.size W W' := by subst h; exact Below.refl _ _
end Go.Proofs.Ytbojmofkhkegmaa
end
section
namespace Go.Proofs.Ytbojmofkhkegmaa
open Go.ChangeShapes Go.WideShapes Go.ChangeAt Go.RowKit Go.Deep

section
variable {H : Type} {enc : TypeId × Value → H} {P : Program}
theorem addr_of {W : World} {x : Addr} {u : Value} (h : W.cell? (x.add 0) = some u) : ∃ b off, x = ⟨b, off, none⟩ ∧ b < W.heap.size := by
  obtain ⟨b, off, spot⟩ := x
  have hspot : spot = none := by simpa [Addr.add] using World.cell?_spot h
  subst hspot
  have := World.block_lt_of_cell? _ _ h
  exact ⟨b, off, rfl, by simpa [Addr.add] using this⟩
theorem addr_add (b off k : Nat) : ((⟨b, off, none⟩ : Addr).add k) = ⟨b, off + k, none⟩ := by unfold Addr.add; by_cases hk0 : k = 0 <;> simp [hk0]
/-- A slice of bools that came in. -/
theorem open_rdo {t e : TypeId} (ht : P.underlying t = some (.slice e)) (he : P.underlying e = some .bool) (hc : P.cellsOf e = 1) {r : Reach} {W : World} {base : Nat} {v : Value} {d : DataW H} {p : List MemPlace}
    (hv : Value.okWide P W r base t v) (h : DataW.Trod enc P W 0 (fun _ => true) true t v d p) : ∃ A ks cap, v = .slice A ks.length cap ∧ ks.length ≤ cap ∧ RdO W W.heap.size A ks := by
  obtain ⟨A, len, cap, rfl⟩ := okWide_slice ht hv
  obtain ⟨fuel, hf⟩ := h
  rcases open_bools ht he hc hf with ⟨hcs, _⟩ | ⟨x, l, c, B, hcs, _, hl, hm, _, hcell⟩
  · simp [Value.cells] at hcs
    obtain ⟨rfl, rfl, rfl⟩ := hcs
    exact ⟨none, [], 0, rfl, Nat.le_refl _, RdO.nil _ _ _⟩
  · simp [Value.cells] at hcs
    obtain ⟨rfl, rfl, rfl⟩ := hcs
    have hL : ((List.range len).map B).length = len := by simp
    refine ⟨some x, (List.range len).map B, cap, by rw [hL], by rw [hL]; exact hl, by rw [hL]; unfold maxLen at hm; omega, fun hn => ?_⟩
    rw [hL] at hn
    obtain ⟨b, off, rfl, hb⟩ := addr_of (hcell 0 (by omega))
    refine ⟨b, off, rfl, hb, fun k hk => ?_⟩
    rw [hL] at hk
    have := hcell k (by omega)
    rw [addr_add] at this
    rw [this]
    simp [hk]
/-- A slice of whole numbers that came in. -/
theorem open_rdz {t e : TypeId} (ht : P.underlying t = some (.slice e)) (he : P.underlying e = some (.int .i64)) (hc : P.cellsOf e = 1) {r : Reach} {W : World} {base : Nat} {v : Value} {d : DataW H} {p : List MemPlace}
    (hv : Value.okWide P W r base t v) (h : DataW.Trod enc P W 0 (fun _ => true) true t v d p) : ∃ A zs cap, v = .slice A zs.length cap ∧ zs.length ≤ cap ∧ RdZ W W.heap.size A zs := by
  obtain ⟨A, len, cap, rfl⟩ := okWide_slice ht hv
  obtain ⟨fuel, hf⟩ := h
  rcases open_ints ht he hc hf with ⟨hcs, _⟩ | ⟨x, l, c, zs, hcs, _, hl, hm, hz, hd, hcell, hwz⟩
  · simp [Value.cells] at hcs
    obtain ⟨rfl, rfl, rfl⟩ := hcs
    exact ⟨none, [], 0, rfl, Nat.le_refl _, RdZ.nil _ _ _⟩
  · simp [Value.cells] at hcs
    obtain ⟨rfl, rfl, rfl⟩ := hcs
    simp only [if_true] at hz
    have hL : (zs.take len).length = len := by rw [List.length_take]; omega
    refine ⟨some x, zs.take len, cap, by rw [hL], by rw [hL]; exact hl, by rw [hL]; unfold maxLen at hm; omega, fun z hz => bounds_i64 (hwz z (List.mem_of_mem_take hz)), fun hn => ?_⟩
    rw [hL] at hn
    obtain ⟨b, off, rfl, hb⟩ := addr_of (hcell 0 (by omega))
    refine ⟨b, off, rfl, hb, fun k hk => ?_⟩
    rw [hL] at hk
    have := hcell k (by omega)
    rw [addr_add] at this
    rw [this]
    simp [hk]
end
end Go.Proofs.Ytbojmofkhkegmaa
end
