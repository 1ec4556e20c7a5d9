/- Texts put together: PlayGeo, PlayGood, Sub, RowKit, DskMath, Chg, DskMem. -/
import Derived.Test.YtenkkdnepmoihaaGreatDoorUrah
import Derived.Test.YtenkkdnepmoihaaGreatDoorUrab
import Derived.Test.YtenkkdnepmoihaaGreatDoorUraa
import Derived.Deep.LoopGhost
import Derived.Deep.DeepCutAuto
import Derived.Deep.CutBlock
import Derived.Carry
import Derived.Deep.MidRow
section
set_option linter.unusedVariables false
set_option linter.unusedSimpArgs false
namespace Go.Proofs.YtenkkdnepmoihaaGreatDoor
open Go.RowKit

/-- The chunks there are. -/
def chk (k : Int) : Int := if k = 0 then 1 else if k = 1 then 2 else 4
def pgE (n : Int) : Int := withinI (n.tdiv 24) 40
def pgL (n : Int) : Int := if pgE n = 36 then withinI n 9 else 5 + withinI n 2
def pgD (n : Int) : Int := if pgE n = 37 then withinI n 12 - 1 else if pgE n = 39 then 8 else if withinI n 2 = 1 then 4 + withinI (n.tdiv 6) 4 else 3 + withinI (n.tdiv 6) 4
def pgC (n : Int) : Int := if pgE n = 38 then withinI n 9 - 1 else chk (withinI (n.tdiv 2) 3)
theorem pg_bd (n : Int) : (0 ≤ pgL n ∧ pgL n ≤ 8) ∧ (-1 ≤ pgD n ∧ pgD n ≤ 10) ∧ (-1 ≤ pgC n ∧ pgC n ≤ 7) := by
  have b1 := withinI_bd n 2 (by omega)
  have b3 := withinI_bd (n.tdiv 6) 4 (by omega)
  have b5 := withinI_bd n 9 (by omega)
  have b6 := withinI_bd n 12 (by omega)
  refine ⟨?_, ?_, ?_⟩
  · unfold pgL; split <;> omega
  · unfold pgD; split
    · omega
    · split
      · omega
      · split <;> omega
  · unfold pgC chk; split
    · omega
    · split
      · omega
      · split <;> omega
theorem tdiv_nonneg_bd (m k : Int) (hm : 0 ≤ m) (hk : 1 ≤ k) : 0 ≤ m.tdiv k ∧ m.tdiv k ≤ m :=
  ⟨Int.tdiv_nonneg hm (by omega), Int.tdiv_le_self _ hm⟩
theorem tdiv_i64 (n k : Int) (hk : 1 ≤ k) (hn : -9223372036854775808 ≤ n ∧ n ≤ 9223372036854775807) : -9223372036854775808 ≤ n.tdiv k ∧ n.tdiv k ≤ 9223372036854775807 := by
  by_cases h : 0 ≤ n
  · have := tdiv_nonneg_bd n k h hk; omega
  · have := tdiv_nonneg_bd (-n) k (by omega) hk
    rw [Int.neg_tdiv] at this
    omega
theorem chk_cell (w : World) (k : Nat) (hk : k < 3) (t : TypeId) : (w.alloc (.cells #[.int .i64 1, .int .i64 2, .int .i64 4] t)).cell? ⟨w.heap.size, k, none⟩ = some (.int .i64 (chk k)) := by
  have c := fun i => cell_of_row _ _ i _ _ _ (heap_alloc_new w (.cells #[.int .i64 1, .int .i64 2, .int .i64 4] t))
  match k, hk with
  | 0, _ => exact c 0
  | 1, _ => exact c 1
  | 2, _ => exact c 2
/-- What is known of a number's parts. -/
structure PG (n : Int) (k1 : Int) (k2 : Nat) (k3 k4 k5 k6 : Int) : Prop where
  b1 : 0 ≤ k1 ∧ k1 < 2
  b2 : k2 < 3
  b3 : 0 ≤ k3 ∧ k3 < 4
  b4 : 0 ≤ k4 ∧ k4 < 40
  b5 : 0 ≤ k5 ∧ k5 < 9
  b6 : 0 ≤ k6 ∧ k6 < 12
  l : pgL n = if k4 = 36 then k5 else 5 + k1
  d : pgD n = if k4 = 37 then k6 - 1 else if k4 = 39 then 8 else if k1 = 1 then 4 + k3 else 3 + k3
  c : pgC n = if k4 = 38 then k5 - 1 else chk k2
set_option maxHeartbeats 2000000 in
theorem pgw (n : Int) (k1 k3 k4 k5 k6 : Int) (k2 : Nat) (w : World) (hn : -9223372036854775808 ≤ n ∧ n ≤ 9223372036854775807) (P : PG n k1 k2 k3 k4 k5 k6) (W1 : Hid (∀ V, Calls Tryz.prog 10 #[.int .i64 (n), .int .i64 2] V fun e w' => e = .returned (.int .i64 k1) ∧ w' = V)) (W2 : Hid (∀ V, Calls Tryz.prog 10 #[.int .i64 (n.tdiv 2), .int .i64 3] V fun e w' => e = .returned (.int .i64 (k2 : Int)) ∧ w' = V)) (W3 : Hid (∀ V, Calls Tryz.prog 10 #[.int .i64 (n.tdiv 6), .int .i64 4] V fun e w' => e = .returned (.int .i64 k3) ∧ w' = V)) (W4 : Hid (∀ V, Calls Tryz.prog 10 #[.int .i64 (n.tdiv 24), .int .i64 40] V fun e w' => e = .returned (.int .i64 k4) ∧ w' = V)) (W5 : Hid (∀ V, Calls Tryz.prog 10 #[.int .i64 (n), .int .i64 9] V fun e w' => e = .returned (.int .i64 k5) ∧ w' = V)) (W6 : Hid (∀ V, Calls Tryz.prog 10 #[.int .i64 (n), .int .i64 12] V fun e w' => e = .returned (.int .i64 k6) ∧ w' = V)) :
    Calls Tryz.prog 36 #[.int .i64 n] w fun e w' => e = .returned (.agg #[.int .i64 (pgL n), .int .i64 (pgD n), .int .i64 (pgC n)]) ∧ Below w.heap.size w w' := by
  obtain ⟨b1, b2, b3, b4, b5, b6, hl, hd, hc⟩ := P
  have HL := Lib.hid hl
  have HD := Lib.hid hd
  have HC := Lib.hid hc
  have HB := Lib.hid b4
  obtain ⟨D0, hD⟩ : ∃ D0 : Int, D0 = if k1 = 1 then 4 + k3 else 3 + k3 := ⟨_, rfl⟩
  have bD : 3 ≤ D0 ∧ D0 ≤ 7 := by rw [hD]; split <;> omega
  have HE := Lib.hid hD
  have q2 : (0 : Int) ≤ (k2 : Int) ∧ (k2 : Int) < 3 := by omega
  have hcell := chk_cell (w.alloc (.cells #[.int .i64 0, .int .i64 0, .int .i64 0] 24)) k2 b2 3
  rw [show (w.alloc (.cells #[.int .i64 0, .int .i64 0, .int .i64 0] 24)).heap.size = w.heap.size + 1 by simp] at hcell
  have HX : Hid (∃ ck, ck = chk k2) := Lib.hid ⟨_, rfl⟩
  generalize chk k2 = ck at hcell HC
  clear hl hd hc hD b4 HX
  go_enter Tryz.func36, Tryz.ntmps36
  go_wp2_with fail
  (with_reducible refine (W1.out _).mono ?_); rintro e w' ⟨rfl, rfl⟩
  go_wp2_with fail
  (with_reducible refine (W2.out _).mono ?_); rintro e w' ⟨rfl, rfl⟩
  go_wp2_with fail
  (with_reducible refine (W3.out _).mono ?_); rintro e w' ⟨rfl, rfl⟩
  clear hcell
  go_upto_if 25 with fail
  go_cut [25] (fun _ W => W = (((w.alloc (.cells #[.int .i64 0, .int .i64 0, .int .i64 0] 24)).alloc (.cells #[.int .i64 1, .int .i64 2, .int .i64 4] 3)).alloc (.cells #[.int .i64 (5 + k1), .int .i64 D0, .int .i64 ck] 24)))
  case first =>
    by_cases h1 : k1 = 1
    · subst h1
      obtain rfl : D0 = 4 + k3 := HE.out.trans (if_pos rfl)
      go_wp2_with fail
      (with_reducible refine (W3.out _).mono ?_); rintro e w' ⟨rfl, rfl⟩
      go_wp2_with fail
      go_meet
      exact rfl
    · obtain rfl : k1 = 0 := by omega
      obtain rfl : D0 = 3 + k3 := HE.out.trans (if_neg (by decide))
      clear h1
      go_wp2_with fail
      go_meet
      exact rfl
  case rest =>
    subst hcut
    by_cases h36 : k4 = 36
    · subst h36
      have H1 := Lib.hid (show k5 = pgL n by rw [HL.out]; simp)
      have H2 := Lib.hid (show D0 = pgD n by rw [HD.out, HE.out]; simp)
      have H3 := Lib.hid (show ck = pgC n by rw [HC.out]; simp)
      go_wp2_with fail
      (with_reducible refine (W4.out _).mono ?_); rintro e w' ⟨rfl, rfl⟩
      go_wp2_with fail
      (with_reducible refine (W5.out _).mono ?_); rintro e w' ⟨rfl, rfl⟩
      go_wp2_with fail
      refine bodyPost_ret (v := .agg #[.int .i64 (k5), .int .i64 (D0), .int .i64 (ck)]) (by simp [results, Tryz.results36, go_sem]) rfl ⟨?_, below3 _ _ _ _⟩
      rw [H1.out, H2.out, H3.out]
    by_cases h37 : k4 = 37
    · subst h37
      have H1 := Lib.hid (show 5 + k1 = pgL n by rw [HL.out]; simp)
      have H2 := Lib.hid (show k6 - 1 = pgD n by rw [HD.out]; simp)
      have H3 := Lib.hid (show ck = pgC n by rw [HC.out]; simp)
      go_wp2_with fail
      (with_reducible refine (W4.out _).mono ?_); rintro e w' ⟨rfl, rfl⟩
      go_wp2_with fail
      (with_reducible refine (W6.out _).mono ?_); rintro e w' ⟨rfl, rfl⟩
      go_wp2_with fail
      refine bodyPost_ret (v := .agg #[.int .i64 (5 + k1), .int .i64 (k6 - 1), .int .i64 (ck)]) (by simp [results, Tryz.results36, go_sem]) rfl ⟨?_, below3 _ _ _ _⟩
      rw [H1.out, H2.out, H3.out]
    by_cases h38 : k4 = 38
    · subst h38
      have H1 := Lib.hid (show 5 + k1 = pgL n by rw [HL.out]; simp)
      have H2 := Lib.hid (show D0 = pgD n by rw [HD.out, HE.out]; simp)
      have H3 := Lib.hid (show k5 - 1 = pgC n by rw [HC.out]; simp)
      go_wp2_with fail
      (with_reducible refine (W4.out _).mono ?_); rintro e w' ⟨rfl, rfl⟩
      go_wp2_with fail
      (with_reducible refine (W5.out _).mono ?_); rintro e w' ⟨rfl, rfl⟩
      go_wp2_with fail
      refine bodyPost_ret (v := .agg #[.int .i64 (5 + k1), .int .i64 (D0), .int .i64 (k5 - 1)]) (by simp [results, Tryz.results36, go_sem]) rfl ⟨?_, below3 _ _ _ _⟩
      rw [H1.out, H2.out, H3.out]
    by_cases h39 : k4 = 39
    · subst h39
      have H1 := Lib.hid (show 5 + k1 = pgL n by rw [HL.out]; simp)
      have H2 := Lib.hid (show 8 = pgD n by rw [HD.out]; simp)
      have H3 := Lib.hid (show ck = pgC n by rw [HC.out]; simp)
      go_wp2_with fail
      (with_reducible refine (W4.out _).mono ?_); rintro e w' ⟨rfl, rfl⟩
      go_wp2_with fail
      refine bodyPost_ret (v := .agg #[.int .i64 (5 + k1), .int .i64 (8), .int .i64 (ck)]) (by simp [results, Tryz.results36, go_sem]) rfl ⟨?_, below3 _ _ _ _⟩
      rw [H1.out, H2.out, H3.out]
    have e36 : (k4 == 36) = false := ibeq_no h36
    have e37 : (k4 == 37) = false := ibeq_no h37
    have e38 : (k4 == 38) = false := ibeq_no h38
    have e39 : (k4 == 39) = false := ibeq_no h39
    have H1 := Lib.hid (show 5 + k1 = pgL n by rw [HL.out]; simp [h36])
    have H2 := Lib.hid (show D0 = pgD n by rw [HD.out, HE.out]; simp [h37, h39])
    have H3 := Lib.hid (show ck = pgC n by rw [HC.out]; simp [h38])
    clear h36 h37 h38 h39
    go_wp2_with fail
    (with_reducible refine (W4.out _).mono ?_); rintro e w' ⟨rfl, rfl⟩
    go_wp2_with fail
    refine bodyPost_ret (v := .agg #[.int .i64 (5 + k1), .int .i64 (D0), .int .i64 (ck)]) (by simp [results, Tryz.results36, go_sem]) rfl ⟨?_, below3 _ _ _ _⟩
    rw [H1.out, H2.out, H3.out]
theorem playGeom_any (n : Int) (w : World) (hn : -9223372036854775808 ≤ n ∧ n ≤ 9223372036854775807) :
    Calls Tryz.prog 36 #[.int .i64 n] w fun e w' => e = .returned (.agg #[.int .i64 (pgL n), .int .i64 (pgD n), .int .i64 (pgC n)]) ∧ Below w.heap.size w w' := by
  have b2 := withinI_bd (n.tdiv 2) 3 (by omega)
  obtain ⟨k2, hk2⟩ := Int.eq_ofNat_of_zero_le b2.1
  have P : PG n (withinI n 2) k2 (withinI (n.tdiv 6) 4) (withinI (n.tdiv 24) 40) (withinI n 9) (withinI n 12) :=
    ⟨withinI_bd n 2 (by omega), by omega, withinI_bd _ 4 (by omega), withinI_bd _ 40 (by omega), withinI_bd n 9 (by omega), withinI_bd n 12 (by omega), rfl, rfl, by unfold pgC; rw [hk2]; rfl⟩
  have W1 := Lib.hid fun V => within_any n 2 V hn (by omega)
  have W2 := Lib.hid fun V => within_any (n.tdiv 2) 3 V (tdiv_i64 n 2 (by omega) hn) (by omega)
  rw [hk2] at W2
  have W3 := Lib.hid fun V => within_any (n.tdiv 6) 4 V (tdiv_i64 n 6 (by omega) hn) (by omega)
  have W4 := Lib.hid fun V => within_any (n.tdiv 24) 40 V (tdiv_i64 n 24 (by omega) hn) (by omega)
  have W5 := Lib.hid fun V => within_any n 9 V hn (by omega)
  have W6 := Lib.hid fun V => within_any n 12 V hn (by omega)
  generalize withinI n 2 = k1 at P W1
  generalize withinI (n.tdiv 6) 4 = k3 at P W3
  generalize withinI (n.tdiv 24) 40 = k4 at P W4
  generalize withinI n 9 = k5 at P W5
  generalize withinI n 12 = k6 at P W6
  exact pgw n k1 k3 k4 k5 k6 k2 w hn P W1 W2 W3 W4 W5 W6
end Go.Proofs.YtenkkdnepmoihaaGreatDoor
end
section
set_option linter.unusedVariables false
set_option linter.unusedSimpArgs false
namespace Go.Proofs.YtenkkdnepmoihaaGreatDoor
open Go.RowKit

def pgO (n : Int) : Bool := gOk (pgL n) (pgD n) (pgC n)
def goL (n : Int) : Int := if pgO n = true then pgL n else 5
def goD (n : Int) : Int := if pgO n = true then pgD n else 3
def goC (n : Int) : Int := if pgO n = true then pgC n else 1
theorem go_ok (n : Int) : gOk (goL n) (goD n) (goC n) = true := by
  unfold goL goD goC
  cases h : pgO n
  · rfl
  · simp; exact h
theorem below_cells {W w1 : World} (hb : Below W.heap.size W w1) : (∀ b o, b < W.heap.size → w1.cell? ⟨b, o, none⟩ = W.cell? ⟨b, o, none⟩) ∧ (∀ b o, b < W.heap.size → w1.frozen? ⟨b, o, none⟩ = W.frozen? ⟨b, o, none⟩) :=
  ⟨fun b o h => hb.cell (p := ⟨b, o, none⟩) h, fun b o h => hb.frozen (p := ⟨b, o, none⟩) h⟩
set_option maxHeartbeats 1000000 in
theorem playGood_any (n : Int) (w : World) (hn : -9223372036854775808 ≤ n ∧ n ≤ 9223372036854775807) :
    Calls Tryz.prog 7 #[.int .i64 n] w fun e w' => e = .returned (.agg #[.int .i64 (goL n), .int .i64 (goD n), .int .i64 (goC n)]) ∧ Below w.heap.size w w' := by
  have HP := Lib.hid (fun W => playGeom_any n W hn)
  have b := pg_bd n
  have HC := Lib.hid (fun W => refCheck_any (pgL n) (pgD n) (pgC n) W (by omega) (by omega) (by omega))
  obtain ⟨L, hL⟩ : ∃ L, L = goL n := ⟨_, rfl⟩
  obtain ⟨D, hD⟩ : ∃ D, D = goD n := ⟨_, rfl⟩
  obtain ⟨C, hC⟩ : ∃ C, C = goC n := ⟨_, rfl⟩
  have HL := Lib.hid (hL.trans (show goL n = if gOk (pgL n) (pgD n) (pgC n) = true then pgL n else 5 from rfl))
  have HD := Lib.hid (hD.trans (show goD n = if gOk (pgL n) (pgD n) (pgC n) = true then pgD n else 3 from rfl))
  have HK := Lib.hid (hC.trans (show goC n = if gOk (pgL n) (pgD n) (pgC n) = true then pgC n else 1 from rfl))
  rw [← hL, ← hD, ← hC]
  clear hL hD hC
  generalize pgL n = l at b HP HC HL HD HK
  generalize pgD n = d at b HP HC HL HD HK
  generalize pgC n = c at b HP HC HL HD HK
  generalize gOk l d c = ok at HC HL HD HK
  have G := gat_new w 0 0 0 24 (0, 0)
  go_enter Tryz.func7, Tryz.ntmps7
  go_wp2_with fail
  (with_reducible refine (HP.out _).mono ?_); rintro e w1 ⟨rfl, hb⟩
  obtain ⟨hc1, hf1⟩ := below_cells hb
  have G1 := (G.below hb (by simp)).below (below1 w1 (.cells #[.int .i64 l, .int .i64 d, .int .i64 c] 24)) (by have := hb.size; simp at this; omega)
  have hz1 : w.heap.size < w1.heap.size := by have := hb.size; simp at this; omega
  have F1 := (below1 w _).trans (hb.mono (by simp))
  clear hb
  go_wp2_with fail
  (with_reducible refine (HC.out _).mono ?_); rintro e w2 ⟨rfl, hb⟩
  obtain ⟨hc2, hf2⟩ := below_cells hb
  obtain ⟨g1, g2, g3⟩ := G1.below hb (by simp; omega)
  have hz2 : w1.heap.size < w2.heap.size := by have := hb.size; simp at this; omega
  have F2 := F1.trans (((below1 w1 _).trans (hb.mono (by simp))).mono F1.size)
  clear hb F1
  cases ok
  · go_wp2_with fail
    refine bodyPost_ret (v := .agg #[.int .i64 5, .int .i64 3, .int .i64 1]) (by simp [results, Tryz.results7, go_sem, g1, g2, g3]) rfl ⟨?_, ?_⟩
    · rw [HL.out, HD.out, HK.out]; rfl
    · exact ((F2.setCell (Nat.le_refl _) _).setCell (Nat.le_refl _) _).setCell (Nat.le_refl _) _
  · go_wp2_with fail
    refine bodyPost_ret (v := .agg #[.int .i64 l, .int .i64 d, .int .i64 c]) (by simp [results, Tryz.results7, go_sem, g1, g2, g3]) rfl ⟨?_, ?_⟩
    · rw [HL.out, HD.out, HK.out]; rfl
    · exact ((F2.setCell (Nat.le_refl _) _).setCell (Nat.le_refl _) _).setCell (Nat.le_refl _) _
end Go.Proofs.YtenkkdnepmoihaaGreatDoor
end
section
namespace Go.Proofs.YtenkkdnepmoihaaGreatDoor
open Go.RowKit

/-- A part of a piece of code. -/
def sub : List Nat → Code → Code
  | [], c => c
  | 0 :: p, .seq a _ => sub p a
  | _ :: p, .seq _ b => sub p b
  | _ :: p, .block _ c => sub p c
  | _ :: p, .loop c => sub p c
  | _ :: p, .scope c => sub p c
  | 0 :: p, .cond _ a _ => sub p a
  | _ :: p, .cond _ _ b => sub p b
  | _, c => c
end Go.Proofs.YtenkkdnepmoihaaGreatDoor
end
section
set_option maxRecDepth 8000
set_option linter.unusedVariables false
set_option linter.unusedSimpArgs false
namespace Go.Proofs.YtenkkdnepmoihaaGreatDoor
open Go.RowKit

/-- Sectors that are made, as they are read. -/
theorem sectors_rd {A : Option Addr} {zs : List Int} {m cp n : Nat} {w : World} (hm : m = zs.length) (hr : RdZ w w.heap.size A zs) (hn : n ≤ 8) :
    Calls Tryz.prog 40 #[.slice A m cp, .int .i64 (n : Int)] w fun e w' => ∃ A' c', e = .returned (.slice A' n c') ∧ OwV w.heap.size w' (.slice A' n c') (sectorsB zs n) ∧ RdR w' w'.heap.size A' (sectorsB zs n) ∧ Below w.heap.size w w' :=
  (sectors_any A zs m cp n w hm hr hn).mono fun _ _ ⟨v, he, ho, hb⟩ => by
    obtain ⟨A', c', rfl, _, hrd⟩ := ho.rd (by rw [sectorsB_len]; omega)
    rw [sectorsB_len] at he ho
    exact ⟨A', c', he, ho, hrd, hb⟩
/-- A good geometry, a row of it: what stands where. -/
structure Gr (n : Int) (l c r : Int) (D F W : Nat) : Prop where
  ok : plOk l (D : Int) c r = true
  R : Ro l (D : Int) c r
  eD : roD (D : Int) = D
  eF : roF l (D : Int) c r = F
  eW : roW l (D : Int) = W
  hF : F < D
  hW : W < D
  w1 : 1 ≤ W
  w7 : W ≤ 7
  d8 : D ≤ 8
  d3 : 3 ≤ D
  lv : (l = 5 ∧ D = W + 1) ∨ (l = 6 ∧ D = W + 2)
  wd : gWid l (D : Int) c = (W : Int)
  l64 : -9223372036854775808 ≤ l ∧ l ≤ 9223372036854775807
  d64 : -9223372036854775808 ≤ (D : Int) ∧ (D : Int) ≤ 9223372036854775807
  c64 : -9223372036854775808 ≤ c ∧ c ≤ 9223372036854775807
  r64 : -9223372036854775808 ≤ r ∧ r ≤ 9223372036854775807
  r0 : 0 ≤ r ∧ r < 16
theorem gr_of (n : Int) {r : Int} (h0 : 0 ≤ r) (h1 : r < 16) : ∃ D F W : Nat, goD n = (D : Int) ∧ Gr n (goL n) (goC n) r D F W := by
  have hg := go_ok n
  have hb := gOk_bd hg
  have hok := plOk_mk hg h0 h1
  have R := ro_of hok
  obtain ⟨D, hD⟩ : ∃ D : Nat, goD n = (D : Int) := ⟨_, R.dd.symm⟩
  rw [hD] at hg hb hok R
  exact ⟨D, roF (goL n) D (goC n) r, roW (goL n) D, hD, hok, R, rfl, rfl, rfl, R.hF, R.hW, R.w1, R.w7, R.d8, R.d3, R.lv, R.wd, by omega, by omega, by omega, by omega, ⟨h0, h1⟩⟩
section
variable {n l c r : Int} {D F W : Nat}
theorem Gr.fok (h : Gr n l c r D F W) {rs : List (List UInt8)} (hl : rs.length = W) (ha : ∀ x ∈ rs, x.length = 32) : fillOk l (D : Int) c r rs = true := fillOk_mk h.ok (by rw [h.eW]; exact hl) ha
theorem Gr.take (h : Gr n l c r D F W) {A : Option Addr} {xs : List (List UInt8)} {cp : Nat} {w : World} (hrd : RdR w w.heap.size A xs) (hl : xs.length = D) :
    Calls Tryz.prog 66 #[.agg #[.int .i64 l, .int .i64 (D : Int), .int .i64 c], .int .i64 r, .slice A D cp] w (SolveR w (roTake l (D : Int) c r xs)) :=
  take_any A xs D cp l D c r w hl (by have := h.d8; omega) hrd h.l64 h.d64 h.c64 h.r64
theorem Gr.right (h : Gr n l c r D F W) {A : Option Addr} {xs : List (List UInt8)} {cp : Nat} {w : World} (hrd : RdR w w.heap.size A xs) (hl : xs.length = D) :
    Calls Tryz.prog 35 #[.agg #[.int .i64 l, .int .i64 (D : Int), .int .i64 c], .int .i64 r, .slice A D cp] w fun e w' => e = .returned (.bool (roRight l (D : Int) c r xs)) ∧ Below w.heap.size w w' :=
  right_any A xs D cp l D c r w hl (by have := h.d8; omega) hrd h.l64 h.d64 h.c64 h.r64
theorem Gr.fills (h : Gr n l c r D F W) {rs : List (List UInt8)} (hl : rs.length = W) (ha : ∀ x ∈ rs, x.length = 32) {i : Nat} (hi : i < D) : ((fillL D F rs).getD i []).length = 32 := by
  have := fill_32 (h.fok hl ha) (i := i) (by rw [h.eD]; exact hi)
  rwa [h.eD, h.eF] at this
end
end Go.Proofs.YtenkkdnepmoihaaGreatDoor
end
section
namespace Go.Proofs.YtenkkdnepmoihaaGreatDoor

/-- Sector k of all bytes. -/
def secAt (L : List UInt8) (k : Nat) : List UInt8 := (L.drop (k * 32)).take 32
/-- All bytes with sector k set. -/
def putAt (L : List UInt8) (k : Nat) (x : List UInt8) : List UInt8 := L.take (k * 32) ++ x ++ L.drop (k * 32 + 32)
theorem putAt_get {L x : List UInt8} {k : Nat} (hL : k * 32 + 32 ≤ L.length) (hx : x.length = 32) (i : Nat) : (putAt L k x)[i]? = if i < k * 32 then L[i]? else if i < k * 32 + 32 then x[i - k * 32]? else L[i]? := by
  have h1 : (L.take (k * 32)).length = k * 32 := by rw [List.length_take]; omega
  unfold putAt
  by_cases c : i < k * 32
  · rw [if_pos c, List.append_assoc, List.getElem?_append_left (by omega), List.getElem?_take, if_pos c]
  · rw [if_neg c]
    by_cases c2 : i < k * 32 + 32
    · rw [if_pos c2, List.append_assoc, List.getElem?_append_right (by omega), h1, List.getElem?_append_left (by omega)]
    · rw [if_neg c2, List.getElem?_append_right (by rw [List.length_append]; omega), List.length_append, h1, hx, List.getElem?_drop]
      congr 1
      omega
theorem putAt_len {L x : List UInt8} {k n : Nat} (hL : L.length = n) (hk : k * 32 + 32 ≤ n) (hx : x.length = 32) : (putAt L k x).length = n := by
  unfold putAt; simp; omega
theorem secAt_len {L : List UInt8} {k : Nat} (hL : k * 32 + 32 ≤ L.length) : (secAt L k).length = 32 := by unfold secAt; simp; omega
theorem secAt_get (L : List UInt8) (k i : Nat) : (secAt L k)[i]? = if i < 32 then L[k * 32 + i]? else none := by
  unfold secAt
  rw [List.getElem?_take]
  split
  · rw [List.getElem?_drop]
  · rfl
theorem sec_put_same {L x : List UInt8} {k : Nat} (hl : L.length = 1664) (hk : k < 52) (hx : x.length = 32) : secAt (putAt L k x) k = x := by
  have hL : k * 32 + 32 ≤ L.length := by omega
  apply List.ext_getElem?
  intro i
  rw [secAt_get]
  split
  · rw [putAt_get hL hx, if_neg (by omega), if_pos (by omega)]
    congr 1
    omega
  · rw [List.getElem?_eq_none (by omega)]
theorem sec_put_other {L x : List UInt8} {k j : Nat} (hl : L.length = 1664) (hk : k < 52) (hx : x.length = 32) (hne : j ≠ k) : secAt (putAt L k x) j = secAt L j := by
  have hL : k * 32 + 32 ≤ L.length := by omega
  apply List.ext_getElem?
  intro i
  rw [secAt_get, secAt_get]
  split
  · rw [putAt_get hL hx]
    by_cases c : j * 32 + i < k * 32
    · rw [if_pos c]
    · rw [if_neg c, if_neg (by omega)]
  · rfl
theorem put_sec {L : List UInt8} {k : Nat} : putAt L k (secAt L k) = L := by
  unfold putAt secAt
  rw [List.append_assoc, ← List.drop_drop, List.take_append_drop, List.take_append_drop]
theorem sec_ext {L M : List UInt8} (hL : L.length = 1664) (hM : M.length = 1664) (h : ∀ k, k < 52 → secAt L k = secAt M k) : L = M := by
  apply List.ext_getElem?
  intro i
  by_cases hi : i < 1664
  · have h1 := h (i / 32) (by omega)
    have h2 : (secAt L (i / 32))[i % 32]? = (secAt M (i / 32))[i % 32]? := by rw [h1]
    rw [secAt_get, secAt_get, if_pos (by omega), if_pos (by omega), show i / 32 * 32 + i % 32 = i by omega] at h2
    exact h2
  · rw [List.getElem?_eq_none (by omega), List.getElem?_eq_none (by omega)]

/-- All bytes with these writes done, in order. -/
def nowOf (S : List UInt8) (ps : List (Nat × List UInt8)) : List UInt8 := ps.foldl (fun L p => putAt L p.1 p.2) S
/-- What was written there last. -/
def lastOf : List (Nat × List UInt8) → Nat → Option (List UInt8)
  | [], _ => none
  | p :: ps, k => match lastOf ps k with | some x => some x | none => if p.1 = k then some p.2 else none
theorem lastOf_cons (p : Nat × List UInt8) (ps : List (Nat × List UInt8)) (k : Nat) : lastOf (p :: ps) k = match lastOf ps k with | some x => some x | none => if p.1 = k then some p.2 else none := rfl
def WOk (ps : List (Nat × List UInt8)) : Prop := ∀ p ∈ ps, p.1 < 52 ∧ p.2.length = 32
theorem WOk.nil : WOk [] := fun _ h => by cases h
theorem WOk.cons {p : Nat × List UInt8} {ps : List (Nat × List UInt8)} (h : WOk (p :: ps)) : WOk ps := fun q hq => h q (List.mem_cons_of_mem _ hq)
theorem WOk.snoc {ps : List (Nat × List UInt8)} (h : WOk ps) {k : Nat} {x : List UInt8} (hk : k < 52) (hx : x.length = 32) : WOk (ps ++ [(k, x)]) := fun q hq => by
  rcases List.mem_append.1 hq with h1 | h1
  · exact h q h1
  · obtain rfl := List.mem_singleton.1 h1; exact ⟨hk, hx⟩
theorem WOk.filter {ps : List (Nat × List UInt8)} (h : WOk ps) (f : Nat × List UInt8 → Bool) : WOk (ps.filter f) := fun q hq => h q (List.mem_filter.1 hq).1
theorem nowOf_len : ∀ {ps : List (Nat × List UInt8)} {S : List UInt8}, S.length = 1664 → WOk ps → (nowOf S ps).length = 1664
  | [], _, hS, _ => hS
  | p :: ps, S, hS, h => by
    have h1 := h p (List.mem_cons_self ..)
    show (nowOf (putAt S p.1 p.2) ps).length = 1664
    exact nowOf_len (putAt_len hS (by omega) h1.2) h.cons
theorem nowOf_snoc (S : List UInt8) (ps : List (Nat × List UInt8)) (k : Nat) (x : List UInt8) : nowOf S (ps ++ [(k, x)]) = putAt (nowOf S ps) k x := by
  unfold nowOf; rw [List.foldl_append]; rfl
theorem nowOf_sec : ∀ {ps : List (Nat × List UInt8)} {S : List UInt8}, S.length = 1664 → WOk ps → ∀ k, k < 52 → secAt (nowOf S ps) k = (lastOf ps k).getD (secAt S k)
  | [], _, _, _, _, _ => rfl
  | p :: ps, S, hS, h, k, hk => by
    have h1 := h p (List.mem_cons_self ..)
    show secAt (nowOf (putAt S p.1 p.2) ps) k = _
    rw [nowOf_sec (putAt_len hS (by omega) h1.2) h.cons k hk]
    rw [lastOf_cons]
    cases lastOf ps k with
    | some x => rfl
    | none =>
      by_cases e : p.1 = k
      · simp only [if_pos e, Option.getD]
        rw [← e]
        exact sec_put_same hS h1.1 h1.2
      · simp only [if_neg e, Option.getD]
        exact sec_put_other hS h1.1 h1.2 (fun h => e h.symm)
theorem lastOf_filter_same (ps : List (Nat × List UInt8)) (k : Nat) : lastOf (ps.filter fun p => decide (p.1 ≠ k)) k = none := by
  induction ps with
  | nil => rfl
  | cons p ps ih =>
    by_cases e : p.1 = k
    · rw [List.filter_cons_of_neg (by simp [e])]; exact ih
    · rw [List.filter_cons_of_pos (by simp [e])]
      rw [lastOf_cons, ih]
      simp [e]
theorem lastOf_filter_other (ps : List (Nat × List UInt8)) {k j : Nat} (hne : j ≠ k) : lastOf (ps.filter fun p => decide (p.1 ≠ k)) j = lastOf ps j := by
  induction ps with
  | nil => rfl
  | cons p ps ih =>
    by_cases e : p.1 = k
    · rw [List.filter_cons_of_neg (by simp [e]), ih]
      rw [lastOf_cons]
      cases lastOf ps j with
      | some x => rfl
      | none => simp only [if_neg (show ¬ p.1 = j by omega)]
    · rw [List.filter_cons_of_pos (by simp [e])]
      rw [lastOf_cons, lastOf_cons, ih]
theorem nowOf_damage {S x : List UInt8} {ps : List (Nat × List UInt8)} {k : Nat} (hS : S.length = 1664) (h : WOk ps) (hk : k < 52) (hx : x.length = 32) : nowOf (putAt S k x) (ps.filter fun p => decide (p.1 ≠ k)) = putAt (nowOf S ps) k x := by
  have hS' := putAt_len hS (show k * 32 + 32 ≤ 1664 by omega) hx
  have hN := nowOf_len hS h
  have hf := h.filter fun p => decide (p.1 ≠ k)
  refine sec_ext (nowOf_len hS' hf) (putAt_len hN (by omega) hx) fun j hj => ?_
  rw [nowOf_sec hS' hf j hj]
  by_cases e : j = k
  · subst e
    rw [lastOf_filter_same, sec_put_same hN hk hx]
    exact sec_put_same hS hk hx
  · rw [lastOf_filter_other ps e, sec_put_other hS hk hx e, sec_put_other hN hk hx e, nowOf_sec hS h j hj]

/-- All bytes 0. -/
def zeroS : List UInt8 := List.replicate 1664 0
theorem zeroS_len : zeroS.length = 1664 := List.length_replicate ..
/-- A disk. -/
structure Dsk where
  S : List UInt8
  ps : List (Nat × List UInt8)
  f : Bool
namespace Dsk
def now (D : Dsk) : List UInt8 := nowOf D.S D.ps
def new : Dsk := ⟨zeroS, [], false⟩
def failed : Dsk := ⟨zeroS, [], true⟩
def write (D : Dsk) (k : Nat) (x : List UInt8) : Dsk := ⟨D.S, D.ps ++ [(k, x)], D.f⟩
def flush (D : Dsk) : Dsk := ⟨D.now, [], D.f⟩
def damage (D : Dsk) (k : Nat) (x : List UInt8) : Dsk := ⟨putAt D.S k x, D.ps.filter fun p => decide (p.1 ≠ k), D.f⟩
structure Ok (D : Dsk) : Prop where
  S : D.S.length = 1664
  ps : WOk D.ps
theorem Ok.now {D : Dsk} (h : D.Ok) : D.now.length = 1664 := nowOf_len h.S h.ps
theorem new_ok : Dsk.new.Ok := ⟨zeroS_len, WOk.nil⟩
theorem Ok.write {D : Dsk} (h : D.Ok) {k : Nat} {x : List UInt8} (hk : k < 52) (hx : x.length = 32) : (D.write k x).Ok := ⟨h.S, h.ps.snoc hk hx⟩
theorem Ok.flush {D : Dsk} (h : D.Ok) : D.flush.Ok := ⟨h.now, WOk.nil⟩
theorem Ok.damage {D : Dsk} (h : D.Ok) {k : Nat} {x : List UInt8} (hk : k < 52) (hx : x.length = 32) : (D.damage k x).Ok := ⟨putAt_len h.S (by omega) hx, h.ps.filter _⟩
theorem write_now (D : Dsk) (k : Nat) (x : List UInt8) : (D.write k x).now = putAt D.now k x := nowOf_snoc _ _ _ _
theorem damage_now {D : Dsk} (h : D.Ok) {k : Nat} {x : List UInt8} (hk : k < 52) (hx : x.length = 32) : (D.damage k x).now = putAt D.now k x := nowOf_damage h.S h.ps hk hx
end Dsk
end Go.Proofs.YtenkkdnepmoihaaGreatDoor
end
section
namespace Go.Proofs.YtenkkdnepmoihaaGreatDoor
open Go.RowKit

structure Chg (F : Nat → Prop) (w w' : World) : Prop where
  os : w'.os = w.os
  tape : w'.tape = w.tape
  output : w'.output = w.output
  size : w.heap.size ≤ w'.heap.size
  block : ∀ k, k < w.heap.size → ¬ F k → w'.heap[k]? = w.heap[k]?
section
variable {F G : Nat → Prop} {a b c : World}
theorem Chg.refl (F : Nat → Prop) (w : World) : Chg F w w := ⟨rfl, rfl, rfl, Nat.le_refl _, fun _ _ _ => rfl⟩
theorem Chg.trans (h : Chg F a b) (k : Chg G b c) (hs : ∀ i, i < a.heap.size → G i → F i) : Chg F a c :=
  ⟨k.os.trans h.os, k.tape.trans h.tape, k.output.trans h.output, Nat.le_trans h.size k.size, fun i hi hn => (k.block i (Nat.lt_of_lt_of_le hi h.size) fun hg => hn (hs i hi hg)).trans (h.block i hi hn)⟩
theorem Chg.mono (h : Chg F a b) (hs : ∀ i, i < a.heap.size → F i → G i) : Chg G a b := ⟨h.os, h.tape, h.output, h.size, fun i hi hn => h.block i hi fun hf => hn (hs i hi hf)⟩
theorem chg_below (F : Nat → Prop) (h : Below a.heap.size a b) : Chg F a b := ⟨h.os, h.tape, h.output, h.size, fun i hi _ => h.block i hi⟩
theorem chg_grown {row : Option Nat} (h : a.grownBy b row) : Chg (fun k => row = some k) a b := ⟨h.os, h.tape, h.output, h.size, fun i hi hn => h.block i hi fun e => hn e.symm⟩
theorem Chg.below {B : Nat} (h : Chg F a b) (hF : ∀ k, F k → B ≤ k) (hB : B ≤ a.heap.size) : Below B a b := ⟨h.os, h.tape, h.output, h.size, fun i hi => h.block i (by omega) fun hf => by have := hF i hf; omega⟩
theorem Chg.drewN (h : Chg F a b) (n : Nat) : Chg F a (b.drewN n) := ⟨h.os, h.tape, h.output, h.size, h.block⟩
theorem Chg.ofDrew (h : Chg F a.drew b) : Chg F a b := ⟨h.os, h.tape, h.output, h.size, h.block⟩
theorem Chg.alloc (h : Chg F a b) (o : Obj) : Chg F a (b.alloc o) := h.trans (chg_below F (below1 b o)) fun _ _ h => h
theorem Chg.ofBelow (h : Chg F a b) {B : Nat} (k : Below B b c) (hB : a.heap.size ≤ B) : Chg F a c :=
  ⟨k.os.trans h.os, k.tape.trans h.tape, k.output.trans h.output, Nat.le_trans h.size k.size, fun i hi hn => (k.block i (by omega)).trans (h.block i hi hn)⟩
end

/-- An own row hangs on its own block alone. -/
theorem own_heap {w w' : World} {B : Nat} {e : TypeId} {size : Nat} {v : Value} {n : Nat} {xs : List Value} (h : w.ownsRow B e size v n xs) (hk : ∀ k, v.ownBlock = some k → w'.heap[k]? = w.heap[k]?) : w'.ownsRow B e size v n xs := by
  refine ⟨h.1, ?_⟩
  rcases h.2 with h1 | ⟨g, cap, cur, rfl, h2, h3, r⟩
  · exact .inl h1
  · exact .inr ⟨g, cap, cur, rfl, h2, (hk g rfl).trans h3, r⟩
theorem own_chg {F : Nat → Prop} {w w' : World} {B : Nat} {e : TypeId} {size : Nat} {v : Value} {n : Nat} {xs : List Value} (h : w.ownsRow B e size v n xs) (hc : Chg F w w') (hn : ∀ k, v.ownBlock = some k → ¬ F k) : w'.ownsRow B e size v n xs :=
  own_heap h fun k hk => hc.block k (h.lt k hk).2 (hn k hk)
/-- A row of cells with some set. -/
def spl (l : List Value) (o : Nat) (vs : List Value) : List Value := l.take o ++ vs ++ l.drop (o + vs.length)
theorem spl_mid {A X C vs : List Value} {o : Nat} (ho : A.length = o) (hx : X.length = vs.length) : spl (A ++ X ++ C) o vs = A ++ vs ++ C := by
  unfold spl
  subst ho
  have e1 : (A ++ X ++ C).take A.length = A := by rw [List.append_assoc, List.take_left]
  have e2 : (A ++ X ++ C).drop (A.length + vs.length) = C := by rw [← hx, ← List.length_append, List.drop_left]
  rw [e1, e2]
theorem spl_len {l vs : List Value} {o : Nat} (h : o + vs.length ≤ l.length) : (spl l o vs).length = l.length := by
  unfold spl; simp; omega

section
variable {P : Program}
theorem run_storeVar_blk (w : World) (b o : Nat) (ty : TypeId) (v : Value) (cur : List Value) (t : TypeId) (hb : w.heap[b]? = some (.cells cur.toArray t (0, 0))) (hi : (P.info? ty).map (·.size) = some v.cells.size)
    (ho : o + v.cells.size ≤ cur.length) (h1 : ∀ u ∈ v.cells.toList, u.oneCell' = true) : (storeVar ty ⟨b, o, none⟩ v).run P w = .ok () (w.setRow b (spl cur o v.cells.toList).toArray) := by
  have h := run_storeCells_at P b o t v.cells.toList 0 cur.toArray w hb (by simpa using ho) h1
  cases hq : P.info? ty with
  | none => simp [hq] at hi
  | some i =>
    have hs : v.cells.size = i.size := by simp [hq] at hi; omega
    simp only [Nat.add_zero] at h
    simp [storeVar, sizeOf, typeInfo, hq, hs, h, spl]
theorem wpList_store_blk {ops : Array Oper} {rest : List Oper} {op : Oper} {a : Act} {w : World} {Q : Exit → Act → World → Prop} (hgd : op.guard = none) (ty : TypeId) (x y : Operand) (ho : op.op = .store ty x y)
    (b o : Nat) (v : Value) (hx : a.eval x = .pointer (some ⟨b, o, none⟩)) (hy : a.eval y = v) (cur : List Value) (t : TypeId) (hb : w.heap[b]? = some (.cells cur.toArray t (0, 0)))
    (vs : List Value) (hvs : v.cells = vs.toArray) (n : Nat) (hn : vs.length = n) (hi : (P.info? ty).map (·.size) = some n) (hl : o + n ≤ cur.length) (h1 : ∀ u ∈ vs, u.oneCell' = true)
    (new : List Value) (hnew : spl cur o vs = new)
    (h : ∀ w', w'.heap[b]? = some (.cells new.toArray t (0, 0)) → w.grownBy w' (some b) → wpList P ops Q rest (a.put op.dst undef) w') : wpList P ops Q (op :: rest) a w := by
  subst hn hnew
  refine wpList_plain hgd fun K hK => ?_
  have hr := run_storeVar_blk (P := P) w b o ty v cur t hb (by rw [hi, hvs]; rfl) (by rw [hvs]; exact hl) (by rw [hvs]; exact h1)
  unfold Oper.wp execOp
  simp only [ho, hx, hy, Instr.storeAt, Instr.sureAddr, Sem.run_bind, Sem.run_pure, Result.andThen_ok, hr]
  refine hK _ _ (h _ ?_ ?_)
  · rw [hvs]; exact setRow_heap w b _ _ t (0, 0) hb
  · exact ⟨rfl, rfl, rfl, by simp, fun k _ hk => setRow_other w b k _ (fun e => hk (by rw [e]))⟩
theorem wpList_build_run {ops : Array Oper} {rest : List Oper} {op : Oper} {a : Act} {w : World} {Q : Exit → Act → World → Prop} (hgd : op.guard = none) (t : TypeId) (parts : Array (Nat × Operand)) (ho : op.op = .build t parts)
    (ps : Array (Nat × Value)) (hps : parts.map (fun (i, x) => (i, a.eval x)) = ps) (v : Value) (hr : (Instr.build t ps).run P w = .ok v w)
    (h : wpList P ops Q rest (a.put op.dst v) w) : wpList P ops Q (op :: rest) a w := by
  subst hps
  refine wpList_plain hgd fun K hK => ?_
  unfold Oper.wp execOp
  simp only [ho, Sem.run_bind, Sem.run_pure, Result.andThen_ok, hr]
  exact hK _ _ h
end
end Go.Proofs.YtenkkdnepmoihaaGreatDoor
end
section
namespace Go.Proofs.YtenkkdnepmoihaaGreatDoor
open Go.RowKit

def dcells (S N : List UInt8) (pv : Value) (f : Bool) : List Value := S.map bv ++ N.map bv ++ ([pv, Value.bool f] : List Value)
def wcell (p : Nat × List UInt8) : List Value := Value.int .i64 (p.1 : Int) :: p.2.map bv
def wcells (ps : List (Nat × List UInt8)) : List Value := ps.flatMap wcell
/-- The disk D lies at block b; its pending writes are the own row pv. -/
structure DskAt (w : World) (B b : Nat) (pv : Value) (D : Dsk) : Prop where
  blk : w.heap[b]? = some (.cells (dcells D.S D.now pv D.f).toArray 116 (0, 0))
  own : w.ownsRow B 124 33 pv D.ps.length (wcells D.ps)
  le : B ≤ b
  ne : pv.ownBlock ≠ some b
  ok : D.Ok
/-- The blocks of a disk. -/
def DF (b : Nat) (pv : Value) (k : Nat) : Prop := k = b ∨ pv.ownBlock = some k
/-- Its pending writes lie where they lay, or in new memory. -/
def NewOr (w : World) (pv pv' : Value) : Prop := ∀ k, pv'.ownBlock = some k → pv.ownBlock = some k ∨ w.heap.size ≤ k
section
variable {w w' : World} {B b : Nat} {pv : Value} {D : Dsk}
theorem DskAt.lt (h : DskAt w B b pv D) : b < w.heap.size := (Array.getElem?_eq_some_iff.1 h.blk).1
theorem DskAt.plt (h : DskAt w B b pv D) : ∀ k, pv.ownBlock = some k → B ≤ k ∧ k < w.heap.size := h.own.lt
theorem DskAt.heap (h : DskAt w B b pv D) (hb : w'.heap[b]? = w.heap[b]?) (hp : ∀ k, pv.ownBlock = some k → w'.heap[k]? = w.heap[k]?) : DskAt w' B b pv D :=
  ⟨hb.trans h.blk, own_heap h.own hp, h.le, h.ne, h.ok⟩
theorem DskAt.chg {F : Nat → Prop} (h : DskAt w B b pv D) (hc : Chg F w w') (hb : ¬ F b) (hp : ∀ k, pv.ownBlock = some k → ¬ F k) : DskAt w' B b pv D :=
  h.heap (hc.block b h.lt hb) fun k hk => hc.block k (h.plt k hk).2 (hp k hk)
theorem DskAt.below (h : DskAt w B b pv D) (hc : Below w.heap.size w w') : DskAt w' B b pv D :=
  h.heap (hc.block b h.lt) fun k hk => hc.block k (h.plt k hk).2
theorem DskAt.mono {B' : Nat} (h : DskAt w B b pv D) (hB : B' ≤ B) : DskAt w B' b pv D :=
  ⟨h.blk, by
    refine ⟨h.own.1, ?_⟩
    rcases h.own.2 with h1 | ⟨g, cap, cur, h1, h2, r⟩
    · exact .inl h1
    · exact .inr ⟨g, cap, cur, h1, by omega, r⟩, by have := h.le; omega, h.ne, h.ok⟩
theorem DskAt.drewN (h : DskAt w B b pv D) (n : Nat) : DskAt (w.drewN n) B b pv D := ⟨h.blk, h.own, h.le, h.ne, h.ok⟩
theorem DF.le (h : DskAt w B b pv D) {k : Nat} (hk : DF b pv k) : B ≤ k := by
  rcases hk with rfl | hk
  · exact h.le
  · exact (h.plt k hk).1
theorem NewOr.refl (w : World) (pv : Value) : NewOr w pv pv := fun _ h => .inl h
theorem NewOr.none (w : World) (pv : Value) : NewOr w pv (.slice none 0 0) := fun _ h => by simp [Value.ownBlock] at h

theorem dcells_len {S N : List UInt8} (hS : S.length = 1664) (hN : N.length = 1664) (pv : Value) (f : Bool) : (dcells S N pv f).length = 3330 := by
  unfold dcells; simp [hS, hN]
theorem wcell_len {p : Nat × List UInt8} (h : p.2.length = 32) : (wcell p).length = 33 := by unfold wcell; simp [h]
theorem wcells_snoc (ps : List (Nat × List UInt8)) (p : Nat × List UInt8) : wcells (ps ++ [p]) = wcells ps ++ wcell p := by unfold wcells; simp
theorem dcells_pv {S N : List UInt8} (hS : S.length = 1664) (hN : N.length = 1664) (pv : Value) (f : Bool) : (dcells S N pv f)[3328]? = some pv := by
  unfold dcells
  rw [List.getElem?_append_right (by simp [hS, hN])]
  simp [hS, hN]
theorem dcells_f {S N : List UInt8} (hS : S.length = 1664) (hN : N.length = 1664) (pv : Value) (f : Bool) : (dcells S N pv f)[3329]? = some (.bool f) := by
  unfold dcells
  rw [List.getElem?_append_right (by simp [hS, hN])]
  simp [hS, hN]
theorem dcells_S {S N : List UInt8} (pv : Value) (f : Bool) {i : Nat} (hi : i < S.length) : (dcells S N pv f)[i]? = S[i]?.map bv := by
  unfold dcells
  rw [List.append_assoc, List.getElem?_append_left (by simpa using hi), List.getElem?_map]
theorem dcells_N {S N : List UInt8} (hS : S.length = 1664) (pv : Value) (f : Bool) {i : Nat} (hi : i < N.length) : (dcells S N pv f)[1664 + i]? = N[i]?.map bv := by
  unfold dcells
  rw [List.append_assoc, List.getElem?_append_right (by simp [hS]), List.getElem?_append_left (by simp [hS]; omega)]
  simp [hS]
section
variable {S N : List UInt8} {f : Bool} {t : TypeId}
theorem cell_dpv (hb : w.heap[b]? = some (.cells (dcells S N pv f).toArray t (0, 0))) (hS : S.length = 1664) (hN : N.length = 1664) : w.cell? ⟨b, 3328, none⟩ = some pv := by
  rw [cell_of_row w b _ _ t (0, 0) hb, List.getElem?_toArray]; exact dcells_pv hS hN pv f
theorem cell_df (hb : w.heap[b]? = some (.cells (dcells S N pv f).toArray t (0, 0))) (hS : S.length = 1664) (hN : N.length = 1664) : w.cell? ⟨b, 3329, none⟩ = some (.bool f) := by
  rw [cell_of_row w b _ _ t (0, 0) hb, List.getElem?_toArray]; exact dcells_f hS hN pv f
theorem range_S (hb : w.heap[b]? = some (.cells (dcells S N pv f).toArray t (0, 0))) : w.rangeAt b 0 (S.map bv) := fun j v hj => by
  have hl : j < S.length := by have := (List.getElem?_eq_some_iff.1 hj).1; simpa using this
  rw [cell_of_row w b _ _ t (0, 0) hb, List.getElem?_toArray, Nat.zero_add, dcells_S pv f hl, ← hj, List.getElem?_map]
theorem range_N (hb : w.heap[b]? = some (.cells (dcells S N pv f).toArray t (0, 0))) (hS : S.length = 1664) : w.rangeAt b 1664 (N.map bv) := fun j v hj => by
  have hl : j < N.length := by have := (List.getElem?_eq_some_iff.1 hj).1; simpa using this
  rw [cell_of_row w b _ _ t (0, 0) hb, List.getElem?_toArray, dcells_N hS pv f hl, ← hj, List.getElem?_map]
theorem range_sec {L : List UInt8} {o k : Nat} (h : w.rangeAt b o (L.map bv)) : w.rangeAt b (o + k * 32) ((secAt L k).map bv) := fun j v hj => by
  rw [List.getElem?_map, secAt_get] at hj
  split at hj
  · rw [Nat.add_assoc]
    exact h (k * 32 + j) v (by rw [List.getElem?_map]; exact hj)
  · cases hj
theorem spl_S {S' : List UInt8} (hl : S'.length = S.length) : spl (dcells S N pv f) 0 (S'.map bv) = dcells S' N pv f := by
  unfold dcells
  rw [List.append_assoc, List.append_assoc]
  exact spl_mid (A := []) (X := S.map bv) (C := N.map bv ++ [pv, Value.bool f]) (vs := S'.map bv) (o := 0) rfl (by simp [hl])
theorem spl_pv {pv' : Value} (hS : S.length = 1664) (hN : N.length = 1664) : spl (dcells S N pv f) 3328 [pv'] = dcells S N pv' f := by
  unfold dcells
  rw [show (S.map bv ++ N.map bv ++ [pv, Value.bool f]) = S.map bv ++ N.map bv ++ [pv] ++ [Value.bool f] by simp]
  exact (spl_mid (A := S.map bv ++ N.map bv) (X := [pv]) (C := [Value.bool f]) (vs := [pv']) (o := 3328) (by simp [hS, hN]) rfl).trans (by simp)
theorem map_put {L x : List UInt8} {k : Nat} : (putAt L k x).map bv = (L.take (k * 32)).map bv ++ x.map bv ++ (L.drop (k * 32 + 32)).map bv := by unfold putAt; simp
theorem map_sec {L : List UInt8} {k : Nat} : L.map bv = (L.take (k * 32)).map bv ++ (secAt L k).map bv ++ (L.drop (k * 32 + 32)).map bv := by
  rw [← map_put, put_sec]
theorem spl_Ssec {x : List UInt8} {k : Nat} (hS : S.length = 1664) (hk : k < 52) (hx : x.length = 32) : spl (dcells S N pv f) (k * 32) (x.map bv) = dcells (putAt S k x) N pv f := by
  have hs : (secAt S k).length = 32 := secAt_len (by omega)
  unfold dcells
  rw [map_put, map_sec (L := S) (k := k)]
  generalize hT : (S.drop (k * 32 + 32)).map bv = T
  rw [List.append_assoc (_ ++ _) T, List.append_assoc (_ ++ _) (T ++ _), List.append_assoc (_ ++ _) T, List.append_assoc (_ ++ _) (T ++ _)]
  exact spl_mid (by rw [List.length_map, List.length_take]; omega) (by simp [hs, hx])
theorem spl_Nsec {x : List UInt8} {k : Nat} (hS : S.length = 1664) (hN : N.length = 1664) (hk : k < 52) (hx : x.length = 32) : spl (dcells S N pv f) (1664 + k * 32) (x.map bv) = dcells S (putAt N k x) pv f := by
  have hs : (secAt N k).length = 32 := secAt_len (by omega)
  unfold dcells
  rw [map_put, map_sec (L := N) (k := k)]
  generalize hT : (N.drop (k * 32 + 32)).map bv = T
  generalize hT2 : (N.take (k * 32)).map bv = T2
  have e : ∀ X : List Value, S.map bv ++ (T2 ++ X ++ T) ++ [pv, Value.bool f] = (S.map bv ++ T2) ++ X ++ (T ++ [pv, Value.bool f]) := fun X => by simp
  rw [e, e]
  exact spl_mid (by rw [List.length_append, List.length_map, ← hT2, List.length_map, List.length_take]; omega) (by simp [hs, hx])
end
end
theorem info_dsk : (Tryz.prog.info? 116).map (fun i => (i.zero, i.size)) = some (some (.agg (dcells (List.replicate 1664 0) (List.replicate 1664 0) (.slice none 0 0) false).toArray), 3330) := by kernel_rfl
theorem size_arr : (Tryz.prog.info? 113).map (·.size) = some 1664 := by kernel_rfl
theorem size_sec : (Tryz.prog.info? 112).map (·.size) = some 32 := by kernel_rfl
theorem size_pend : (Tryz.prog.info? 114).map (·.size) = some 1 := by kernel_rfl
theorem size_dsk : (Tryz.prog.info? 116).map (·.size) = some 3330 := by kernel_rfl
theorem build_new (w : World) : (Instr.build 116 #[]).run Tryz.prog w = .ok (.agg (dcells (List.replicate 1664 0) (List.replicate 1664 0) (.slice none 0 0) false).toArray) w := by kernel_rfl
end Go.Proofs.YtenkkdnepmoihaaGreatDoor
end
