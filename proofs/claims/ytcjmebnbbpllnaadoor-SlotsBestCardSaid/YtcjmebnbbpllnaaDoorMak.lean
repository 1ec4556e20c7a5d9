/- Texts put together: SlotAid, SlotGood, SlotKeep, SupEq, Law, Laid. -/
import Derived.Test.YtcjmebnbbpllnaaDoorMaj
import Derived.Test.YtcjmebnbbpllnaaDoorMac
import Derived.Test.YtcjmebnbbpllnaaDoorMaf
import Derived.Test.YtcjmebnbbpllnaaDoorMai
import Derived.Test.YtcjmebnbbpllnaaDoorMag
import Derived.Test.YtcjmebnbbpllnaaDoorMaa
import Derived.ProofKit
import Derived.OpenShut
import Derived.Carry
import Derived.SizedLaws
import GoSem.ClaimSeven
import Derived.Deep.DeepHandedRow
import Derived.Lib.LaidTab
import Derived.Test.YtcjmebnbbpllnaaDoorCards
import Derived.Test.YtcjmebnbbpllnaaDoorTie
import Derived.Test.YtcjmebnbbpllnaaDoorMah
section
set_option maxRecDepth 8000
set_option linter.unusedVariables false
set_option linter.unusedSimpArgs false
namespace Go.Proofs.YtcjmebnbbpllnaaDoor
open Go.RowKit

theorem decO_head {bs : List UInt8} (h : decO bs = true) : bs.getD 0 0 = 87 ∧ bs.getD 1 0 = 83 ∧ bs.getD 2 0 = 85 := by
  rw [← ((decO_iff bs).1 h).2.2, suB_get _ 0 (by omega), suB_get _ 1 (by omega), suB_get _ 2 (by omega)]
  exact ⟨rfl, rfl, rfl⟩
theorem decO_zeros : decO (List.replicate 32 0) = false := by
  rw [← Bool.not_eq_true]
  intro h
  exact absurd (decO_head h).1 (by decide)
theorem wrap64_mod (x : Int) : wrap64 x % 256 = x % 256 := by unfold wrap64; omega
theorem decO_sector (n : Int) : decO (sectorB n) = false := by
  unfold sectorB
  split
  · exact decO_zeros
  · rw [← Bool.not_eq_true]
    intro h
    obtain ⟨h0, h1, h2⟩ := decO_head h
    have g : ∀ k, k < 32 → ((List.range 32).map (secU n)).getD k 0 = secU n k := fun k hk => by simp [List.getD_eq_getElem?_getD, hk]
    rw [g 0 (by omega)] at h0
    rw [g 1 (by omega)] at h1
    rw [g 2 (by omega)] at h2
    have v0 := secU_val n 0
    have v1 := secU_val n 1
    have v2 := secU_val n 2
    rw [h0] at v0
    rw [h1] at v1
    rw [h2] at v2
    unfold secI at v0 v1 v2
    rw [wrap64_mod] at v0 v1 v2
    have e : ∀ m x : Int, (n + wrap64 (m * x)) % 256 = (n + m * x) % 256 := fun m x => by have := wrap64_mod (m * x); omega
    rw [e] at v0 v1 v2
    generalize bits .or .i64 (n.tdiv 7) 1 = m at v0 v1 v2
    have u0 : ((87 : UInt8).toNat : Int) = 87 := rfl
    have u1 : ((83 : UInt8).toNat : Int) = 83 := rfl
    have u2 : ((85 : UInt8).toNat : Int) = 85 := rfl
    rw [u0] at v0
    rw [u1] at v1
    rw [u2] at v2
    omega
/-- One Super of a number and a generation. -/
def oneS (gen n : Int) : Su := ⟨gen, goL n, goD n, goC n, 0, 0, 0, false, 0, withinI n 100, 0⟩
theorem oneS_ok {gen : Int} (n : Int) (h : 1 ≤ gen ∧ gen ≤ 2147483647) : suOk (oneS gen n) = true := by
  have b := withinI_bd n 100 (by omega)
  have h1 : genB (oneS gen n) = true := by simp [genB, oneS, h]
  have h2 : gOk (goL n) (goD n) (goC n) = true := go_ok n
  have h3 : aimB (oneS gen n) = true := by simp [aimB, oneS]
  have h4 : epB (oneS gen n) = true := by show decide (0 ≤ withinI n 100 ∧ withinI n 100 ≤ 65535) = true; exact decide_eq_true (by omega)
  have h5 : ouB (oneS gen n) = true := by simp [ouB, oneS]
  unfold suOk
  rw [h1, h3, h4, h5]
  simp only [Bool.true_and, Bool.and_true]
  exact h2
theorem oneS_64 {gen : Int} (n : Int) (h : (-9223372036854775808 ≤ gen ∧ gen ≤ 9223372036854775807)) : Su64 (oneS gen n) := by
  have b := withinI_bd n 100 (by omega)
  have g := gOk_bd (go_ok n)
  exact ⟨h, by show _ ∧ _; simp only [oneS]; omega, by show _ ∧ _; simp only [oneS]; omega, by show _ ∧ _; simp only [oneS]; omega, by show _ ∧ _; simp only [oneS]; omega, by show _ ∧ _; simp only [oneS]; omega, by show _ ∧ _; simp only [oneS]; omega, by show _ ∧ _; simp only [oneS]; omega, by show _ ∧ _; simp only [oneS]; omega, by show _ ∧ _; simp only [oneS]; omega⟩
theorem build_one (g l d c e : Int) (w : World) : (Instr.build 32 #[(0, .int .i64 g), (1, .agg #[.int .i64 l, .int .i64 d, .int .i64 c]), (5, .int .i64 e)]).run Tryd.prog w = .ok (.agg #[.int .i64 g, .int .i64 l, .int .i64 d, .int .i64 c, .int .i64 0, .int .i64 0, .int .i64 0, .bool false, .int .i64 0, .int .i64 e, .int .i64 0]) w := by kernel_rfl
theorem one_any (gen n : Int) (w : World) (hn : (-9223372036854775808 ≤ n ∧ n ≤ 9223372036854775807)) : Calls Tryd.prog 10 #[.int .i64 gen, .int .i64 n] w fun e w' => ∃ s, s = oneS gen n ∧ e = .returned (.agg #[.int .i64 s.g, .int .i64 s.al, .int .i64 s.ad, .int .i64 s.ac, .int .i64 s.bl, .int .i64 s.bd, .int .i64 s.bc, .bool s.r, .int .i64 s.wi, .int .i64 s.ep, .int .i64 s.ou]) ∧ Below w.heap.size w w' := by
  obtain ⟨s, hs⟩ : ∃ s, s = oneS gen n := ⟨_, rfl⟩
  have Hs := Lib.hid hs
  have hbd := build_one
  have HG := Lib.hid (fun W => playGood_any n W hn)
  have HW := Lib.hid (fun W => within_any n 100 W hn (by omega))
  have Hv : Hid (s = ⟨gen, goL n, goD n, goC n, 0, 0, 0, false, 0, withinI n 100, 0⟩) := hs
  clear hs
  generalize goL n = l at HG Hv
  generalize goD n = d at HG Hv
  generalize goC n = c at HG Hv
  generalize withinI n 100 = ep at HW Hv
  go_enter Tryd.func10, Tryd.ntmps10
  go_wp2_with fail
  refine (HG.out _).mono ?_
  rintro e w1 ⟨rfl, hb⟩
  have Z1 := Lib.hid ((hb.block w.heap.size (by simp)).trans (hp_new w _ _ rfl))
  have F1 := Lib.hid ((below1 w _).trans (hb.mono (by simp)))
  clear hb
  go_wp2_with (first
    | (go_at_call 8; refine (HW.out _).mono ?_; rintro e w2 ⟨rfl, rfl⟩)
    | (refine wpList_store_blk rfl 32 _ _ (by rfl) w.heap.size 0 (.agg (suL ⟨gen, l, d, c, 0, 0, 0, false, 0, ep, 0⟩).toArray) (by rfl) (by rfl) (suL suZ) 32 Z1.out (suL ⟨gen, l, d, c, 0, 0, 0, false, 0, ep, 0⟩) rfl 11 rfl (by kernel_rfl) (Nat.le_refl 11) (suL_one _) (suL ⟨gen, l, d, c, 0, 0, 0, false, 0, ep, 0⟩) (by rfl) ?_; intro w3 h3 g3; obtain ⟨z0, z1, z2, z3, z4, z5, z6, z7, z8, z9, z10⟩ := sat_block h3))
  have F3 := F1.out.grown g3 F1.out.size (fun j e => by injection e with e; omega)
  refine bodyPost_ret (v := .agg #[.int .i64 gen, .int .i64 l, .int .i64 d, .int .i64 c, .int .i64 0, .int .i64 0, .int .i64 0, .bool false, .int .i64 0, .int .i64 ep, .int .i64 0]) (by simp [results, Tryd.results10, go_sem, z0, z1, z2, z3, z4, z5, z6, z7, z8, z9, z10]) rfl ?_
  first | exact ⟨s, Hs.out, by rw [Hv.out], F3⟩ | exact ⟨by rw [← Hs.out, Hv.out], F3⟩
theorem new_best : bestE (Bch.new 3) = 3 := by
  have h : ∀ k, k < 2 → slotL Dsk.new k = [] := fun k hk => by
    unfold slotL
    rw [if_neg (by decide), if_neg]
    rw [new_now, sec_zero (by omega), decO_zeros]
    decide
  have h2 : dskSu Dsk.new = [] := by unfold dskSu; rw [h 0 (by omega), h 1 (by omega)]; rfl
  have h3 : bestTo (Bch.new 3) 3 = suZ := by
    show (dskSu Dsk.new).foldl pickS ((dskSu Dsk.new).foldl pickS ((dskSu Dsk.new).foldl pickS suZ)) = suZ
    rw [h2]; rfl
  unfold bestE
  rw [if_neg (by decide), if_pos]
  show (bestTo (Bch.new 3) 3).g = 0
  rw [h3]; rfl
theorem wakesSl_any (W : World) (ht : TabOk W) : Calls Tryd.prog 14 #[] W fun e w' => e = .returned (.bool true) ∧ Below W.heap.size W w' := by
  have hpn := ptr_eq
  have CN := Lib.hid (bp_new 3 W W (Below.refl _ _) (by omega))
  have Ht := Lib.hid ht
  clear ht
  go_enter Tryd.func14, Tryd.ntmps14
  go_wp2_with fail
  refine CN.out.mono ?_
  rintro e w ⟨b, H, rfl, hp, _, _⟩
  have CB := Lib.hid (best_any _ b H _ w hp.at' (Ht.out.below hp.bel Ht.out.pos))
  rw [new_best] at CB
  have HB := Lib.hid hp.bel
  clear hp
  unfold ptr at CB ⊢
  go_wp2_with fail
  refine CB.out.mono ?_
  rintro e w1 ⟨v, s, hs, rfl, _, hb1⟩
  have F := Lib.hid (HB.out.trans (hb1.mono HB.out.size))
  clear hs hb1
  go_wp2_with fail
  go_ret
  exact ⟨rfl, F.out.alloc F.out.size _⟩
end Go.Proofs.YtcjmebnbbpllnaaDoor
end
section
set_option linter.unusedVariables false
set_option linter.unusedSimpArgs false
namespace Go.Proofs.YtcjmebnbbpllnaaDoor

theorem no1 {b : Bool} {p : Prop} (hb : b = false) : ¬ (b = true ∧ p) := fun h => by rw [hb] at h; exact absurd h.1 (by decide)
theorem no0 {b : Bool} (hb : b = false) : ¬ b = true := by rw [hb]; decide
theorem no2 {b c : Bool} (hc : c = true) : ¬ (b = true ∧ c = false) := fun h => by rw [hc] at h; exact absurd h.2 (by decide)
theorem no3 {a : Prop} {b c : Bool} (hc : c = true) : ¬ (a ∧ b = true ∧ c = false) := fun h => by rw [hc] at h; exact absurd h.2.2 (by decide)
/-- The live disks that have not failed, among the first. -/
def cntTo (N : Bch) (lv : List Bool) : Nat → Nat
  | 0 => 0
  | i + 1 => cntTo N lv i + if lv.getD i false = true ∧ (N.D i).f = false then 1 else 0
theorem cntTo_le (N : Bch) (lv : List Bool) : ∀ i, cntTo N lv i ≤ i
  | 0 => Nat.le_refl _
  | i + 1 => by
    have := cntTo_le N lv i
    unfold cntTo
    split <;> omega
def wrD (lv : List Bool) (k : Nat) (x : List UInt8) (D : Dsk) (i j : Nat) : Dsk := if j < i ∧ lv.getD j false = true ∧ D.f = false then D.write k x else D
def flD (lv : List Bool) (D : Dsk) (i j : Nat) : Dsk := if j < i ∧ lv.getD j false = true then D.flushE else D
theorem wrD_same {lv : List Bool} {k : Nat} {x : List UInt8} {D : Dsk} {i j : Nat} (h : j ≠ i) : wrD lv k x D (i + 1) j = wrD lv k x D i j := by
  unfold wrD
  by_cases c : j < i
  · simp only [c, show j < i + 1 by omega]
  · rw [if_neg (by omega), if_neg (by omega)]
theorem wrD_at {lv : List Bool} {k : Nat} {x : List UInt8} {D : Dsk} {i : Nat} : wrD lv k x D i i = D := if_neg (by omega)
theorem wrD_next {lv : List Bool} {k : Nat} {x : List UInt8} {D : Dsk} {i : Nat} : wrD lv k x D (i + 1) i = if lv.getD i false = true ∧ D.f = false then D.write k x else D := by
  unfold wrD; simp only [show i < i + 1 by omega, true_and]
theorem flD_same {lv : List Bool} {D : Dsk} {i j : Nat} (h : j ≠ i) : flD lv D (i + 1) j = flD lv D i j := by
  unfold flD
  by_cases c : j < i
  · simp only [c, show j < i + 1 by omega]
  · rw [if_neg (by omega), if_neg (by omega)]
theorem flD_at {lv : List Bool} {D : Dsk} {i : Nat} : flD lv D i i = D := if_neg (by omega)
theorem flD_next {lv : List Bool} {D : Dsk} {i : Nat} : flD lv D (i + 1) i = if lv.getD i false = true then D.flushE else D := by
  unfold flD; simp only [show i < i + 1 by omega, true_and]
structure WrG (N M : Bch) (lv : List Bool) (k : Nat) (x : List UInt8) (i : Nat) : Prop where
  n : M.n = N.n
  dn : M.down = false
  lf : M.left = -1
  D : ∀ j, M.D j = wrD lv k x (N.D j) i j
  done : M.done = N.done + cntTo N lv i
theorem wrote_good {N : Bch} {lv : List Bool} {k : Nat} {x : List UInt8} (hk : k < 52) (hx : x.length = 32) (hd : N.down = false) (hl : N.left = -1) : ∀ i, i ≤ N.n → (onTo (wrF k x) lv N i).1 = 0 ∧ WrG N (onTo (wrF k x) lv N i).2 lv k x i
  | 0, _ => ⟨rfl, rfl, hd, hl, fun j => (if_neg (by omega)).symm, rfl⟩
  | i + 1, hi => by
    obtain ⟨h0, g⟩ := wrote_good (lv := lv) hk hx hd hl i (by omega)
    have hDi : (onTo (wrF k x) lv N i).2.D i = N.D i := by rw [g.D i, wrD_at]
    cases hb : lv.getD i false with
    | false =>
      rw [onTo_skip h0 hb]
      refine ⟨h0, g.n, g.dn, g.lf, fun j => ?_, ?_⟩
      · by_cases e : j = i
        · subst e; rw [hDi, wrD_next, if_neg (no1 hb)]
        · rw [wrD_same e]; exact g.D j
      · rw [g.done]; show _ = N.done + (cntTo N lv i + _); rw [if_neg (no1 hb)]; omega
    | true =>
      have hpw : (onTo (wrF k x) lv N i).2.powE (i : Int) = 0 := Bch.powE_ok (Bch.pickE_ok (by omega) (by rw [g.n]; omega)) g.dn
      cases hf : (N.D i).f with
      | true =>
        have ht : takeE ((onTo (wrF k x) lv N i).2.at_ (i : Int)).f (k : Int) x.length = 5 := by
          rw [show ((onTo (wrF k x) lv N i).2.at_ (i : Int)) = (onTo (wrF k x) lv N i).2.D i from rfl, hDi, hf]; exact takeE_fail _ _
        have e1 : (wrF k x (onTo (wrF k x) lv N i).2 i).1 = 5 := by
          show (onTo (wrF k x) lv N i).2.writeE _ _ _ = 5
          unfold Bch.writeE; rw [if_neg (by simp [hpw]), if_pos (by rw [ht]; decide), ht]
        have e2 : (wrF k x (onTo (wrF k x) lv N i).2 i).2 = (onTo (wrF k x) lv N i).2 := by
          show (onTo (wrF k x) lv N i).2.write _ _ _ = _
          unfold Bch.write; rw [if_neg (by simp [hpw]), if_pos (by rw [ht]; decide)]
        rw [onTo_pass h0 hb e1, e2]
        refine ⟨rfl, g.n, g.dn, g.lf, fun j => ?_, ?_⟩
        · by_cases e : j = i
          · subst e; show (onTo (wrF k x) lv N j).2.D j = _; rw [hDi, wrD_next, if_neg (no2 hf)]
          · rw [wrD_same e]; exact g.D j
        · show (onTo (wrF k x) lv N i).2.done = N.done + (cntTo N lv i + _)
          rw [g.done, if_neg (no2 hf)]; omega
      | false =>
        have hw := Bch.write_ok (N := (onTo (wrF k x) lv N i).2) (d := i) (k := k) (x := x) (by rw [g.n]; omega) hk hx (by rw [hDi, hf]) g.dn (by rw [g.lf]; decide)
        rw [Bch.count_free (by exact g.lf), hDi] at hw
        have e1 : (wrF k x (onTo (wrF k x) lv N i).2 i).1 = 0 := hw.1
        rw [onTo_goes h0 hb (by rw [e1]; decide)]
        refine ⟨e1, ?_⟩
        show WrG N ((onTo (wrF k x) lv N i).2.write (i : Int) (k : Int) x) lv k x (i + 1)
        rw [hw.2]
        refine ⟨g.n, g.dn, g.lf, fun j => ?_, ?_⟩
        · show upd (onTo (wrF k x) lv N i).2.D i _ j = _
          by_cases e : j = i
          · subst e; rw [upd_same, wrD_next, if_pos ⟨hb, hf⟩]
          · rw [upd_other _ _ e, wrD_same e]; exact g.D j
        · show (onTo (wrF k x) lv N i).2.done + 1 = N.done + (cntTo N lv i + _)
          rw [g.done, if_pos ⟨hb, hf⟩]; omega
structure FlG (N M : Bch) (lv : List Bool) (i : Nat) : Prop where
  n : M.n = N.n
  dn : M.down = false
  lf : M.left = N.left
  D : ∀ j, M.D j = flD lv (N.D j) i j
  done : M.done = N.done
theorem flushed_good {N : Bch} {lv : List Bool} (hd : N.down = false) : ∀ i, i ≤ N.n → (onTo flF lv N i).1 = 0 ∧ FlG N (onTo flF lv N i).2 lv i
  | 0, _ => ⟨rfl, rfl, hd, rfl, fun j => (if_neg (by omega)).symm, rfl⟩
  | i + 1, hi => by
    obtain ⟨h0, g⟩ := flushed_good (lv := lv) hd i (by omega)
    have hDi : (onTo flF lv N i).2.D i = N.D i := by rw [g.D i, flD_at]
    cases hb : lv.getD i false with
    | false =>
      rw [onTo_skip h0 hb]
      refine ⟨h0, g.n, g.dn, g.lf, fun j => ?_, g.done⟩
      by_cases e : j = i
      · subst e; rw [hDi, flD_next, if_neg (no0 hb)]
      · rw [flD_same e]; exact g.D j
    | true =>
      have hpw : (onTo flF lv N i).2.powE (i : Int) = 0 := Bch.powE_ok (Bch.pickE_ok (by omega) (by rw [g.n]; omega)) g.dn
      have e2 : (flF (onTo flF lv N i).2 i).2 = (onTo flF lv N i).2.set i (N.D i).flushE := by
        show (onTo flF lv N i).2.flush _ = _
        unfold Bch.flush; rw [if_neg (by simp [hpw])]
        show (onTo flF lv N i).2.set i ((onTo flF lv N i).2.D i).flushE = _
        rw [hDi]
      have hg : FlG N ((onTo flF lv N i).2.set i (N.D i).flushE) lv (i + 1) := by
        refine ⟨g.n, g.dn, g.lf, fun j => ?_, g.done⟩
        show upd (onTo flF lv N i).2.D i _ j = _
        by_cases e : j = i
        · subst e; rw [upd_same, flD_next, if_pos hb]
        · rw [upd_other _ _ e, flD_same e]; exact g.D j
      cases hf : (N.D i).f with
      | true =>
        have e1 : (flF (onTo flF lv N i).2 i).1 = 5 := by
          show (onTo flF lv N i).2.flushE _ = 5
          unfold Bch.flushE; rw [if_neg (by simp [hpw]), if_pos]
          show ((onTo flF lv N i).2.D i).f = true
          rw [hDi]; exact hf
        rw [onTo_pass h0 hb e1, e2]
        exact ⟨rfl, hg⟩
      | false =>
        have e1 : (flF (onTo flF lv N i).2 i).1 = 0 := by
          show (onTo flF lv N i).2.flushE _ = 0
          unfold Bch.flushE; rw [if_neg (by simp [hpw]), if_neg]
          show ¬ ((onTo flF lv N i).2.D i).f = true
          rw [hDi, hf]; decide
        rw [onTo_goes h0 hb (by rw [e1]; decide)]
        exact ⟨e1, by rw [e2]; exact hg⟩
/-- What a Store makes of a disk. -/
def stD (lv : List Bool) (s : Su) (D : Dsk) (j : Nat) : Dsk := if lv.getD j false = true ∧ D.f = false then (D.write (slotI s.g) (suB s)).flush else D
structure StG (N M : Bch) (lv : List Bool) (s : Su) : Prop where
  n : M.n = N.n
  dn : M.down = false
  lf : M.left = -1
  D : ∀ j, j < N.n → M.D j = stD lv s (N.D j) j
  done : M.done = N.done + cntTo N lv (min N.n lv.length)
theorem store_good {N : Bch} {lv : List Bool} {s : Su} (hs : suOk s = true) (hd : N.down = false) (hl : N.left = -1) : (storeS N lv s).1 = 0 ∧ StG N (storeS N lv s).2 lv s := by
  obtain ⟨h0, g⟩ := wrote_good (lv := lv) (k := slotI s.g) (x := suB s) (by have := slotI_lt s.g; omega) (suB_len s) hd hl (min N.n lv.length) (by omega)
  have e : storeS N lv s = onTo flF lv (wroteS N lv s).2 (min N.n lv.length) := by
    unfold storeS; rw [if_neg (by simp [hs]), if_neg (fun h => h h0)]
  have g' : WrG N (wroteS N lv s).2 lv (slotI s.g) (suB s) (min N.n lv.length) := g
  obtain ⟨f0, f⟩ := flushed_good (N := (wroteS N lv s).2) (lv := lv) g'.dn (min N.n lv.length) (by rw [g'.n]; omega)
  rw [e]
  refine ⟨f0, f.n.trans g'.n, f.dn, f.lf.trans g'.lf, fun j hj => ?_, f.done.trans g'.done⟩
  rw [f.D j, g'.D j]
  unfold flD wrD stD
  by_cases hb : lv.getD j false = true
  · have hjl : j < lv.length := by
      rcases Nat.lt_or_ge j lv.length with h | h
      · exact h
      · rw [List.getD_eq_getElem?_getD, List.getElem?_eq_none h] at hb; cases hb
    cases hf : (N.D j).f with
    | true =>
      rw [if_neg (no3 rfl), if_neg (no2 rfl), if_pos ⟨by omega, hb⟩]
      unfold Dsk.flushE
      rw [if_pos hf]
    | false =>
      rw [if_pos (show j < min N.n lv.length ∧ lv.getD j false = true ∧ false = false from ⟨by omega, hb, rfl⟩), if_pos ⟨by omega, hb⟩, if_pos ⟨hb, rfl⟩]
      unfold Dsk.flushE
      rw [if_neg (by show ¬ (N.D j).f = true; simp [hf])]
  · rw [if_neg (fun h => hb h.2), if_neg (fun h => hb h.2.1), if_neg (fun h => hb h.1)]
theorem stD_f (lv : List Bool) (s : Su) (D : Dsk) (j : Nat) : (stD lv s D j).f = D.f := by unfold stD; split <;> rfl
theorem stD_ps (lv : List Bool) (s : Su) {D : Dsk} (j : Nat) (h : D.ps = []) : (stD lv s D j).ps = [] := by unfold stD; split; rfl; exact h
theorem stD_ok (lv : List Bool) (s : Su) {D : Dsk} (j : Nat) (h : D.Ok) : (stD lv s D j).Ok := by
  unfold stD; split
  · exact (h.write (by have := slotI_lt s.g; omega) (suB_len s)).flush
  · exact h
theorem stD_not {lv : List Bool} {s : Su} {D : Dsk} {j : Nat} (h : lv.getD j false = false) : stD lv s D j = D := if_neg (no1 h)
theorem stD_sec {lv : List Bool} {s : Su} {D : Dsk} {j : Nat} (ho : D.Ok) (h : lv.getD j false = true) (hf : D.f = false) (k : Nat) : secAt (stD lv s D j).now k = if k = slotI s.g then suB s else secAt D.now k := by
  have hk := slotI_lt s.g
  unfold stD
  rw [if_pos ⟨h, hf⟩, Dsk.flush_now, Dsk.write_now]
  split
  · rename_i e; subst e; exact sec_put_same ho.now (by omega) (suB_len s)
  · rename_i e; exact sec_put_other ho.now (by omega) (suB_len s) e
theorem stD_slot {lv : List Bool} {s : Su} {D : Dsk} {j : Nat} (hs : suOk s = true) (ho : D.Ok) (h : lv.getD j false = true) (hf : D.f = false) (k : Nat) : slotL (stD lv s D j) k = if k = slotI s.g then [s] else slotL D k := by
  unfold slotL
  rw [stD_f, hf, if_neg (show ¬ false = true by decide), if_neg (show ¬ false = true by decide), stD_sec ho h hf k]
  by_cases e : k = slotI s.g
  · rw [if_pos e, if_pos e, if_pos (decO_suB hs), decS_suB hs]
  · rw [if_neg e, if_neg e]
end Go.Proofs.YtcjmebnbbpllnaaDoor
end
section
set_option maxRecDepth 8000
set_option linter.unusedVariables false
set_option linter.unusedSimpArgs false
namespace Go.Proofs.YtcjmebnbbpllnaaDoor
open Go.RowKit

structure KX (W w : World) (b : Nat) (H : BH) (N : Bch) (K : List (Nat × Obj)) : Prop where
  bp : BP W w b H N
  kp : ∀ p ∈ K, w.heap[p.1]? = some p.2 ∧ ¬ BF b H N.n p.1 ∧ W.heap.size ≤ p.1
section
variable {W w w' : World} {b : Nat} {H : BH} {N : Bch} {K : List (Nat × Obj)}
theorem KX.below (h : KX W w b H N K) (hb : Below w.heap.size w w') : KX W w' b H N K :=
  ⟨h.bp.grow hb, fun p hp => ⟨(hb.block _ (Array.getElem?_eq_some_iff.1 (h.kp p hp).1).1).trans (h.kp p hp).1, (h.kp p hp).2⟩⟩
theorem KX.bc (h : KX W w b H N K) {N' : Bch} (hc : BC W w w' b H N.n N') (hn : N'.n = N.n) : ∃ H', KX W w' b H' N' K := by
  obtain ⟨H', a, c, m⟩ := hc
  refine ⟨H', a, fun p hp => ?_⟩
  obtain ⟨h1, h2, h3⟩ := h.kp p hp
  have hl := (Array.getElem?_eq_some_iff.1 h1).1
  exact ⟨(c.block _ hl h2).trans h1, by rw [hn]; exact BC.off m hl h2, h3⟩
theorem KX.add (h : KX W w b H N K) (o : Obj) : KX W (w.alloc o) b H N ((w.heap.size, o) :: K) := by
  refine ⟨h.bp.alloc o, fun p hp => ?_⟩
  rcases List.mem_cons.1 hp with rfl | hp
  · exact ⟨heap_alloc_new _ _, (fun e => by have h9 : w.heap.size < w.heap.size := (h.bp.at'.flt e).2; omega), h.bp.bel.size⟩
  · exact (h.below (below1 w o)).kp p hp
theorem KX.box (h : KX W w b H N K) (o : Obj) {o' : Obj} (hg : (w.alloc o).grownBy w' (some w.heap.size)) (hb : w'.heap[w.heap.size]? = some o') : KX W w' b H N ((w.heap.size, o') :: K) := by
  have hB : Below w.heap.size w w' := (below1 w o).grown hg (by simp) (fun j e => by injection e with e; omega)
  refine ⟨h.bp.grow hB, fun p hp => ?_⟩
  rcases List.mem_cons.1 hp with rfl | hp
  · exact ⟨hb, (fun e => by have h9 : w.heap.size < w.heap.size := (h.bp.at'.flt e).2; omega), h.bp.bel.size⟩
  · exact (h.below hB).kp p hp
/-- A kept block is written. -/
theorem KX.put (h : KX W w b H N K) {p : Nat} {o o' : Obj} {K1 K2 : List (Nat × Obj)} (hK : K = K1 ++ (p, o) :: K2) (hg : w.grownBy w' (some p)) (hb : w'.heap[p]? = some o') (hne : ∀ r ∈ K1 ++ K2, r.1 ≠ p) : KX W w' b H N (K1 ++ (p, o') :: K2) := by
  subst hK
  have hp := h.kp (p, o) (by simp)
  have hch := chg_grown hg
  refine ⟨h.bp.chg hch (fun k e => by injection e with e; subst e; exact hp.2.2) (fun k hk e => by injection e with e; subst e; exact hp.2.1 hk), fun r hr => ?_⟩
  rcases List.mem_append.1 hr with h1 | h1
  · have h2 := h.kp r (by simp [h1])
    exact ⟨(hg.block _ (Array.getElem?_eq_some_iff.1 h2.1).1 (fun e => by injection e with e; exact hne r (by simp [h1]) e)).trans h2.1, h2.2⟩
  · rcases List.mem_cons.1 h1 with rfl | h1
    · exact ⟨hb, hp.2⟩
    · have h2 := h.kp r (by simp [h1])
      exact ⟨(hg.block _ (Array.getElem?_eq_some_iff.1 h2.1).1 (fun e => by injection e with e; exact hne r (by simp [h1]) e)).trans h2.1, h2.2⟩
end
theorem rdo_row {w : World} {g : Nat} {l : List Bool} {cs : Array Value} {t : TypeId} {f : Nat × Nat} (h : w.heap[g]? = some (.cells cs t f)) (hcs : cs = (l.map Value.bool).toArray) (hl : l.length ≤ 1000000) : RdO w w.heap.size (some ⟨g, 0, none⟩) l := by
  subst hcs
  refine ⟨by omega, fun hn => ⟨g, 0, rfl, (Array.getElem?_eq_some_iff.1 h).1, fun k hk => ?_⟩⟩
  rw [Nat.zero_add, cell_of_row w g k _ t f h, List.getElem?_toArray, List.getElem?_map, List.getElem?_eq_getElem hk]
  simp [List.getD_eq_getElem?_getD, hk]
theorem OwT.form {w : World} {B : Nat} {v : Value} {l : List Bool} (h : OwT w B v l) (hl : 0 < l.length) : ∃ g cap, v = .slice (some ⟨g, 0, none⟩) l.length cap ∧ l.length ≤ cap ∧ B ≤ g ∧ g < w.heap.size ∧ ∀ k, k < l.length → w.cell? ⟨g, k, none⟩ = some (.bool (l.getD k false)) := by
  obtain ⟨g, cap, rfl, hB, hg⟩ := World.ownsRow.form h hl
  obtain ⟨A, c, e, hc, _⟩ := own_form h
  injection e with _ _ e
  refine ⟨g, cap, rfl, by omega, hB, hg, fun k hk => ?_⟩
  rw [own_cell_at h k (by simp; exact hk), List.getElem?_map, List.getElem?_eq_getElem hk]
  simp [List.getD_eq_getElem?_getD, hk]
theorem OwT.rdo {w : World} {B g n cap : Nat} {l : List Bool} (h : OwT w B (.slice (some ⟨g, 0, none⟩) n cap) l) (hl : l.length ≤ 1000000) : RdO w w.heap.size (some ⟨g, 0, none⟩) l :=
  ⟨by omega, fun hn => by
    obtain ⟨g', cap', e, _, _, hg, hc⟩ := h.form hn
    injection e with e _ _
    injection e with e
    injection e with e
    subst e
    exact ⟨g, 0, rfl, hg, fun k hk => by rw [Nat.zero_add]; exact hc k hk⟩⟩
theorem store_n (N : Bch) (lv : List Bool) (s : Su) : (storeS N lv s).2.n = N.n := by
  unfold storeS
  repeat' split
  · rfl
  · exact wrote_n _
  · exact (flushed_n _).trans (wrote_n _)
theorem damage_n (N : Bch) (d k : Int) (x : List UInt8) : (N.damage d k x).n = N.n := by unfold Bch.damage; split <;> rfl
theorem fail_n (N : Bch) (d : Int) : (N.fail d).n = N.n := by unfold Bch.fail; split <;> rfl
theorem limit_n (N : Bch) (v : Int) : (N.limit v).n = N.n := by unfold Bch.limit; split <;> rfl
/-- Three of yes and no. -/
theorem ow3 {w : World} {B : Nat} {v : Value} {x y z : Bool} (h : OwT w B v [x, y, z]) : ∃ g cap, v = .slice (some ⟨g, 0, none⟩) 3 cap ∧ 3 ≤ cap ∧ B ≤ g ∧ g < w.heap.size ∧ w.cell? ⟨g, 0, none⟩ = some (.bool x) ∧ w.cell? ⟨g, 1, none⟩ = some (.bool y) ∧ w.cell? ⟨g, 2, none⟩ = some (.bool z) := by
  obtain ⟨g, cap, rfl, hc, hB, hl, hk⟩ := h.form (by simp)
  exact ⟨g, cap, rfl, hc, hB, hl, hk 0 (by simp), hk 1 (by simp), hk 2 (by simp)⟩
theorem KX.sat {W w : World} {b : Nat} {H : BH} {N : Bch} {K : List (Nat × Obj)} (h : KX W w b H N K) {p : Nat} {s : Su} {t : TypeId} {f : Nat × Nat} (hm : (p, Obj.cells (suL s).toArray t f) ∈ K) : SAt w p s := sat_block (h.kp _ hm).1
theorem KX.old {W w : World} {b : Nat} {H : BH} {N : Bch} {K : List (Nat × Obj)} (h : KX W w b H N K) {g : Nat} {o : Obj} (hg : w.heap[g]? = some o) (off : ¬ BF b H N.n g) (hW : W.heap.size ≤ g) : KX W w b H N ((g, o) :: K) :=
  ⟨h.bp, fun p hp => by
    rcases List.mem_cons.1 hp with rfl | hp
    · exact ⟨hg, off, hW⟩
    · exact h.kp p hp⟩
theorem KX.off {W w : World} {b : Nat} {H : BH} {N : Bch} {K : List (Nat × Obj)} (h : KX W w b H N K) {g : Nat} (hg : w.heap.size ≤ g) : ¬ BF b H N.n g := fun e => by have := (h.bp.at'.flt e).2; omega
section
variable {W w : World} {b : Nat} {H : BH} {N : Bch} {K : List (Nat × Obj)} (h : KX W w b H N K)
include h
/-- Store where there is power and no limit; live is a kept row. -/
theorem kx_store (s : Su) (hs : suOk s = true) (h64 : Su64 s) (ht : TabOk W) (hup : N.down = false) (hlf : N.left = -1) (lv : List Bool) (g n c : Nat) (l' : List Bool) (m : Nat) (cs : Array Value) (t : TypeId) (f : Nat × Nat)
    (hm : (g, Obj.cells cs t f) ∈ K) (hcs : cs = (l'.map Value.bool).toArray) (hlv : lv = l'.take m) (hl' : l'.length ≤ 1000000) (hn : n = lv.length) (hps : ∀ i, i < N.n → (N.D i).ps = []) (hdn : N.done ≤ 1000000) :
    Calls Tryd.prog 9 #[.pointer (some ⟨b, 0, none⟩), .slice (some ⟨g, 0, none⟩) n c, .agg #[.int .i64 s.g, .int .i64 s.al, .int .i64 s.ad, .int .i64 s.ac, .int .i64 s.bl, .int .i64 s.bd, .int .i64 s.bc, .bool s.r, .int .i64 s.wi, .int .i64 s.ep, .int .i64 s.ou]] w fun e w' => e = .returned (.int .i64 0) ∧ ∃ H' N', KX W w' b H' N' K ∧ StG N N' lv s := by
  have hk := h.kp _ hm
  have hr : RdO w w.heap.size (some ⟨g, 0, none⟩) lv := by rw [hlv]; exact (rdo_row hk.1 hcs hl').take m
  obtain ⟨h0, hg⟩ := store_good (N := N) (lv := lv) hs hup hlf
  refine (store_any W w b H N h.bp s h64 ht lv (some ⟨g, 0, none⟩) n c hn hr g (fun _ a e => by injection e with e; rw [← e]) hk.2.1 (fun i hi => by rw [hps i hi]; exact Nat.zero_le _) (by omega)).mono ?_
  rintro e w' ⟨rfl, hc⟩
  rw [h0]
  obtain ⟨H', k⟩ := h.bc hc hg.n
  exact ⟨rfl, H', _, k, hg⟩
theorem kx_refused (s : Su) (hs : suOk s = false) (h64 : Su64 s) (ht : TabOk W) (lv : List Bool) (g n c : Nat) (l' : List Bool) (m : Nat) (cs : Array Value) (t : TypeId) (f : Nat × Nat)
    (hm : (g, Obj.cells cs t f) ∈ K) (hcs : cs = (l'.map Value.bool).toArray) (hlv : lv = l'.take m) (hl' : l'.length ≤ 1000000) (hn : n = lv.length) (hps : ∀ i, i < N.n → (N.D i).ps = []) (hdn : N.done ≤ 1000000) :
    Calls Tryd.prog 9 #[.pointer (some ⟨b, 0, none⟩), .slice (some ⟨g, 0, none⟩) n c, .agg #[.int .i64 s.g, .int .i64 s.al, .int .i64 s.ad, .int .i64 s.ac, .int .i64 s.bl, .int .i64 s.bd, .int .i64 s.bc, .bool s.r, .int .i64 s.wi, .int .i64 s.ep, .int .i64 s.ou]] w fun e w' => e = .returned (.int .i64 1) ∧ ∃ H', KX W w' b H' N K := by
  have hk := h.kp _ hm
  have hr : RdO w w.heap.size (some ⟨g, 0, none⟩) lv := by rw [hlv]; exact (rdo_row hk.1 hcs hl').take m
  have e : storeS N lv s = (1, N) := if_pos hs
  refine (store_any W w b H N h.bp s h64 ht lv (some ⟨g, 0, none⟩) n c hn hr g (fun _ a e => by injection e with e; rw [← e]) hk.2.1 (fun i hi => by rw [hps i hi]; exact Nat.zero_le _) (by omega)).mono ?_
  rintro e' w' ⟨rfl, hc⟩
  rw [e] at hc ⊢
  obtain ⟨H', k⟩ := h.bc hc rfl
  exact ⟨rfl, H', k⟩
theorem kx_storeAny (s : Su) (h64 : Su64 s) (ht : TabOk W) (lv : List Bool) (g n c : Nat) (l' : List Bool) (m : Nat) (cs : Array Value) (t : TypeId) (f : Nat × Nat)
    (hm : (g, Obj.cells cs t f) ∈ K) (hcs : cs = (l'.map Value.bool).toArray) (hlv : lv = l'.take m) (hl' : l'.length ≤ 1000000) (hn : n = lv.length) (hps : ∀ i, i < N.n → (N.D i).ps = []) (hdn : N.done ≤ 1000000) (z : Int) (hz : (storeS N lv s).1 = z) :
    Calls Tryd.prog 9 #[.pointer (some ⟨b, 0, none⟩), .slice (some ⟨g, 0, none⟩) n c, .agg #[.int .i64 s.g, .int .i64 s.al, .int .i64 s.ad, .int .i64 s.ac, .int .i64 s.bl, .int .i64 s.bd, .int .i64 s.bc, .bool s.r, .int .i64 s.wi, .int .i64 s.ep, .int .i64 s.ou]] w fun e w' => e = .returned (.int .i64 z) ∧ ∃ H', KX W w' b H' (storeS N lv s).2 K := by
  subst hz
  have hk := h.kp _ hm
  have hr : RdO w w.heap.size (some ⟨g, 0, none⟩) lv := by rw [hlv]; exact (rdo_row hk.1 hcs hl').take m
  refine (store_any W w b H N h.bp s h64 ht lv (some ⟨g, 0, none⟩) n c hn hr g (fun _ a e => by injection e with e; rw [← e]) hk.2.1 (fun i hi => by rw [hps i hi]; exact Nat.zero_le _) (by omega)).mono ?_
  rintro e' w' ⟨rfl, hc⟩
  obtain ⟨H', k⟩ := h.bc hc (store_n _ _ _)
  exact ⟨rfl, H', k⟩
theorem kx_damage (d k : Int) (x : List UInt8) (A : Option Addr) (n c : Nat) (hn : n = x.length) (hd : i64B d) (hk : i64B k) (hr : RdB w w.heap.size A x) (hps : ∀ i, i < N.n → (N.D i).ps.length ≤ 1999990) :
    Calls Tryd.prog 12 #[.pointer (some ⟨b, 0, none⟩), .int .i64 d, .int .i64 k, .slice A n c] w fun e w' => e = .returned (.int .i64 (N.damageE d k n)) ∧ ∃ H', KX W w' b H' (N.damage d k x) K := by
  refine (bch_damage_any _ b H N w h.bp.at' d k x A n c hn hd hk hr (fun i hi => Nat.le_trans (hps i hi) (by omega))).mono ?_
  rintro e w' ⟨rfl, ht⟩
  obtain ⟨H', k'⟩ := h.bc (h.bp.to ht) (damage_n _ _ _ _)
  exact ⟨rfl, H', k'⟩
theorem kx_best (ht : TabOk W) : Calls Tryd.prog 11 #[.pointer (some ⟨b, 0, none⟩)] w fun e w' => ∃ v s, s = bestS N ∧ e = .returned (.tuple #[.agg #[.int .i64 s.g, .int .i64 s.al, .int .i64 s.ad, .int .i64 s.ac, .int .i64 s.bl, .int .i64 s.bd, .int .i64 s.bc, .bool s.r, .int .i64 s.wi, .int .i64 s.ep, .int .i64 s.ou], v, .int .i64 (bestE N)]) ∧ OwT w' w.heap.size v (hasL N) ∧ KX W w' b H N K ∧ Below w.heap.size w w' := by
  refine (best_any _ b H N w h.bp.at' (ht.below h.bp.bel ht.pos)).mono ?_
  rintro e w' ⟨v, s, hs, rfl, ho, hb⟩
  exact ⟨v, s, hs, rfl, ho, h.below hb, hb⟩
end
end Go.Proofs.YtcjmebnbbpllnaaDoor
end
section
set_option linter.unusedVariables false
set_option linter.unusedSimpArgs false
namespace Go.Proofs.YtcjmebnbbpllnaaDoor
open Go.RowKit

theorem su_eql (s t : Su) (w : World) : (binOp .eql 32 (.agg #[.int .i64 s.g, .int .i64 s.al, .int .i64 s.ad, .int .i64 s.ac, .int .i64 s.bl, .int .i64 s.bd, .int .i64 s.bc, .bool s.r, .int .i64 s.wi, .int .i64 s.ep, .int .i64 s.ou]) (.agg #[.int .i64 t.g, .int .i64 t.al, .int .i64 t.ad, .int .i64 t.ac, .int .i64 t.bl, .int .i64 t.bd, .int .i64 t.bc, .bool t.r, .int .i64 t.wi, .int .i64 t.ep, .int .i64 t.ou])).run Tryd.prog w = .ok (.bool (suEq s t)) w := by
  obtain ⟨a1, a2, a3, a4, a5, a6, a7, a8, a9, a10, a11⟩ := s
  obtain ⟨b1, b2, b3, b4, b5, b6, b7, b8, b9, b10, b11⟩ := t
  unfold suEq
  dsimp only
  by_cases h1 : a1 = b1
  · by_cases h2 : a2 = b2
    · by_cases h3 : a3 = b3
      · by_cases h4 : a4 = b4
        · by_cases h5 : a5 = b5
          · by_cases h6 : a6 = b6
            · by_cases h7 : a7 = b7
              · by_cases h8 : a8 = b8
                · by_cases h9 : a9 = b9
                  · by_cases h10 : a10 = b10
                    · by_cases h11 : a11 = b11
                      · subst h1 h2 h3 h4 h5 h6 h7 h8 h9 h10 h11
                        rw [decide_eq_true ⟨rfl, rfl, rfl, rfl, rfl, rfl, rfl, rfl, rfl, rfl, rfl⟩]
                        go_simp
                      · subst h1 h2 h3 h4 h5 h6 h7 h8 h9 h10
                        have n11 : (a11 == b11) = false := by simpa using h11
                        rw [decide_eq_false (fun h => h11 h.2.2.2.2.2.2.2.2.2.2)]
                        go_simp
                    · have n10 : (a10 == b10) = false := by simpa using h10
                      rw [decide_eq_false (fun h => h10 h.2.2.2.2.2.2.2.2.2.1)]
                      subst h1 h2 h3 h4 h5 h6 h7 h8 h9
                      go_simp
                  · have n9 : (a9 == b9) = false := by simpa using h9
                    rw [decide_eq_false (fun h => h9 h.2.2.2.2.2.2.2.2.1)]
                    subst h1 h2 h3 h4 h5 h6 h7 h8
                    go_simp
                · have n8 : (a8 == b8) = false := by simpa using h8
                  rw [decide_eq_false (fun h => h8 h.2.2.2.2.2.2.2.1)]
                  subst h1 h2 h3 h4 h5 h6 h7
                  go_simp
              · have n7 : (a7 == b7) = false := by simpa using h7
                rw [decide_eq_false (fun h => h7 h.2.2.2.2.2.2.1)]
                subst h1 h2 h3 h4 h5 h6
                go_simp
            · have n6 : (a6 == b6) = false := by simpa using h6
              rw [decide_eq_false (fun h => h6 h.2.2.2.2.2.1)]
              subst h1 h2 h3 h4 h5
              go_simp
          · have n5 : (a5 == b5) = false := by simpa using h5
            rw [decide_eq_false (fun h => h5 h.2.2.2.2.1)]
            subst h1 h2 h3 h4
            go_simp
        · have n4 : (a4 == b4) = false := by simpa using h4
          rw [decide_eq_false (fun h => h4 h.2.2.2.1)]
          subst h1 h2 h3
          go_simp
      · have n3 : (a3 == b3) = false := by simpa using h3
        rw [decide_eq_false (fun h => h3 h.2.2.1)]
        subst h1 h2
        go_simp
    · have n2 : (a2 == b2) = false := by simpa using h2
      rw [decide_eq_false (fun h => h2 h.2.1)]
      subst h1
      go_simp
  · have n1 : (a1 == b1) = false := by simpa using h1
    rw [decide_eq_false (fun h => h1 h.1)]
    go_simp
theorem su_neq (s t : Su) (w : World) : (binOp .neq 32 (.agg #[.int .i64 s.g, .int .i64 s.al, .int .i64 s.ad, .int .i64 s.ac, .int .i64 s.bl, .int .i64 s.bd, .int .i64 s.bc, .bool s.r, .int .i64 s.wi, .int .i64 s.ep, .int .i64 s.ou]) (.agg #[.int .i64 t.g, .int .i64 t.al, .int .i64 t.ad, .int .i64 t.ac, .int .i64 t.bl, .int .i64 t.bd, .int .i64 t.bc, .bool t.r, .int .i64 t.wi, .int .i64 t.ep, .int .i64 t.ou])).run Tryd.prog w = .ok (.bool (!suEq s t)) w := by
  have h := su_eql s t w
  rw [run_eql_struct] at h
  rw [run_neq_struct]
  generalize (Op.equalIn 10000 32 (.agg #[.int .i64 s.g, .int .i64 s.al, .int .i64 s.ad, .int .i64 s.ac, .int .i64 s.bl, .int .i64 s.bd, .int .i64 s.bc, .bool s.r, .int .i64 s.wi, .int .i64 s.ep, .int .i64 s.ou]) (.agg #[.int .i64 t.g, .int .i64 t.al, .int .i64 t.ad, .int .i64 t.ac, .int .i64 t.bl, .int .i64 t.bd, .int .i64 t.bc, .bool t.r, .int .i64 t.wi, .int .i64 t.ep, .int .i64 t.ou])).run Tryd.prog w = X at h ⊢
  cases X with
  | ok b w' =>
    simp only [Result.andThen] at h ⊢
    injection h with h1 h2
    injection h1 with h1
    subst h1 h2
    rfl
  | _ => simp [Result.andThen] at h
end Go.Proofs.YtcjmebnbbpllnaaDoor
end
section
namespace Go.Proofs.YtcjmebnbbpllnaaDoor
open Go.ChangeShapes Go.WideShapes Go.ChangeAt Go.RowKit

section
variable {H : Type} {enc : TypeId × Value → H} {P : Program}

/-- All arguments read behind the call as they did, where nothing old has turned. -/
theorem args_again (hl : laidOutB P = true) {W W' : World} (hb : Below W.heap.size W W') :
    ∀ {ts : List TypeId} {vs : List Value} {ds : List (DataW H)} {p : List MemPlace}, (∀ t ∈ ts, P.readableRec t = true ∧ t < P.types.size) →
      DataW.TrodAll enc P W 0 (fun _ => true) true ts vs ds p → (∀ x ∈ p, x.block < W.heap.size) → DataW.TrodAll enc P W' 0 (fun b => decide (b < W.heap.size)) true ts vs ds p
  | [], _, _, _, _, h, _ => by
    obtain ⟨rfl, rfl, rfl⟩ := trodAll_nil h
    exact trodAll_mk0
  | t :: ts, _, _, _, hts, h, hlt => by
    obtain ⟨v, vs1, d, ds1, a, b, rfl, rfl, rfl, h1, h2⟩ := trodAll_cons h
    have ht := hts t (by simp)
    exact trodAll_cons_mk (Below.trod hl ht.1 ht.2 h1 hb fun x hx => hlt x (by simp [hx])) (args_again hl hb (fun t' ht' => hts t' (by simp [ht'])) h2 fun x hx => hlt x (by simp [hx]))

/-- A law's row behind the walk: true came back, and nothing old has turned. -/
theorem law_post {f : Func} {s : ChangeSpec} {W W' : World} {args : Array Value} {ds gs : List (DataW H)} {before : List MemPlace} {tb : TypeId} (hl : laidOutB P = true)
    (hts0 : (f.params.toList.all fun t => P.readableRec t && decide (t < P.types.size)) = true) (hv : s.vars = []) (hr : f.resultTypes = #[tb]) (htb : P.underlying tb = some .bool)
    (hfn : ∀ l : List (DataW H), l.length = f.params.size → (s.fn H l).results = [.lit (.bool true)] ∧ (s.fn H l).args = l ∧ (s.fn H l).vars = [])
    (hW : DataW.Whole enc P f.params.toList s.vars false W args.toList ds gs before) (hb : Below W.heap.size W W') :
    ∃ v, Ending.returned (.bool true) = .returned v ∧ s.post enc P f false true false false W args v W' := by
  have hts : ∀ t ∈ f.params.toList, P.readableRec t = true ∧ t < P.types.size := fun t ht => by simpa using List.all_eq_true.1 hts0 t ht
  have hW' := hW
  obtain ⟨p, q, hA, hV, rfl, hfz, hnd⟩ := hW
  rw [hv] at hV
  obtain ⟨rfl, rfl⟩ := trodVars_none hV
  have hlen : ds.length = f.params.size := by
    have : ∀ {ts : List TypeId} {vs : List Value} {ds : List (DataW H)} {p : List MemPlace}, DataW.TrodAll enc P W 0 (fun _ => true) true ts vs ds p → ds.length = ts.length := by
      intro ts
      induction ts with
      | nil => intro vs ds p h; obtain ⟨rfl, rfl, rfl⟩ := trodAll_nil h; rfl
      | cons t ts ih => intro vs ds p h; obtain ⟨v, vs1, d, ds1, a, b, rfl, rfl, rfl, h1, h2⟩ := trodAll_cons h; simp [ih h2]
    simpa using this hA
  obtain ⟨e1, e2, e3⟩ := hfn ds hlen
  have hlt : ∀ x ∈ p ++ [], x.block < W.heap.size := fun x hx => by simpa using hW'.lt x hx
  refine ⟨_, rfl, _, _, _, [], p, [], hW', ?_, ?_, ?_, hb.frame _, fun h => by cases h⟩
  · rw [List.append_nil, e1, hr]
    exact trodAll_mk1 (shut_bool htb _)
  · rw [List.append_nil, e2]
    exact args_again hl hb hts hA (by simpa using hlt)
  · rw [List.append_nil, e3, hv]
    rfl

theorem byte_of {z : Int} (h : 0 ≤ z ∧ z ≤ 255) : ∃ b : UInt8, z = (b.toNat : Int) := ⟨UInt8.ofNat z.toNat, by rw [UInt8.toNat_ofNat', Nat.mod_eq_of_lt (by omega)]; omega⟩
/-- No parameter wants a stand-in: what a card asks. -/
theorem plain_of {name : String} {f0 : FuncId} {fn0 : Func} (h1 : P.funcNamed name = some f0) (h2 : P.funcs[f0]? = some fn0) (h3 : P.looks [] = false) (h4 : (fn0.params.toList.all fun t => !P.wantsStandIn t) = true) (f : FuncId) (fn : Func)
    (hf : P.funcNamed name = some f) (hfn : P.funcs[f]? = some fn) : false = P.looks [] ∧ ∀ (j : Nat) t, fn.params[j]? = some t → P.wantsStandIn t = false := by
  obtain rfl : f = f0 := Option.some.inj (hf.symm.trans h1)
  obtain rfl : fn = fn0 := Option.some.inj (hfn.symm.trans h2)
  refine ⟨h3.symm, fun j t ht => ?_⟩
  have := List.all_eq_true.1 h4 t (by simpa using Array.mem_of_getElem? ht)
  simpa using this

/-- A slice of bytes that came in. -/
theorem open_bytes {t e : TypeId} (ht : P.underlying t = some (.slice e)) (he : P.underlying e = some (.int .u8)) (hc : P.cellsOf e = 1) (hby : P.bytesOf e = 1) {r : Reach} {W : World} {base : Nat} {v : Value} {d : DataW H} {p : List MemPlace}
    (hv : Value.okWide P W r base t v) (h : DataW.Trod enc P W 0 (fun _ => true) true t v d p) (hs : ∀ n ∈ d.weights P t, n ≤ reachBytes) :
    ∃ A bs cap, v = .slice A bs.length cap ∧ bs.length ≤ cap ∧ cap ≤ 140737488355328 ∧ RdB W W.heap.size A bs := by
  obtain ⟨A, len, cap, rfl⟩ := okWide_slice ht hv
  obtain ⟨fuel, hf⟩ := h
  rcases open_ints ht he hc hf with ⟨hcs, _⟩ | ⟨x, l, c, zs, hcs, _, hl, hm, hz, hd, hcell, hwz⟩
  · simp [Value.cells] at hcs
    obtain ⟨rfl, rfl, rfl⟩ := hcs
    exact ⟨none, [], 0, rfl, Nat.le_refl _, by omega, RdB.nil _ _ _⟩
  · simp [Value.cells] at hcs
    obtain ⟨rfl, rfl, rfl⟩ := hcs
    simp only [if_true] at hz
    have hcap : cap ≤ 140737488355328 := by
      injection hd with hd1 hd2
      have := hs ((((zs.take len).map fun z => (DataW.lit (.int .u8 z) : DataW H)).length + ((zs.drop len).map fun z => (DataW.lit (.int .u8 z) : DataW H)).length) * P.bytesOf e) (by rw [hd1]; simp [DataW.weights, ht, lits])
      rw [hby] at this
      simp [reachBytes] at this
      omega
    have hb : ∀ k, k < zs.length → ∃ b : UInt8, zs.getD k 0 = (b.toNat : Int) := fun k hk => by
      have hmem : zs.getD k 0 ∈ zs := by simp [hk]
      have hw := bounds_u8 (hwz _ hmem)
      refine ⟨UInt8.ofNat (zs.getD k 0).toNat, ?_⟩
      rw [UInt8.toNat_ofNat', Nat.mod_eq_of_lt (by omega)]
      omega
    refine ⟨some x, (zs.take len).map fun z => UInt8.ofNat z.toNat, cap, ?_, ?_, hcap, ?_⟩
    · simp; omega
    · simp; omega
    · refine ⟨by simp; omega, fun hn => ?_⟩
      simp at hn
      obtain ⟨b, off, spot⟩ := x
      have hc0 := hcell 0 (by omega)
      have hspot : spot = none := by simpa [Addr.add] using World.cell?_spot hc0
      subst hspot
      refine ⟨b, off, rfl, ?_, fun k hk => ?_⟩
      · have := World.block_lt_of_cell? _ _ hc0
        simpa [Addr.add] using this
      · simp at hk
        have hk1 := hcell k (by omega)
        obtain ⟨bb, hbb⟩ := hb k (by omega)
        rw [hbb] at hk1
        have e1 : ((⟨b, off, none⟩ : Addr).add k) = ⟨b, off + k, none⟩ := by unfold Addr.add; by_cases hk0 : k = 0 <;> simp [hk0]
        rw [e1] at hk1
        rw [hk1]
        have e2 : zs[k]? = some (bb.toNat : Int) := by rw [← hbb, List.getD_eq_getElem?_getD, List.getElem?_eq_getElem (by omega)]; rfl
        have e3 : ((zs.take len).map fun z => UInt8.ofNat z.toNat).getD k 0 = bb := by
          rw [List.getD_eq_getElem?_getD, List.getElem?_map, List.getElem?_take, if_pos (by omega), e2]
          simp
        rw [e3]
end
end Go.Proofs.YtcjmebnbbpllnaaDoor
end
section
namespace Go.Proofs.YtcjmebnbbpllnaaDoor
open Go.ChangeShapes Go.WideShapes Go.ChangeAt Go.RowKit

theorem laidOut : laidOutB Tryd.prog = true := by kernel_rfl
theorem own : ownKnob Tryd.prog.godebug = none := by kernel_rfl
theorem gTab : Tryd.prog.globalNamed "wattle/crc.nibbles" = some 0 := by kernel_rfl
theorem gTabType : (Tryd.prog.globals[0]?).map (·.type) = some 124 := by kernel_rfl
theorem cellsTab : Tryd.prog.cellsOf 124 = 16 := by kernel_rfl
theorem cellsU32 : Tryd.prog.cellsOf 113 = 1 := by kernel_rfl
def laidAll : List (String × DataW Unit) := [("wattle/crc.nibbles", Rows.laid_wattle_crc_nibbles)]
theorem table {W : World} (h : laidMetH Tryd.prog laidAll W) : Lib.TabIs Tryd.prog W "wattle/crc.nibbles" .u32 (nibs.map fun n : Nat => (n : Int)) :=
  Lib.tabIs_of_head (rest := []) gTab gTabType Tryd.underlying124 Tryd.underlying113 cellsU32 cellsTab h
theorem tabOk {W : World} (h : laidMetH Tryd.prog laidAll W) : TabOk W := fun i hi => by
  have h1 := (table h).cell gTab i (by simpa [nibs] using hi)
  rw [h1, (show ∀ i, i < 16 → (nibs.map fun n : Nat => (n : Int)).getD i 0 = ((nibs.getD i 0 : Nat) : Int) by decide) i hi]
/-- A world for the witness: the settled one, the table (block 0) holding what its initialiser lays. -/
noncomputable def laidWorld (os : Os) : World :=
  { World.holding Tryd.prog os ⟨#[], #[], []⟩ with heap := (World.holding Tryd.prog os ⟨#[], #[], []⟩).heap.modify 0 fun
      | .cells _ t frozen => .cells #[.int .u32 0, .int .u32 274646895, .int .u32 549293790, .int .u32 820201905, .int .u32 1098587580, .int .u32 1361435347, .int .u32 1640403810, .int .u32 1905808397, .int .u32 2197175160, .int .u32 2460548119, .int .u32 2722870694, .int .u32 2987750089, .int .u32 3280807620, .int .u32 3553878443, .int .u32 3811616794, .int .u32 4084100981] t frozen
      | o => o }
end Go.Proofs.YtcjmebnbbpllnaaDoor
end
