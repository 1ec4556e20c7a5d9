/- Texts put together: BakLaw. -/
import Derived.Test.YtjnemopocmhfkaaDoorBlbj
section
set_option maxRecDepth 20000
set_option linter.unusedVariables false
set_option linter.unusedSimpArgs false
namespace Go.Proofs.YtjnemopocmhfkaaDoor
open Go.RowKit

theorem got_no {N : Bch} {lv : List Bool} {e x : Int} (h : ∀ i, i < N.n → lv.getD i false = true → hitB N e.toNat x.toNat i = false) : gotB N lv e x = false ∧ gotL N lv e x = [] := by
  have h1 : getB N lv e.toNat x.toNat N.n = false := by
    rw [Bool.eq_false_iff]
    intro q
    obtain ⟨j, hj, hl, hh⟩ := getB_iff.1 q
    rw [h j hj hl] at hh
    exact absurd hh (by decide)
  unfold gotB gotL
  rw [h1, getL_none h1]
  exact ⟨Bool.and_false _, by split <;> rfl⟩
/-- What some live disk has, and whoever has one has the same. -/
theorem got_yes {N : Bch} {lv : List Bool} {e x : Nat} {ds : List (List UInt8)} (hm : bkMay (e : Int) (x : Int) = true) {k : Nat} (hk : k < N.n) (hl : lv.getD k false = true) (hh : hitB N e x k = true) (hd : ∀ i, i < N.n → hitB N e x i = true → hitL N i = ds) : gotB N lv (e : Int) (x : Int) = true ∧ gotL N lv (e : Int) (x : Int) = ds := by
  have h1 : getB N lv e x N.n = true := getB_iff.2 ⟨k, hk, hl, hh⟩
  obtain ⟨j, hj, _, h3, h4⟩ := getL_of h1
  unfold gotB gotL
  rw [hm, if_pos rfl]
  exact ⟨h1, h4.trans (hd j hj h3)⟩
theorem bkBad_secs {e x : Int} (h : bkMay e x = true) (zs : List Int) {n : Nat} (hn : n ≤ 28) : bkBad e x (sectorsB zs n) = false := bkBad_ok h (by rw [sectorsB_len]; omega) sectorsB_mem
theorem fail_D {N : Bch} {d : Nat} (hd : d < N.n) (i : Nat) : (N.fail (d : Int)).D i = if i = d then Dsk.failed else N.D i := by
  unfold Bch.fail
  rw [if_neg (by rw [Bch.pickE_ok (by omega) (by omega)]; decide)]
  show upd N.D _ _ i = _
  by_cases e : i = d
  · subst e; rw [if_pos rfl]; exact upd_same _ _ _
  · rw [if_neg e]; exact upd_other _ _ (by omega)
/-- One disk alone is live: what BackupLive asks. -/
structure OneL (N : Bch) (k : Nat) (ds : List (List UInt8)) : Prop where
  put : (bkS (Bch.new 3) [decide (k = 0), decide (k = 1), decide (k = 2)] 7 3 ds) = (0, N)
  done : N.done = ds.length + 1
  small : ∀ i, i < N.n → (N.D i).ps.length ≤ 1999000
  n : N.n = 3
  all : gotB N [true, true, true] 7 3 = true ∧ gotL N [true, true, true] 7 3 = ds
  no : gotB N [!decide (k = 0), !decide (k = 1), !decide (k = 2)] 7 3 = false
  few : gotB N ([decide (k = 0), decide (k = 1), decide (k = 2)].take k) 7 3 = false
  gone : gotB (N.fail (k : Int)) [decide (k = 0), decide (k = 1), decide (k = 2)] 7 3 = false
theorem one_get {k i : Nat} (hi : i < 3) : [decide (k = 0), decide (k = 1), decide (k = 2)].getD i false = decide (i = k) := by
  obtain rfl | rfl | rfl : i = 0 ∨ i = 1 ∨ i = 2 := by omega
  · exact decide_eq_decide.2 (by omega)
  · exact decide_eq_decide.2 (by omega)
  · exact decide_eq_decide.2 (by omega)
theorem one_live {k : Nat} (hk : k < 3) (zs : List Int) {n : Nat} (hn : n ≤ 28) : ∃ N, OneL N k (sectorsB zs n) := by
  obtain ⟨h0, P⟩ := cl_put (Cl.new 3) (lv := [decide (k = 0), decide (k = 1), decide (k = 2)]) (bkBad_secs (e := 7) (x := 3) (by decide) zs hn)
  obtain ⟨r, hr⟩ : ∃ r, bkS (Bch.new 3) [decide (k = 0), decide (k = 1), decide (k = 2)] 7 3 (sectorsB zs n) = r := ⟨_, rfl⟩
  rw [hr] at h0 P
  obtain ⟨e, N⟩ := r
  have h0' : e = 0 := h0
  subst h0'
  have P' : Cp (Bch.new 3) N 3 [decide (k = 0), decide (k = 1), decide (k = 2)] (bkB 7 3 (sectorsB zs n) :: sectorsB zs n) := P
  have hn3 := P'.cl.n
  have hH : Has (N.D k) 7 3 (sectorsB zs n) := P'.has (by rw [sectorsB_len]; omega) hk (by rw [one_get hk]; simp)
  have hZ : ∀ i, i < 3 → i ≠ k → secAt (N.D i).now 6 = List.replicate 32 0 := fun i hi hne => by
    rw [P'.other hi (by rw [one_get hi, decide_eq_false hne]) 6]; exact new_sec6 3 i (by omega)
  have hhit := hit_has P'.cl hH (e' := 7) (x' := 3) (by omega) (by omega) (by omega) (by omega)
  have hnot : ∀ i, i < N.n → i ≠ k → hitB N 7 3 i = false := fun i hi hne => hit_none (hZ i (by omega) hne) 7 3
  have hno2 : ∀ i, i < N.n → i ≠ k → hitB N (7 : Int).toNat (3 : Int).toNat i = false := fun i hi hne => by rw [show (7 : Int).toNat = 7 from rfl, show (3 : Int).toNat = 3 from rfl]; exact hnot i hi hne
  refine ⟨N, hr, ?_, fun i _ => by rw [P'.cl.ps i]; exact Nat.zero_le _, hn3, ?_, ?_, ?_, ?_⟩
  · rw [P'.done]
    have hc : cntTo (Bch.new 3) [decide (k = 0), decide (k = 1), decide (k = 2)] 3 = 1 := by
      obtain rfl | rfl | rfl : k = 0 ∨ k = 1 ∨ k = 2 := by omega
      · decide
      · decide
      · decide
    rw [hc]
    show 0 + 1 * ((sectorsB zs n).length + 1) = _
    omega
  · rw [show (7 : Int) = ((7 : Nat) : Int) from rfl, show (3 : Int) = ((3 : Nat) : Int) from rfl]
    refine got_yes (e := 7) (x := 3) (k := k) (by decide) (by omega) ?_ ?_ fun i hi hh => ?_
    · obtain rfl | rfl | rfl : k = 0 ∨ k = 1 ∨ k = 2 := by omega
      · rfl
      · rfl
      · rfl
    · rw [hhit.1]; decide
    · by_cases q : i = k
      · rw [q]; exact hhit.2
      · rw [hnot i hi q] at hh; exact absurd hh (by decide)
  · refine (got_no fun i hi hl => hno2 i hi fun q => ?_).1
    subst q
    obtain rfl | rfl | rfl : i = 0 ∨ i = 1 ∨ i = 2 := by omega
    · exact absurd hl (by decide)
    · exact absurd hl (by decide)
    · exact absurd hl (by decide)
  · refine (got_no fun i hi hl => hno2 i hi fun q => ?_).1
    subst q
    rw [List.getD_eq_getElem?_getD, List.getElem?_eq_none (by simp; omega)] at hl
    exact absurd hl (by decide)
  · refine (got_no fun i hi hl => ?_).1
    rw [fail_n] at hi
    by_cases q : i = k
    · unfold hitB goneB
      rw [fail_D (by omega), if_pos q, show Dsk.failed.f = true from rfl, Bool.or_true]; rfl
    · exact hit_none (by rw [fail_D (by omega), if_neg q]; exact hZ i (by omega) q) _ _
end Go.Proofs.YtjnemopocmhfkaaDoor
end
