/- BenchReplace: plain. -/
import Derived.Test.YtpiilfgikgkneaaBchP
import Derived.Test.YtpiilfgikgkneaaMdl
namespace Go.Proofs.Ytpiilfgikgkneaa
open Go.RowKit

def valR (l : List Int) (i : Nat) : Int := if i < l.length then l.getD i 0 else (i : Int)
def qs (l : List Int) (d : Nat) : Nat → List (Nat × List UInt8)
  | 0 => []
  | m + 1 => qs l d m ++ (if m % 4 = d then [(m / 4, sectorB (valR l m))] else [])
theorem qs_ok (l : List Int) (d : Nat) : ∀ m, m ≤ 208 → WOk (qs l d m)
  | 0, _ => WOk.nil
  | m + 1, h => by
    unfold qs
    split
    · exact (qs_ok l d m (by omega)).snoc (by omega) (sectorB_len _)
    · rw [List.append_nil]; exact qs_ok l d m (by omega)
theorem qs_last (l : List Int) {d : Nat} (hd : d < 4) (k : Nat) : ∀ m, lastOf (qs l d m) k = if 4 * k + d < m then some (sectorB (valR l (4 * k + d))) else none
  | 0 => rfl
  | m + 1 => by
    have ih := qs_last l hd k m
    unfold qs
    by_cases c : m % 4 = d
    · rw [if_pos c, lastOf_snoc]
      by_cases e : m / 4 = k
      · have hm : m = 4 * k + d := by omega
        rw [if_pos e, if_pos (by omega), hm]
      · rw [if_neg e, ih]
        by_cases h : 4 * k + d < m
        · rw [if_pos h, if_pos (by omega)]
        · rw [if_neg h, if_neg (by omega)]
    · rw [if_neg c, List.append_nil, ih]
      by_cases h : 4 * k + d < m
      · rw [if_pos h, if_pos (by omega)]
      · rw [if_neg h, if_neg (by omega)]
theorem qs_len (l : List Int) {d : Nat} (hd : d < 4) : ∀ m, (qs l d m).length = (m + 3 - d) / 4
  | 0 => by show 0 = _; omega
  | m + 1 => by
    have ih := qs_len l hd m
    unfold qs
    rw [List.length_append, ih]
    by_cases c : m % 4 = d
    · rw [if_pos c]; show _ + 1 = _; omega
    · rw [if_neg c]; show _ + 0 = _; omega
def RB (l : List Int) (m : Nat) : Bch := ⟨4, fun d => ⟨zeroS, qs l d m, false⟩, m, -1, false⟩
theorem RB_zero (l : List Int) : RB l 0 = Bch.new 4 := rfl
theorem qs_le (l : List Int) (d m : Nat) : (qs l d m).length ≤ m := by
  induction m with
  | zero => exact Nat.le_refl _
  | succ m ih =>
    unfold qs
    rw [List.length_append]
    split
    · show _ + 1 ≤ _; omega
    · show _ + 0 ≤ _; omega
theorem RB_ps (l : List Int) (m : Nat) (hm : m ≤ 208) (j : Nat) : ((RB l m).D j).ps.length ≤ 2000000 := by
  have := qs_le l j m
  show (qs l j m).length ≤ _
  omega
theorem RB_step (l : List Int) {i : Nat} (hi : i < 208) : (RB l i).writeE ((i : Int) % 4) ((i : Int) / 4) 32 = 0 ∧ (RB l i).write ((i : Int) % 4) ((i : Int) / 4) (sectorB (valR l i)) = RB l (i + 1) := by
  have hw := Bch.write_ok (N := RB l i) (d := i % 4) (k := i / 4) (x := sectorB (valR l i)) (Nat.mod_lt _ (by decide)) (by omega) (sectorB_len _) rfl rfl (by show (-1 : Int) ≠ 0; omega)
  rw [sectorB_len, Bch.count_free rfl, show ((i % 4 : Nat) : Int) = (i : Int) % 4 by omega, show ((i / 4 : Nat) : Int) = (i : Int) / 4 by omega] at hw
  refine ⟨hw.1, hw.2.trans ?_⟩
  show (⟨4, upd (RB l i).D (i % 4) _, i + 1, -1, false⟩ : Bch) = ⟨4, _, i + 1, -1, false⟩
  congr 1
  funext j
  by_cases e : j = i % 4
  · rw [e, upd_same]
    show (⟨zeroS, qs l (i % 4) i ++ [(i / 4, sectorB (valR l i))], false⟩ : Dsk) = ⟨zeroS, qs l (i % 4) i ++ (if i % 4 = i % 4 then _ else _), false⟩
    rw [if_pos rfl]
  · rw [upd_other _ _ e]
    show (⟨zeroS, qs l j i, false⟩ : Dsk) = ⟨zeroS, qs l j i ++ (if i % 4 = j then _ else _), false⟩
    rw [if_neg (fun h => e h.symm), List.append_nil]
theorem upd_upd {α : Type} (f : Nat → α) (i : Nat) (x y : α) : upd (upd f i x) i y = upd f i y := by
  funext j
  by_cases e : j = i
  · rw [e, upd_same, upd_same]
  · rw [upd_other _ _ e, upd_other _ _ e, upd_other _ _ e]
theorem Bch.set_set (N : Bch) (i : Nat) (x y : Dsk) : (N.set i x).set i y = N.set i y := by unfold Bch.set; rw [upd_upd]
/-- Behind Fail. -/
def RF (l : List Int) (d : Nat) : Bch := (RB l 208).set d Dsk.failed
def RN (l : List Int) (d : Nat) : Bch := (RB l 208).set d Dsk.new
section
variable (l : List Int) {d : Nat}
theorem RF_at : (RF l d).at_ (d : Int) = Dsk.failed := upd_same _ _ _
theorem RN_at : (RN l d).at_ (d : Int) = Dsk.new := upd_same _ _ _
theorem RN_f (j : Nat) : ((RN l d).D j).f = false := by
  show (upd (RB l 208).D d Dsk.new j).f = false
  by_cases c : j = d
  · rw [c, upd_same]; rfl
  · rw [upd_other _ _ c]; rfl
theorem RF_ps (j : Nat) : ((RF l d).D j).ps.length ≤ 2000000 := by
  show (upd (RB l 208).D d Dsk.failed j).ps.length ≤ _
  by_cases c : j = d
  · rw [c, upd_same]; exact Nat.zero_le _
  · rw [upd_other _ _ c]; exact RB_ps l 208 (Nat.le_refl _) j
variable (hd : d < 4)
include hd
theorem pick4 (N : Bch) (hn : N.n = 4) : N.pickE (d : Int) = 0 := Bch.pickE_ok (by omega) (by omega)
theorem RB_fail : (RB l 208).fail (d : Int) = RF l d := by unfold Bch.fail; rw [if_neg (fun e => e (pick4 hd _ rfl))]; rfl
theorem RF_fail : (RF l d).fail (d : Int) = RF l d := by
  unfold Bch.fail
  rw [if_neg (fun e => e (pick4 hd (RF l d) rfl))]
  exact Bch.set_set _ _ _ _
theorem RF_failed : (RF l d).failed (d : Int) = true := by unfold Bch.failed; rw [if_neg (fun e => e (pick4 hd (RF l d) rfl)), RF_at l]; rfl
theorem RN_failed : (RN l d).failed (d : Int) = false := by unfold Bch.failed; rw [if_neg (fun e => e (pick4 hd (RN l d) rfl)), RN_at l]; rfl
theorem RF_replace : (RF l d).replaceE (d : Int) = 0 ∧ (RF l d).replace (d : Int) = RN l d := by
  have h : (RF l d).replaceE (d : Int) = 0 := by unfold Bch.replaceE; rw [if_neg (fun e => e (pick4 hd (RF l d) rfl)), RF_at l]; rfl
  refine ⟨h, ?_⟩
  unfold Bch.replace
  rw [if_neg (fun e => e h)]
  exact Bch.set_set _ _ _ _
theorem RN_replace : (RN l d).replaceE (d : Int) = 9 ∧ (RN l d).replace (d : Int) = RN l d := by
  have h : (RN l d).replaceE (d : Int) = 9 := by unfold Bch.replaceE; rw [if_neg (fun e => e (pick4 hd (RN l d) rfl)), RN_at l]; rfl
  refine ⟨h, ?_⟩
  unfold Bch.replace
  rw [if_pos (by rw [h]; simp)]
theorem RF_pend : (RF l d).pend = 156 := by
  have h := fun j (hj : j < 4) => qs_len l hj 208
  have e : ∀ j, j < 4 → ((RF l d).D j).ps.length = if j = d then 0 else 52 := fun j hj => by
    by_cases c : j = d
    · rw [if_pos c, c]
      show (upd (RB l 208).D d Dsk.failed d).ps.length = 0
      rw [upd_same]; rfl
    · rw [if_neg c]
      show (upd (RB l 208).D d Dsk.failed j).ps.length = 52
      rw [upd_other _ _ c]
      show (qs l j 208).length = 52
      rw [h j hj]; omega
  show 0 + ((RF l d).D 0).ps.length + ((RF l d).D 1).ps.length + ((RF l d).D 2).ps.length + ((RF l d).D 3).ps.length = 156
  rw [e 0 (by omega), e 1 (by omega), e 2 (by omega), e 3 (by omega)]
  split <;> split <;> split <;> split <;> omega
theorem RN_sec (i : Nat) (hi : i < 208) : secAt ((RN l d).D (i % 4)).now (i / 4) = if i % 4 = d then List.replicate 32 0 else sectorB (valR l i) := by
  have h4 : i % 4 < 4 := Nat.mod_lt _ (by decide)
  have hi4 : 4 * (i / 4) + i % 4 = i := by omega
  show secAt (upd (RB l 208).D d Dsk.new (i % 4)).now (i / 4) = _
  by_cases c : i % 4 = d
  · rw [if_pos c, c, upd_same]
    exact sec_zero (by omega)
  · rw [if_neg c, upd_other _ _ c]
    show secAt (nowOf zeroS (qs l (i % 4) 208)) (i / 4) = _
    rw [nowOf_sec zeroS_len (qs_ok _ _ _ (by omega)) _ (by omega), qs_last l h4, hi4, if_pos hi]
    rfl
end
end Go.Proofs.Ytpiilfgikgkneaa
