/- RowLoses: what is told in the end. -/
import Derived.Test.YtbojmofkhkegmaaRowLosesKit
set_option linter.unusedVariables false
set_option linter.unusedSimpArgs false
namespace Go.Proofs.Ytbojmofkhkegmaa
open Go.RowKit

theorem cnt_gone {D : Nat} {xs : List Int} {fl rs : List (List UInt8)} (hr : ∀ i : Nat, i < D → rs.getD i [] = if (i : Int) ∈ xs then [] else fl.getD i []) (hf : ∀ i, i < D → (fl.getD i []).length = 32) : cntB D (emptyB rs) ≤ xs.length := by
  have h : cntB D (emptyB rs) ≤ (xs.map Int.toNat).length := by
    unfold cntB
    refine len_le_map (f := id) (List.nodup_range.filter _) (fun a _ b _ e => e) fun i hi => ?_
    obtain ⟨h1, h2⟩ := List.mem_filter.1 hi
    have h1 := List.mem_range.1 h1
    unfold emptyB at h2
    rw [hr i h1] at h2
    by_cases hm : (i : Int) ∈ xs
    · exact List.mem_map.2 ⟨(i : Int), hm, by simp⟩
    · rw [if_neg hm, hf i h1] at h2
      exact absurd h2 (by decide)
  rwa [List.length_map] at h
theorem some_if {P Q : Prop} [Decidable P] [Decidable Q] (x : List (List UInt8)) (h : P ↔ Q) : (if (true && (decide P && (true && true))) = true then some x else none).isSome = decide Q := by
  by_cases hp : P
  · rw [decide_eq_true hp, decide_eq_true (h.1 hp)]; rfl
  · rw [decide_eq_false hp, decide_eq_false fun q => hp (h.2 q)]; rfl
def thereN (l : Int) (lp lq : Nat) : Nat := (if 0 < lp then 1 else 0) + (if l = 6 ∧ 0 < lq then 1 else 0)
/-- Whether what is left tells the data. -/
theorem lose_end {n l c r : Int} {D F W : Nat} (gr : Gr n l c r D F W) {xs : List (List UInt8)} (hl : xs.length = D) (hs : ∀ i, i < D → (xs.getD i []).length = 0 ∨ (xs.getD i []).length = 32) :
    (roTake l (D : Int) c r xs).isSome = decide (cntB D (fun k : Nat => emptyB xs k && (!decide (k = roS D F W) && !decide ((k : Int) = if l = 6 then ((roS D F (W + 1) : Nat) : Int) else -1))) ≤ thereN l (xs.getD (roS D F W) []).length (xs.getD (roS D F (W + 1)) []).length) := by
  have hF := gr.hF; have hW := gr.hW; have w7 := gr.w7; have w1 := gr.w1; have hlv := gr.lv
  rw [roTake_yes gr.ok (by rw [gr.eD]; exact hl)]
  have ed := data_cnt (l := l) (d := (D : Int)) (c := c) (r := r) xs
  have edl := dataL_len l (D : Int) c r xs
  rw [gr.eD, gr.eF, gr.eW] at ed
  rw [gr.eW] at edl
  have hdat : sizedB 32 (dataL l (D : Int) c r xs) = true := sizedB_iff.2 fun k hk => by
    rw [dataL_get (by rw [gr.eW]; omega), gr.eD, gr.eF]
    exact hs _ (roS_lt hF (by omega))
  have eP : parL l (D : Int) c r xs = xs.getD (roS D F W) [] := by unfold parL; rw [gr.eD, gr.eF, gr.eW]
  have eQ : parQ l (D : Int) c r xs = if l = 6 then xs.getD (roS D F (W + 1)) [] else [] := by unfold parQ; rw [gr.eD, gr.eF, gr.eW]
  have hp := hs _ (roS_lt hF hW)
  have hask : askB 32 (parL l (D : Int) c r xs) (parQ l (D : Int) c r xs) (dataL l (D : Int) c r xs) = true := by
    unfold askB
    rw [hdat, Bool.and_true, Bool.and_eq_true]
    refine ⟨rfl, sizedB_iff.2 fun k hk => ?_⟩
    match k, hk with
    | 0, _ => show (parL l (D : Int) c r xs).length = 0 ∨ _; rw [eP]; exact hp
    | 1, _ =>
      show (parQ l (D : Int) c r xs).length = 0 ∨ _
      rw [eQ]
      split
      · exact hs _ (roS_lt hF (by omega))
      · exact .inl rfl
  have ecnt : cntB D (fun k : Nat => emptyB xs k && (!decide (k = roS D F W) && !decide ((k : Int) = if l = 6 then ((roS D F (W + 1) : Nat) : Int) else -1))) = (missB (dataL l (D : Int) c r xs)).length := by
    rw [ed, cntB_roS hF]
    have inj : ∀ a b, a < D → b < D → a ≠ b → roS D F a ≠ roS D F b := fun a b h1 h2 h3 h4 => h3 (roS_inj hF h1 h2 h4)
    have low : ∀ (q : Int), (∀ k, k < W → ((roS D F k : Nat) : Int) ≠ q) → cntB W (fun k => emptyB xs (roS D F k) && (!decide (roS D F k = roS D F W) && !decide (((roS D F k : Nat) : Int) = q))) = cntB W (fun k => emptyB xs (roS D F k)) := fun q hq => cntB_congr fun k hk => by
      rw [decide_eq_false (inj k W (by omega) hW (by omega)), decide_eq_false (hq k hk)]
      simp
    rcases hlv with ⟨h5, hD⟩ | ⟨h6, hD⟩
    · rw [if_neg (by omega)]
      have hl := low (-1) (fun k hk => by omega)
      generalize hf : (fun k => emptyB xs (roS D F k) && (!decide (roS D F k = roS D F W) && !decide (((roS D F k : Nat) : Int) = -1))) = f at hl ⊢
      have hfW : f W = false := by rw [← hf]; simp
      rw [show cntB D f = cntB (W + 1) f by rw [hD], cntB_succ, hfW]
      exact hl
    · rw [if_pos h6]
      have hl := low ((roS D F (W + 1) : Nat) : Int) (fun k hk => by have := inj k (W + 1) (by omega) (by omega) (by omega); omega)
      generalize hf : (fun k => emptyB xs (roS D F k) && (!decide (roS D F k = roS D F W) && !decide (((roS D F k : Nat) : Int) = ((roS D F (W + 1) : Nat) : Int)))) = f at hl ⊢
      have hfW : f W = false := by rw [← hf]; simp
      have hfW1 : f (W + 1) = false := by rw [← hf]; simp
      rw [show cntB D f = cntB (W + 2) f by rw [hD], cntB_succ, hfW1, cntB_succ, hfW]
      exact hl
  rw [ecnt]
  unfold solveB canB
  rw [hask, edl, decide_eq_true (show 0 < W by omega), decide_eq_true (show W ≤ 8 by omega), missB_pair, eP, eQ]
  generalize (missB (dataL l (D : Int) c r xs)).length = m
  unfold thereN
  generalize (xs.getD (roS D F W) []).length = lp
  rcases hlv with ⟨h5, _⟩ | ⟨h6, _⟩
  · rw [if_neg (show ¬ l = 6 by omega)]
    refine some_if _ ?_
    rw [if_neg (show ¬ (l = 6 ∧ _) by omega), if_pos (show ([] : List UInt8).length = 0 from rfl)]
    by_cases h0 : lp = 0
    · rw [if_pos h0, if_neg (by omega)]
    · rw [if_neg h0, if_pos (by omega)]
  · rw [if_pos h6]
    generalize (xs.getD (roS D F (W + 1)) []).length = lq
    refine some_if _ ?_
    by_cases h0 : lp = 0
    · by_cases h1 : lq = 0
      · rw [if_pos h0, if_pos h1, if_neg (by omega), if_neg (by omega)]
      · rw [if_pos h0, if_neg h1, if_neg (by omega), if_pos ⟨h6, by omega⟩]
    · by_cases h1 : lq = 0
      · rw [if_neg h0, if_pos h1, if_pos (by omega), if_neg (by omega)]
      · rw [if_neg h0, if_neg h1, if_pos (by omega), if_pos ⟨h6, by omega⟩]
end Go.Proofs.Ytbojmofkhkegmaa
