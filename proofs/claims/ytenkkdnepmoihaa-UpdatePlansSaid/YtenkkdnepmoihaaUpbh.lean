/- Texts put together: StpNums, StpCan. -/
import Derived.Test.YtenkkdnepmoihaaUpbf
section
set_option linter.unusedVariables false
set_option linter.unusedSimpArgs false
namespace Go.Proofs.Ytenkkdnepmoihaa
open Go.RowKit

section
variable {W w : World} {b : Nat} {H : BH} {N : Bch} {K : List (Nat × Obj)} {R : List (Option Addr × List (List UInt8))} {S : List (Option Addr × List UInt8)}
end
end Go.Proofs.Ytenkkdnepmoihaa
end
section
set_option linter.unusedVariables false
set_option linter.unusedSimpArgs false
namespace Go.Proofs.Ytenkkdnepmoihaa

theorem cntB_disj (n : Nat) (b c : Nat → Bool) (h : ∀ i, i < n → (b i && c i) = false) : cntB n (fun i => b i || c i) = cntB n b + cntB n c := by
  induction n with
  | zero => rfl
  | succ n ih =>
    have ih := ih fun i hi => h i (by omega)
    have hn := h n (by omega)
    rw [cntB_succ, cntB_succ, cntB_succ]
    cases hb : b n <;> cases hc : c n <;> simp_all <;> omega
theorem cnt_pick {D p : Nat} (hp : p < D) (ok : Nat → Bool) : cntB D (fun i => decide (i = p) && ok i) = if ok p = true then 1 else 0 := by
  cases h : ok p with
  | true =>
    rw [if_pos rfl, ← cntB_one hp]
    refine cntB_congr fun i hi => ?_
    by_cases e : i = p
    · subst e; rw [h, Bool.and_true]
    · rw [decide_eq_false e]; rfl
  | false =>
    rw [if_neg (by decide)]
    refine cntB_none fun i hi => ?_
    by_cases e : i = p
    · subst e; rw [h, Bool.and_false]
    · rw [decide_eq_false e]; rfl
theorem cnt_pair {D p q : Nat} (hp : p < D) (hq : q < D) (hne : p ≠ q) (ok : Nat → Bool) : cntB D (fun i => (decide (i = p) || decide (i = q)) && ok i) = (if ok p = true then 1 else 0) + (if ok q = true then 1 else 0) := by
  rw [← cnt_pick hp ok, ← cnt_pick hq ok, ← cntB_disj]
  · exact cntB_congr fun i hi => by rw [Bool.and_or_distrib_right]
  · intro i hi
    by_cases e : i = p
    · have : i ≠ q := fun h => hne (e.symm.trans h)
      rw [decide_eq_false this]; simp
    · rw [decide_eq_false e]; simp
theorem beq_nat (i p : Nat) : (((i : Int)) == ((p : Nat) : Int)) = decide (i = p) := by
  by_cases e : i = p
  · subst e; simp
  · rw [decide_eq_false e, beq_eq_false_iff_ne]; omega
theorem can_some {N : Bch} {lv : List Bool} {n l c : Int} {ρ m D F W : Nat} {fl : Nat → List (List UInt8)} {rs : List (List UInt8)} (h : Std N m D fl) (gr : Gr n l c (ρ : Int) D F W) (hrs : rs.length = W) (ha : ∀ x ∈ rs, x.length = 32) (hfl : fl ρ = fillL D F rs) :
    canN l (D : Int) c (ρ : Int) D (fun i => decide ((i : Int) ∈ gonL N lv D)) = (roTake l (D : Int) c (ρ : Int) (ssL N lv (36 + ρ) D)).isSome := by
  have hρ : ρ < 16 := by have := gr.r0; omega
  have h32 : ∀ i, i < D → ((fl ρ).getD i []).length = 32 := fun i hi => by rw [hfl]; exact gr.fills hrs ha hi
  obtain ⟨h1, h2⟩ := h.read (lv := lv) hρ h32
  have hW := gr.hW; have hF := gr.hF
  have hp := gr.R.pP
  have hq := gr.R.pQ
  rw [gr.eD, gr.eF, gr.eW] at hp hq
  rw [lose_end gr (ssL_len _ _ _ _) (fun i hi => by
    rcases h1 i hi with e | e
    · exact .inl e
    · rw [e]; exact .inr (h32 i hi))]
  have hpl := roS_lt hF hW
  have hok : ∀ i, i < D → (0 < ((ssL N lv (36 + ρ) D).getD i []).length ↔ srvD N lv i = true) := fun i hi => by
    have := h2 i hi
    unfold emptyB at this
    cases hs : srvD N lv i with
    | true =>
      rw [hs] at this
      constructor
      · intro _; rfl
      · intro _
        rcases Nat.eq_zero_or_pos ((ssL N lv (36 + ρ) D).getD i []).length with e | e
        · rw [e] at this; cases this
        · exact e
    | false =>
      rw [hs] at this
      constructor
      · intro h
        have : ((ssL N lv (36 + ρ) D).getD i []).length = 0 := by simpa using this
        omega
      · intro h; cases h
  have eg : ∀ i, i < D → decide ((i : Int) ∈ gonL N lv D) = !srvD N lv i := fun i hi => gonL_has hi
  have eL : cntB D (fun i => decide ((i : Int) ∈ gonL N lv D) && !parB l (D : Int) c (ρ : Int) i) = cntB D (fun k : Nat => emptyB (ssL N lv (36 + ρ) D) k && (!decide (k = roS D F W) && !decide ((k : Int) = if l = 6 then ((roS D F (W + 1) : Nat) : Int) else -1))) := cntB_congr fun i hi => by
    rw [eg i hi, h2 i hi]
    congr 1
    unfold parB
    rw [hp, hq, beq_nat, Bool.not_or]
    congr 2
  have eR : cntB D (fun i => parB l (D : Int) c (ρ : Int) i && !decide ((i : Int) ∈ gonL N lv D)) = thereN l ((ssL N lv (36 + ρ) D).getD (roS D F W) []).length ((ssL N lv (36 + ρ) D).getD (roS D F (W + 1)) []).length := by
    unfold thereN
    rcases gr.lv with ⟨h5, hD⟩ | ⟨h6, hD⟩
    · rw [if_neg (by omega : ¬ (l = 6 ∧ _)), Nat.add_zero]
      rw [cntB_congr (b' := fun i => decide (i = roS D F W) && srvD N lv i) fun i hi => by
        rw [eg i hi, Bool.not_not]
        unfold parB
        rw [hp, hq, if_neg (by omega), beq_nat, show ((i : Int) == -1) = false from by rw [beq_eq_false_iff_ne]; omega, Bool.or_false]]
      rw [cnt_pick hpl]
      by_cases hs : srvD N lv (roS D F W) = true
      · rw [if_pos hs, if_pos ((hok _ hpl).2 hs)]
      · rw [if_neg hs, if_neg (fun e => hs ((hok _ hpl).1 e))]
    · have hql := roS_lt hF (show W + 1 < D by omega)
      have hne : roS D F W ≠ roS D F (W + 1) := fun e => by have := roS_inj hF hW (by omega) e; omega
      rw [cntB_congr (b' := fun i => (decide (i = roS D F W) || decide (i = roS D F (W + 1))) && srvD N lv i) fun i hi => by
        rw [eg i hi, Bool.not_not]
        unfold parB
        rw [hp, hq, if_pos h6, beq_nat, beq_nat]]
      rw [cnt_pair hpl hql hne]
      congr 1
      · by_cases hs : srvD N lv (roS D F W) = true
        · rw [if_pos hs, if_pos ((hok _ hpl).2 hs)]
        · rw [if_neg hs, if_neg (fun e => hs ((hok _ hpl).1 e))]
      · by_cases hs : srvD N lv (roS D F (W + 1)) = true
        · rw [if_pos hs, if_pos ⟨h6, (hok _ hql).2 hs⟩]
        · rw [if_neg hs, if_neg (fun e => hs ((hok _ hql).1 e.2))]
  unfold canN
  rw [eL, eR]
end Go.Proofs.Ytenkkdnepmoihaa
end
