/- Texts put together: Kx, StpFld, StpStd. -/
import Derived.Test.YtadmofpipfdedaaReau
import Derived.Test.YtadmofpipfdedaaRear
section
set_option maxRecDepth 8000
set_option linter.unusedVariables false
set_option linter.unusedSimpArgs false
namespace Go.Proofs.Ytadmofpipfdedaa
open Go.RowKit

structure KX (W w : World) (b : Nat) (H : BH) (N : Bch) (K : List (Nat × Obj)) : Prop where
  bp : BP W w b H N
  kp : ∀ p ∈ K, w.heap[p.1]? = some p.2 ∧ ¬ BF b H N.n p.1 ∧ W.heap.size ≤ p.1
section
variable {W w w' : World} {b : Nat} {H : BH} {N : Bch} {K : List (Nat × Obj)}
theorem KX.below (h : KX W w b H N K) (hb : Below w.heap.size w w') : KX W w' b H N K :=
  ⟨h.bp.grow hb, fun p hp => ⟨(hb.block _ (Array.getElem?_eq_some_iff.1 (h.kp p hp).1).1).trans (h.kp p hp).1, (h.kp p hp).2⟩⟩
theorem KX.add (h : KX W w b H N K) (o : Obj) : KX W (w.alloc o) b H N ((w.heap.size, o) :: K) := by
  refine ⟨h.bp.alloc o, fun p hp => ?_⟩
  rcases List.mem_cons.1 hp with rfl | hp
  · exact ⟨heap_alloc_new _ _, (fun e => by have h9 : w.heap.size < w.heap.size := (h.bp.at'.flt e).2; omega), h.bp.bel.size⟩
  · exact (h.below (below1 w o)).kp p hp
/-- A kept block is written. -/
theorem KX.put (h : KX W w b H N K) {p : Nat} {o o' : Obj} {K1 K2 : List (Nat × Obj)} (hK : K = K1 ++ (p, o) :: K2) (hg : w.grownBy w' (some p)) (hb : w'.heap[p]? = some o') (hne : ∀ r ∈ K1 ++ K2, r.1 ≠ p) : KX W w' b H N (K1 ++ (p, o') :: K2) := by
  subst hK
  have hp := h.kp (p, o) (by simp)
  have hch := chg_grown hg
  refine ⟨h.bp.chg hch (fun k e => by injection e with e; subst e; exact hp.2.2) (fun k hk e => by injection e with e; subst e; exact hp.2.1 hk), fun r hr => ?_⟩
  rcases List.mem_append.1 hr with h1 | h1
  · have h2 := h.kp r (by simp [h1])
    exact ⟨(hg.block _ (Array.getElem?_eq_some_iff.1 h2.1).1 (fun e => by injection e with e; exact hne r (by simp [h1]) e)).trans h2.1, h2.2⟩
  · rcases List.mem_cons.1 h1 with rfl | h1
    · exact ⟨hb, hp.2⟩
    · have h2 := h.kp r (by simp [h1])
      exact ⟨(hg.block _ (Array.getElem?_eq_some_iff.1 h2.1).1 (fun e => by injection e with e; exact hne r (by simp [h1]) e)).trans h2.1, h2.2⟩
end
theorem fail_n (N : Bch) (d : Int) : (N.fail d).n = N.n := by unfold Bch.fail; split <;> rfl
section
variable {W w : World} {b : Nat} {H : BH} {N : Bch} {K : List (Nat × Obj)} (h : KX W w b H N K)
include h
end
end Go.Proofs.Ytadmofpipfdedaa
end
section
set_option linter.unusedVariables false
set_option linter.unusedSimpArgs false
namespace Go.Proofs.Ytadmofpipfdedaa

end Go.Proofs.Ytadmofpipfdedaa
end
section
set_option linter.unusedVariables false
set_option linter.unusedSimpArgs false
namespace Go.Proofs.Ytadmofpipfdedaa

structure Std (N : Bch) (m D : Nat) (fl : Nat → List (List UInt8)) : Prop where
  n : N.n = m
  dn : N.down = false
  at' : ∀ i, i < D → ∀ t, t < 16 → (N.D i).f = false → secAt (N.D i).now (36 + t) = (fl t).getD i []
theorem fail_D {N : Bch} {d : Nat} (hd : d < N.n) (i : Nat) : (N.fail (d : Int)).D i = if i = d then Dsk.failed else N.D i := by
  unfold Bch.fail
  rw [if_neg (by rw [Bch.pickE_ok (by omega) (by omega)]; simp)]
  show upd N.D ((d : Int)).toNat Dsk.failed i = _
  rw [show ((d : Int)).toNat = d by omega]
  by_cases e : i = d
  · subst e; rw [upd_same, if_pos rfl]
  · rw [upd_other _ _ e, if_neg e]
theorem fail_is {N : Bch} {d : Int} : (N.fail d).n = N.n := by unfold Bch.fail; split <;> rfl
section
variable {N : Bch} {m D F W : Nat} {fl : Nat → List (List UInt8)} {n l c : Int} {t : Nat} {lv : List Bool} {rs : List (List UInt8)}
/-- The sectors that are read: nothing, or the row's. -/
theorem Std.read (h : Std N m D fl) (ht : t < 16) (h32 : ∀ i, i < D → ((fl t).getD i []).length = 32) : (∀ i, i < D → ((ssL N lv (36 + t) D).getD i []).length = 0 ∨ (ssL N lv (36 + t) D).getD i [] = (fl t).getD i []) ∧ (∀ i, i < D → emptyB (ssL N lv (36 + t) D) i = !srvD N lv i) := by
  refine ⟨fun i hi => ?_, fun i hi => ?_⟩
  · rw [ssL_get hi]
    split
    · next hs => exact .inr (h.at' i hi t ht (srvD_yes hs).2.2)
    · exact .inl rfl
  · unfold emptyB
    rw [ssL_get hi]
    cases hs : srvD N lv i with
    | true => rw [if_pos rfl, h.at' i hi t ht (srvD_yes hs).2.2, h32 i hi]; rfl
    | false => rw [if_neg (by simp)]; rfl
theorem take_either {l d c r : Int} {rs xs : List (List UInt8)} (h : fillOk l d c r rs = true) (hl : xs.length = roD d) (hx : ∀ i, i < roD d → (xs.getD i []).length = 0 ∨ xs.getD i [] = (fillL (roD d) (roF l d c r) rs).getD i []) (hs : (roTake l d c r xs).isSome = true) : roTake l d c r xs = some rs := by
  refine take_back h hl hx ?_
  rw [roTake_yes (fillOk_yes h).1 hl] at hs
  unfold solveB at hs
  split at hs
  · next hc =>
    rw [Bool.and_eq_true] at hc
    have := hc.2
    unfold canB at this
    rw [Bool.and_eq_true] at this
    exact of_decide_eq_true this.1
  · cases hs
/-- Read of a row: told, or lost. -/
theorem Std.told (h : Std N m D fl) (gr : Gr n l c (t : Int) D F W) (hrs : rs.length = W) (ha : ∀ x ∈ rs, x.length = 32) (hfl : fl t = fillL D F rs) (lv : List Bool) :
    if (roTake l (D : Int) c (t : Int) (ssL N lv (36 + t) D)).isSome = true then srdE N lv l (D : Int) c (t : Int) = 0 ∧ srdL N lv l (D : Int) c (t : Int) = rs else srdE N lv l (D : Int) c (t : Int) = 7 ∧ srdL N lv l (D : Int) c (t : Int) = [] := by
  have ht : t < 16 := by have := gr.r0; omega
  have h32 : ∀ i, i < D → ((fl t).getD i []).length = 32 := fun i hi => by rw [hfl]; exact gr.fills hrs ha hi
  obtain ⟨h1, h2⟩ := h.read (lv := lv) ht h32
  have e36 : ssL N lv (36 + ((t : Int)).toNat) (roD (D : Int)) = ssL N lv (36 + t) D := by rw [gr.eD]; rfl
  split
  · next hs =>
    refine srdE_ok gr.ok (.inl h.dn) ?_
    rw [e36]
    refine take_either (gr.fok hrs ha) (by rw [ssL_len, gr.eD]) (fun i hi => ?_) hs
    rw [gr.eD] at hi
    rw [gr.eD, gr.eF, ← hfl]
    exact h1 i hi
  · next hs =>
    refine srdE_lost gr.ok (.inl h.dn) ?_
    rw [e36]
    cases hq : roTake l (D : Int) c (t : Int) (ssL N lv (36 + t) D) with
    | none => rfl
    | some L => rw [hq] at hs; exact absurd rfl hs
/-- With not more missing than may be it is told. -/
theorem Std.ok (h : Std N m D fl) (gr : Gr n l c (t : Int) D F W) (hrs : rs.length = W) (ha : ∀ x ∈ rs, x.length = 32) (hfl : fl t = fillL D F rs) (hc : ((cntB D (fun i => !srvD N lv i) : Nat) : Int) ≤ l - 4) :
    srdE N lv l (D : Int) c (t : Int) = 0 ∧ srdL N lv l (D : Int) c (t : Int) = rs := by
  have ht : t < 16 := by have := gr.r0; omega
  have h32 : ∀ i, i < D → ((fl t).getD i []).length = 32 := fun i hi => by rw [hfl]; exact gr.fills hrs ha hi
  obtain ⟨h1, h2⟩ := h.read (lv := lv) ht h32
  have := h.told gr hrs ha hfl lv
  rw [if_pos] at this
  · exact this
  · rw [lose_ok (gr.fok hrs ha) (by rw [ssL_len, gr.eD]) (fun i hi => by
      rw [gr.eD] at hi
      rw [gr.eD, gr.eF, ← hfl]
      exact h1 i hi) (by rw [gr.eD, cntB_congr h2]; exact hc)]
    rfl
end
end Go.Proofs.Ytadmofpipfdedaa
end
