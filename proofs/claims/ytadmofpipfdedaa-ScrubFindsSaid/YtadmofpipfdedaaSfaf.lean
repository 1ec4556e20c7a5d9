/- Texts put together: EraseMath, EraseBack, Ord, OrdSkip. -/
import Derived.Test.YtadmofpipfdedaaSfaa
section
namespace Go.Proofs.Ytadmofpipfdedaa

/-- Which of the first k rows are missing. -/
def missTo (rs : List (List UInt8)) (k : Nat) : List Nat := (List.range k).filter fun j => (rs.getD j []).length == 0
def missB (rs : List (List UInt8)) : List Nat := missTo rs rs.length
def sizedB (n : Nat) (rs : List (List UInt8)) : Bool := rs.all fun r => r.length == 0 || r.length == n
def fillR (n : Nat) (r : List UInt8) : List UInt8 := if r.length = 0 then zeroL n else r
def filledB (n : Nat) (rs : List (List UInt8)) : List (List UInt8) := rs.map (fillR n)
def byPB (p : List UInt8) (all : List (List UInt8)) : List UInt8 := pB [p, pB all]
def byQB (q : List UInt8) (all : List (List UInt8)) (k : Nat) : List UInt8 := scaleL (pB [q, qB all]) (gpow (-(k : Int)))
def bothB (p q : List UInt8) (all : List (List UInt8)) (i j : Nat) : List UInt8 :=
  scaleL (pB [pB [q, qB all], scaleL (pB [p, pB all]) (gpow i)]) (ginv (gpow i ^^^ gpow j))
def bothA (p q : List UInt8) (all : List (List UInt8)) (i j : Nat) : List UInt8 := pB [pB [p, pB all], bothB p q all i j]
/-- May it be asked, and can it be told? -/
def askB (n : Nat) (p q : List UInt8) (rs : List (List UInt8)) : Bool := decide (1 ≤ n) && (sizedB n [p, q] && sizedB n rs)
def canB (p q : List UInt8) (rs : List (List UInt8)) : Bool := decide ((missB rs).length ≤ 2 - (missB [p, q]).length) && (decide (0 < rs.length) && decide (rs.length ≤ 8))
def toldB (p q : List UInt8) (all : List (List UInt8)) : List Nat → List (List UInt8)
  | [] => all
  | [i] => all.set i (if p.length ≠ 0 then byPB p all else byQB q all i)
  | i :: j :: _ => (all.set i (bothA p q all i j)).set j (bothB p q all i j)
def solveB (n : Nat) (p q : List UInt8) (rs : List (List UInt8)) : Option (List (List UInt8)) :=
  if (askB n p q rs && canB p q rs) = true then some (toldB p q (filledB n rs) (missB rs)) else none

theorem missTo_succ (rs : List (List UInt8)) (k : Nat) : missTo rs (k + 1) = if (rs.getD k []).length = 0 then missTo rs k ++ [k] else missTo rs k := by
  unfold missTo
  rw [List.range_succ, List.filter_append]
  by_cases h : (rs.getD k []).length = 0
  · rw [if_pos h, List.filter_cons_of_pos (by simpa using h)]; rfl
  · rw [if_neg h, List.filter_cons_of_neg (by simpa using h)]; simp
theorem missTo_lt {rs : List (List UInt8)} {k : Nat} : ∀ j ∈ missTo rs k, j < k ∧ (rs.getD j []).length = 0 := fun j hj => by
  unfold missTo at hj
  simpa using hj
theorem missTo_len (rs : List (List UInt8)) (k : Nat) : (missTo rs k).length ≤ k := by
  unfold missTo
  have := List.length_filter_le (fun j => (rs.getD j []).length == 0) (List.range k)
  simpa using this
theorem missTo_mem {rs : List (List UInt8)} {k j : Nat} : j ∈ missTo rs k ↔ j < k ∧ (rs.getD j []).length = 0 := by
  unfold missTo
  simp
theorem missTo_sorted (rs : List (List UInt8)) (k : Nat) : (missTo rs k).Pairwise (· < ·) := List.Pairwise.filter _ List.pairwise_lt_range
theorem filledB_len (n : Nat) (rs : List (List UInt8)) : (filledB n rs).length = rs.length := by simp [filledB]
theorem filledB_get (n : Nat) (rs : List (List UInt8)) {k : Nat} (h : k < rs.length) : (filledB n rs).getD k [] = fillR n (rs.getD k []) := by simp [filledB, h]
theorem sizedB_mem {n : Nat} {rs : List (List UInt8)} (h : sizedB n rs = true) : ∀ r ∈ rs, r.length = 0 ∨ r.length = n := fun r hr => by
  unfold sizedB at h
  rw [List.all_eq_true] at h
  simpa using h r hr
theorem sizedB_iff {n : Nat} {rs : List (List UInt8)} : sizedB n rs = true ↔ ∀ k, k < rs.length → (rs.getD k []).length = 0 ∨ (rs.getD k []).length = n := by
  constructor
  · intro h k hk
    exact sizedB_mem h _ (by simp [hk])
  · intro h
    unfold sizedB
    rw [List.all_eq_true]
    intro r hr
    obtain ⟨k, hk, rfl⟩ := List.getElem_of_mem hr
    have := h k hk
    simpa [hk] using this
theorem xorL_cancel {a b : List UInt8} (h : a.length = b.length) : xorL (xorL a b) b = a := by
  rw [xorL_assoc, xorL_self, xorL_zero a _ h]
theorem xorL_left {a b : List UInt8} (h : a.length = b.length) : xorL a (xorL a b) = b := by
  rw [xorL_comm a, xorL_comm a, xorL_cancel h.symm]
theorem xorL_length {a b : List UInt8} {N : Nat} (h : a.length = N) (h' : b.length = N) : (xorL a b).length = N := by rw [xorL_len, h, h', Nat.min_self]
/-- A row of zeros filled: the sum is what it was, and the row's. -/
theorem foldG_set {g : Nat → List UInt8 → List UInt8} {N : Nat} (hg : ∀ k r, (g k r).length = r.length) (h0 : ∀ k, g k (zeroL N) = zeroL N) (rs : List (List UInt8)) : ∀ i k z r, i < rs.length → rs.getD i [] = zeroL N → z.length = N → r.length = N → (∀ r ∈ rs, r.length = N) → foldG g k z (rs.set i r) = xorL (foldG g k z rs) (g (k + i) r) := by
  induction rs with
  | nil => intro i k z r hi; simp at hi
  | cons s rs ih =>
    intro i k z r hi hs hz hr hall
    cases i with
    | zero =>
      have hs' : s = zeroL N := by simpa using hs
      rw [List.set_cons_zero, foldG, foldG, hs', h0, xorL_zero z N hz, xorL_comm z, foldG_lin, xorL_comm]
      rfl
    | succ i =>
      rw [List.set_cons_succ, foldG, foldG, ih i (k + 1) _ r (by simpa using hi) (by simpa using hs) (xorL_length hz ((hg _ _).trans (hall s (by simp)))) hr (fun r' h' => hall r' (by simp [h']))]
      rw [Nat.add_assoc, Nat.add_comm 1 i]
theorem set_alike {rs : List (List UInt8)} {N i : Nat} {r : List UInt8} (hall : ∀ r ∈ rs, r.length = N) (hr : r.length = N) : ∀ s ∈ rs.set i r, s.length = N := fun s hs => by
  rcases List.mem_or_eq_of_mem_set hs with h | h
  · exact hall s h
  · exact h ▸ hr
theorem sumG_set {g : Nat → List UInt8 → List UInt8} {N : Nat} (hg : ∀ k r, (g k r).length = r.length) (h0 : ∀ k, g k (zeroL N) = zeroL N) {rs : List (List UInt8)} {i : Nat} {r : List UInt8} (hi : i < rs.length) (hs : rs.getD i [] = zeroL N) (hr : r.length = N) (hall : ∀ r ∈ rs, r.length = N) : sumG g (rs.set i r) = xorL (sumG g rs) (g i r) := by
  have h1 := alikeB_of (by omega : 0 < rs.length) hall
  have h2 := alikeB_of (rs := rs.set i r) (by simp; omega) (set_alike hall hr)
  unfold sumG
  rw [if_pos h1.1, if_pos h2.1, h1.2, h2.2, foldG_set hg h0 rs i 0 _ r hi hs (zeroL_len N) hr hall, Nat.zero_add]
theorem gP_zero (N k : Nat) : gP k (zeroL N) = zeroL N := rfl
theorem gQ_zero (N k : Nat) : gQ k (zeroL N) = zeroL N := scaleL_zero _ _
theorem pB_len {N : Nat} {rs : List (List UInt8)} (h0 : 0 < rs.length) (hall : ∀ r ∈ rs, r.length = N) : (pB rs).length = N := (sumG_len gP_len (alikeB_of h0 hall).1).trans (alikeB_of h0 hall).2
theorem qB_len {N : Nat} {rs : List (List UInt8)} (h0 : 0 < rs.length) (hall : ∀ r ∈ rs, r.length = N) : (qB rs).length = N := (sumG_len gQ_len (alikeB_of h0 hall).1).trans (alikeB_of h0 hall).2

section
variable {N : Nat} {p q : List UInt8} {all : List (List UInt8)} {i j : Nat}
end
end Go.Proofs.Ytadmofpipfdedaa
end
section
namespace Go.Proofs.Ytadmofpipfdedaa

theorem ext_getD {a b : List (List UInt8)} (h : a.length = b.length) (hk : ∀ k, k < a.length → a.getD k [] = b.getD k []) : a = b := by
  apply List.ext_getElem h
  intro k h1 h2
  have := hk k h1
  simpa [h1, h2] using this
theorem getD_set_other {rs : List (List UInt8)} {i k : Nat} {r : List UInt8} (h : i ≠ k) : (rs.set i r).getD k [] = rs.getD k [] := by
  simp [List.getElem?_set_ne h]
theorem getD_set_same {rs : List (List UInt8)} {i : Nat} {r : List UInt8} (h : i < rs.length) : (rs.set i r).getD i [] = r := by
  simp [h]

section
variable {N : Nat} {fs rs : List (List UInt8)}
/-- Rows, some of them taken away. -/
structure Lacks (N : Nat) (fs rs : List (List UInt8)) : Prop where
  pos : 1 ≤ N
  alike : ∀ r ∈ fs, r.length = N
  len : rs.length = fs.length
  row : ∀ k, k < fs.length → (rs.getD k []).length = 0 ∨ rs.getD k [] = fs.getD k []
theorem Lacks.full (h : Lacks N fs rs) {k : Nat} (hk : k < fs.length) : (fs.getD k []).length = N := h.alike _ (by simp [hk])
theorem Lacks.sized (h : Lacks N fs rs) : sizedB N rs = true := sizedB_iff.2 fun k hk => by
  rcases h.row k (by rw [← h.len]; exact hk) with h1 | h1
  · exact .inl h1
  · exact .inr (by rw [h1]; exact h.full (by rw [← h.len]; exact hk))
theorem Lacks.filled_there (h : Lacks N fs rs) {k : Nat} (hf : k < fs.length) (hk : k ∉ missB rs) : (filledB N rs).getD k [] = fs.getD k [] := by
  have hl : k < rs.length := by rw [h.len]; exact hf
  have h2 : ¬ (rs.getD k []).length = 0 := fun e => hk (missTo_mem.2 ⟨hl, e⟩)
  rw [filledB_get N rs hl]
  unfold fillR
  rw [if_neg h2]
  rcases h.row k hf with h3 | h3
  · exact absurd h3 h2
  · exact h3
theorem Lacks.ask (h : Lacks N fs rs) {p q : List UInt8} (hp : p.length = 0 ∨ p.length = N) (hq : q.length = 0 ∨ q.length = N) : askB N p q rs = true := by
  have h1 : sizedB N [p, q] = true := sizedB_iff.2 fun k hk => by
    match k, hk with
    | 0, _ => exact hp
    | 1, _ => exact hq
  unfold askB
  rw [h1, h.sized, decide_eq_true h.pos]
  rfl
theorem Lacks.can (h : Lacks N fs rs) {p q : List UInt8} (h0 : 0 < fs.length) (h8 : fs.length ≤ 8) (hm : (missB rs).length ≤ 2 - (missB [p, q]).length) : canB p q rs = true := by
  unfold canB
  rw [decide_eq_true hm, decide_eq_true (show 0 < rs.length by rw [h.len]; exact h0), decide_eq_true (show rs.length ≤ 8 by rw [h.len]; exact h8)]
  rfl
end
end Go.Proofs.Ytadmofpipfdedaa
end
section
namespace Go.Proofs.Ytadmofpipfdedaa
open Go.RowKit

/-- The operations behind which S holds: those below n, but ex. -/
def hd (n : Nat) (ex : List Nat) (i : Nat) : Bool := decide (i < n) && !ex.contains i
section
variable {P : Program} {ops : Array Oper} {Q : Exit → Act → World → Prop} {md : Region.Mode} {S : World → Prop} {n : Nat} {ex : List Nat}
/-- Whatever order is picked, S holds behind each operation of the head. -/
def anyH (P : Program) (md : Region.Mode) (ops : Array Oper) (Q : Exit → Act → World → Prop) (S : World → Prop) (n : Nat) (ex : List Nat) : Nat → Array Bool → Act → World → Prop
  | 0, listed, a, w => Region.ready md ops listed = [] ∧ Q .normal a w
  | f + 1, listed, a, w => (Region.ready md ops listed = [] → Q .normal a w) ∧
    ∀ i ∈ Region.ready md ops listed, wpOp P ops Q i (fun a' w' => (hd n ex i = true → S w') ∧ anyH P md ops Q S n ex f (listed.setIfInBounds i true) a' w') a w
theorem any_of_H : ∀ (f : Nat) (listed : Array Bool) (a : Act) (w : World), anyH P md ops Q S n ex f listed a w → wpAny P md ops Q f listed a w
  | 0, _, _, _, h => h
  | f + 1, _, _, _, h => ⟨h.1, fun i hi => wpOp_mono (fun a' w' h' => any_of_H f _ a' w' h'.2) (h.2 i hi)⟩
/-- What is done is done with all that it waited for. -/
structure OInv (md : Region.Mode) (ops : Array Oper) (listed : Array Bool) : Prop where
  size : listed.size = ops.size
  closed : ∀ j oj, ops[j]? = some oj → listed.getD j false = true → ∀ e ∈ oj.after, Region.binds md e = true → listed.getD e.on false = true
theorem OInv.set {i : Nat} {listed : Array Bool} (inv : OInv md ops listed) (hi : i ∈ Region.ready md ops listed) : OInv md ops (listed.setIfInBounds i true) := by
  obtain ⟨_, oi, hoi, hall⟩ := mem_ready.1 hi
  refine ⟨by simp [inv.size], fun j oj hj hl e he hb => ?_⟩
  by_cases hij : i = j
  · subst hij
    have : oj = oi := Option.some.inj (hj.symm.trans hoi)
    subst this
    exact getD_set_true (hall e he hb)
  · rw [getD_set_ne false hij] at hl
    exact getD_set_true (inv.closed j oj hj hl e he hb)
/-- j waits for i, at once or through others. -/
def behind (md : Region.Mode) (ops : Array Oper) (i : Nat) : Nat → Nat → Bool
  | 0, _ => false
  | f + 1, j => match ops[j]? with
    | some o => o.after.any (fun e => Region.binds md e && e.on == i) || o.after.any (fun e => Region.binds md e && behind md ops i f e.on)
    | none => false
theorem behind_done {i : Nat} {listed : Array Bool} (inv : OInv md ops listed) (hun : listed.getD i true = false) : ∀ (f j : Nat) (oj : Oper), ops[j]? = some oj → (∀ e ∈ oj.after, Region.binds md e = true → listed.getD e.on false = true) → behind md ops i f j = true → False
  | 0, _, _, _, _, h => by cases h
  | f + 1, j, oj, hj, hall, h => by
    unfold behind at h
    simp only [hj, Bool.or_eq_true] at h
    rcases h with h | h
    · obtain ⟨e, he, hb⟩ := Array.any_eq_true'.1 h
      simp only [Bool.and_eq_true, beq_iff_eq] at hb
      have h2 := hall e he hb.1
      rw [hb.2, getD_both hun] at h2
      cases h2
    · obtain ⟨e, he, hb⟩ := Array.any_eq_true'.1 h
      simp only [Bool.and_eq_true] at hb
      have h2 := hall e he hb.1
      rcases ho : ops[e.on]? with _ | oe
      · have h3 := hb.2
        cases f with
        | zero => cases h3
        | succ f => unfold behind at h3; simp [ho] at h3
      · exact behind_done inv hun f e.on oe ho (inv.closed e.on oe ho h2) hb.2
theorem anyH_first {i : Nat} {oi : Oper} {v : Value} (hi : ops[i]? = some oi) (hsel : ∀ (j : Nat) (o : Oper) cs b, ops[j]? = some o → o.op ≠ .select cs b) (hQ : ∀ c a w, Q (.panic c) (a.put oi.dst v) w → Q (.panic c) a w) {g : Nat} :
    ∀ (f : Nat) (listed : Array Bool) (a : Act) (w : World), OInv md ops listed → (∀ j, hd n ex j = false → listed.getD j true = false → behind md ops i g j = true) →
      (∀ j oj, ops[j]? = some oj → j ≠ i → listed.getD j true = false → (∀ e ∈ oj.after, Region.binds md e = true → e.on ≠ i) → oi.apart ops oj = true) →
      i ∈ Region.ready md ops listed → YieldsIf P ops S oi v a → S w →
      anyH P md ops Q S n ex f (listed.setIfInBounds i true) (a.put oi.dst v) w → anyH P md ops Q S n ex (f + 1) listed a w := by
  intro f
  induction f with
  | zero =>
    intro listed a w _ _ _ hr hy hS H
    refine ⟨fun h => (by rw [h] at hr; cases hr), fun j hj => ?_⟩
    by_cases hji : j = i
    · subst hji; exact hy.wpOp hi hS ⟨fun _ => hS, H⟩
    · have h1 := ready_mono (i := i) hj hji
      rw [H.1] at h1
      cases h1
  | succ f ih =>
    intro listed a w inv hW hfree hr hy hS H
    have hun := (mem_ready.1 hr).1
    refine ⟨fun h => (by rw [h] at hr; cases hr), fun j hj => ?_⟩
    obtain ⟨hjun, oj, hoj, hall⟩ := mem_ready.1 hj
    have hjn : hd n ex j = true := by
      cases hh : hd n ex j with
      | true => rfl
      | false => exact (behind_done inv hun g j oj hoj hall (hW j hh hjun)).elim
    by_cases hji : j = i
    · subst hji; exact hy.wpOp hi hS ⟨fun _ => hS, H⟩
    · have hnot : ∀ e ∈ oj.after, Region.binds md e = true → e.on ≠ i := fun e he hb heq => by
        have h1 := hall e he hb
        rw [heq, getD_both hun] at h1
        cases h1
      have hap := hfree j oj hoj hji hjun hnot
      have h2 := wpOp_putIf hoj hap (fun cs b => hsel i oi cs b hi) (fun cs b => hsel j oj cs b hoj) hQ hy (H.2 j (ready_mono hj hji))
      have hkeep : ∀ k, (listed.setIfInBounds j true).getD k true = false → listed.getD k true = false := fun k hku => by
        by_cases hjk : j = k
        · subst hjk; exact hjun
        · rwa [getD_set_ne true hjk] at hku
      refine wpOp_mono (fun a' w' h3 => ⟨h3.2.1, ?_⟩) h2
      refine ih (listed.setIfInBounds j true) a' w' (inv.set hj) (fun k hk hku => hW k hk (hkeep k hku)) (fun k ok hk hki hku hno => hfree k ok hk hki (hkeep k hku) hno) (ready_mono hr (Ne.symm hji)) h3.1 (h3.2.1 hjn) ?_
      · rw [Array.setIfInBounds_comm _ _ hji]
        exact h3.2.2
/-- What is fixed of a region. -/
structure Reg (ops : Array Oper) (Q : Exit → Act → World → Prop) : Prop where
  sel : ∀ (j : Nat) (o : Oper) cs b, ops[j]? = some o → o.op ≠ .select cs b
  panic : ∀ c (a : Act) d v w, Q (.panic c) (a.put d v) w → Q (.panic c) a w
def anyI (P : Program) (ops : Array Oper) (Q : Exit → Act → World → Prop) (S : World → Prop) (n : Nat) (ex : List Nat) (f : Nat) (listed : Array Bool) (a : Act) (w : World) : Prop := OInv .any ops listed → anyH P .any ops Q S n ex f listed a w
theorem region_ord {id : Nat} {a : Act} {w : World} {l : List Oper} (n : Nat) (ex : List Nat) (S : World → Prop) (hm : P.follows .mixedOrders = true) (hB : Region.noSelect l.toArray = true)
    (hQ : ∀ c (a : Act) d v w, Q (.panic c) (a.put d v) w → Q (.panic c) a w) (h : Reg l.toArray Q → anyI P l.toArray Q S n ex l.toArray.size (Array.replicate l.toArray.size false) a w.drew) : (Code.region id l.toArray true).wp P Q a w :=
  wp_region_any hm (any_of_H _ _ _ _ (h ⟨Region.noSelect_spec hB, hQ⟩ ⟨by simp, fun j oj _ hl => (by rw [getD_replicate_false] at hl; cases hl)⟩))
def waitB (ops : Array Oper) (n : Nat) (ex : List Nat) (listed : Array Bool) (i : Nat) : Bool := (List.range ops.size).all fun j => hd n ex j || listed.getD j true || behind .any ops i ops.size j
theorem anyI_take (R : Reg ops Q) (i : Nat) {oi : Oper} {v : Value} {f : Nat} {listed : Array Bool} {a : Act} {w : World} (hi : ops[i]? = some oi) (hB : ((Region.ready .any ops listed).contains i && Region.free .any ops listed i && waitB ops n ex listed i) = true)
    (hw : Region.wanted oi (yielded ops a.tmps) = true) (hv : ∀ w, S w → (execOp a.eval oi).run P w = .ok (.value v) w) (hS : S w) (h : anyI P ops Q S n ex f (listed.setIfInBounds i true) (a.put oi.dst v) w) : anyI P ops Q S n ex (f + 1) listed a w := fun inv => by
  simp only [Bool.and_eq_true] at hB
  obtain ⟨⟨hr, hf⟩, hW⟩ := hB
  have hr' : i ∈ Region.ready .any ops listed := by simpa using hr
  refine anyH_first (g := ops.size) hi R.sel (fun c a w h => R.panic c a _ _ w h) f listed a w inv (fun j hj hun => ?_) (Region.free_spec hi hf) hr' (.inl ⟨hw, hv⟩) hS (h (inv.set hr'))
  rcases Nat.lt_or_ge j ops.size with hlt | hge
  · have h1 := List.all_eq_true.1 hW j (List.mem_range.2 hlt)
    simpa [hj, hun] using h1
  · rw [← inv.size] at hge
    simp [Array.getElem?_eq_none hge] at hun
theorem anyI_one (i : Nat) {oi : Oper} {f : Nat} {listed : Array Bool} {a : Act} {w : World} (hrs : Region.ready .any ops listed = [i]) (hi : ops[i]? = some oi)
    (h1 : opE P ops Q oi (fun a' w' => S w' ∧ anyI P ops Q S n ex f (listed.setIfInBounds i true) a' w') a w) : anyI P ops Q S n ex (f + 1) listed a w := fun inv => by
  refine ⟨fun h => (by rw [hrs] at h; cases h), fun t ht => ?_⟩
  have ht' := ht
  rw [hrs] at ht
  obtain rfl := List.mem_singleton.1 ht
  exact wpOp_mono (fun a' w' h => ⟨fun _ => h.1, h.2 (inv.set ht')⟩) (wpOp_of_opE hi h1)
theorem anyH_of_seq : ∀ (l : List Oper) (k : Nat) (listed : Array Bool) (a : Act) (w : World), n ≤ k → (∀ j, l[j]? = ops[k + j]?) → Region.seqB .any ops l.length k listed = true → wpList P ops Q l a w → anyH P .any ops Q S n ex l.length listed a w
  | [], k, listed, a, w, _, _, hB, h => ⟨by simpa [Region.seqB] using hB, h⟩
  | o :: l, k, listed, a, w, hk, hl, hB, h => by
    have h0 : ops[k]? = some o := by simpa using (hl 0).symm
    simp only [List.length_cons, Region.seqB, Bool.and_eq_true, decide_eq_true_eq] at hB
    refine ⟨fun h1 => (by rw [hB.1] at h1; cases h1), fun i hi => ?_⟩
    rw [hB.1] at hi
    have hik : i = k := by simpa using hi
    subst hik
    have hw : wpOp P ops Q i (wpList P ops Q l) a w := by unfold wpOp; simp only [h0]; exact h
    exact wpOp_mono (fun a' w' h' => ⟨fun h => (by simp [hd] at h; omega), anyH_of_seq l (i + 1) _ a' w' (by omega) (fun j => by have := hl (j + 1); simpa [Nat.add_assoc, Nat.add_comm 1 j] using this) hB.2 h'⟩) hw
theorem anyI_tail {l : List Oper} {f : Nat} {listed : Array Bool} {a : Act} {w : World} (hB : (decide (f = l.length - n) && Region.seqB .any l.toArray (l.length - n) n listed) = true) (h : wpList P l.toArray Q (l.drop n) a w) : anyI P l.toArray Q S n ex f listed a w := fun _ => by
  simp only [Bool.and_eq_true, decide_eq_true_eq] at hB
  obtain ⟨rfl, hB⟩ := hB
  have hdl : (l.drop n).length = l.length - n := by simp
  have := anyH_of_seq (P := P) (Q := Q) (S := S) (n := n) (ex := ex) (l.drop n) n listed a w (Nat.le_refl _) (fun j => by simp [List.getElem?_drop]) (by rw [hdl]; exact hB) h
  rwa [hdl] at this
theorem opE_step {o : Oper} {K : Act → World → Prop} {a : Act} {w : World} (h : if Region.wanted o (yielded ops a.tmps) = true then o.wp P a w K Q else K (a.put o.dst undef) w) : opE P ops Q o K a w := by
  unfold opE
  split at h
  · rename_i hw; rw [if_pos hw]; exact .inl h
  · rename_i hw; rw [if_neg hw]; exact h
end
end Go.Proofs.Ytadmofpipfdedaa
end
section
namespace Go.Proofs.Ytadmofpipfdedaa
open Go.RowKit

section
variable {P : Program} {ops : Array Oper} {Q : Exit → Act → World → Prop} {S : World → Prop} {n : Nat} {ex : List Nat}
theorem anyI_skip (R : Reg ops Q) (i : Nat) {oi : Oper} {f : Nat} {listed : Array Bool} {a : Act} {w : World} (hi : ops[i]? = some oi) (hB : ((Region.ready .any ops listed).contains i && Region.free .any ops listed i && waitB ops n ex listed i) = true)
    (hw : Region.wanted oi (yielded ops a.tmps) = false) (hS : S w) (h : anyI P ops Q S n ex f (listed.setIfInBounds i true) (a.put oi.dst undef) w) : anyI P ops Q S n ex (f + 1) listed a w := fun inv => by
  simp only [Bool.and_eq_true] at hB
  obtain ⟨⟨hr, hf⟩, hW⟩ := hB
  have hr' : i ∈ Region.ready .any ops listed := by simpa using hr
  refine anyH_first (g := ops.size) hi R.sel (fun c a w h => R.panic c a _ _ w h) f listed a w inv (fun j hj hun => ?_) (Region.free_spec hi hf) hr' (.inr ⟨hw, rfl⟩) hS (h (inv.set hr'))
  rcases Nat.lt_or_ge j ops.size with hlt | hge
  · have h1 := List.all_eq_true.1 hW j (List.mem_range.2 hlt)
    simpa [hj, hun] using h1
  · rw [← inv.size] at hge
    simp [Array.getElem?_eq_none hge] at hun
end
end Go.Proofs.Ytadmofpipfdedaa
end
