/- The plain mathematics of parity: no program here. -/
import Derived.Test.YtfbfodcjfcnfoaaGfMath
namespace Go.Proofs.Ytfbfodcjfcnfoaa

/-- A byte times f. -/
def mulU (x : UInt8) (f : Nat) : UInt8 := UInt8.ofNat (gmul x.toNat f)
theorem mulU_nat (x : UInt8) (f : Nat) : (mulU x f).toNat = gmul x.toNat f := by
  unfold mulU
  rw [UInt8.toNat_ofNat', Nat.mod_eq_of_lt (gmul_lt x.toNat_lt)]
theorem mulU_zero (f : Nat) : mulU 0 f = 0 := UInt8.toNat_inj.1 (by rw [mulU_nat]; exact gmul_zero_left f)
theorem mulU_xor (x y : UInt8) (f : Nat) : mulU (x ^^^ y) f = mulU x f ^^^ mulU y f :=
  UInt8.toNat_inj.1 (by rw [mulU_nat, UInt8.toNat_xor, UInt8.toNat_xor, mulU_nat, mulU_nat]; exact gmul_xor_left f x.toNat_lt y.toNat_lt)
theorem mulU_mulU (x : UInt8) {f h : Nat} (hf : f < 256) (hh : h < 256) : mulU (mulU x f) h = mulU x (gmul f h) :=
  UInt8.toNat_inj.1 (by rw [mulU_nat, mulU_nat, mulU_nat]; exact (gmul_assoc x.toNat_lt hf hh).symm)
theorem mulU_one (x : UInt8) : mulU x 1 = x := UInt8.toNat_inj.1 (by rw [mulU_nat]; exact gmul_one_right x.toNat_lt)

def xorL (a b : List UInt8) : List UInt8 := List.zipWith (· ^^^ ·) a b
def scaleL (a : List UInt8) (f : Nat) : List UInt8 := a.map fun x => mulU x f
def zeroL (n : Nat) : List UInt8 := List.replicate n 0
theorem xorL_len (a b : List UInt8) : (xorL a b).length = min a.length b.length := by simp [xorL]
theorem scaleL_len (a : List UInt8) (f : Nat) : (scaleL a f).length = a.length := by simp [scaleL]
theorem xorL_get {a b : List UInt8} {i : Nat} (h : i < a.length) (h' : i < b.length) : (xorL a b).getD i 0 = a.getD i 0 ^^^ b.getD i 0 := by
  simp [xorL, h, h', List.getElem?_zipWith]
theorem scaleL_get (a : List UInt8) (f i : Nat) : (scaleL a f).getD i 0 = mulU (a.getD i 0) f := by
  unfold scaleL
  rw [List.getD_eq_getElem?_getD, List.getD_eq_getElem?_getD, List.getElem?_map]
  cases h : a[i]? with
  | none => exact (mulU_zero f).symm
  | some x => rfl
theorem xorL_assoc : ∀ a b c : List UInt8, xorL (xorL a b) c = xorL a (xorL b c)
  | [], _, _ => by simp [xorL]
  | _ :: _, [], _ => by simp [xorL]
  | _ :: _, _ :: _, [] => by simp [xorL]
  | x :: a, y :: b, z :: c => by
    have := xorL_assoc a b c
    unfold xorL at this ⊢
    simp only [List.zipWith_cons_cons, this, UInt8.xor_assoc]
theorem xorL_comm : ∀ a b : List UInt8, xorL a b = xorL b a
  | [], b => by cases b <;> rfl
  | _ :: _, [] => rfl
  | x :: a, y :: b => by
    have := xorL_comm a b
    unfold xorL at this ⊢
    simp only [List.zipWith_cons_cons, this, UInt8.xor_comm x y]
theorem xorL_zero : ∀ (a : List UInt8) (n : Nat), a.length = n → xorL a (zeroL n) = a
  | [], n, h => by simp [xorL]
  | x :: a, n + 1, h => by
    have := xorL_zero a n (by simpa using h)
    unfold xorL zeroL at this ⊢
    rw [List.replicate_succ, List.zipWith_cons_cons, this, UInt8.xor_zero]
theorem scaleL_xorL (a b : List UInt8) (f : Nat) : scaleL (xorL a b) f = xorL (scaleL a f) (scaleL b f) := by
  unfold scaleL xorL
  rw [List.map_zipWith, List.zipWith_map]
  simp only [mulU_xor]
theorem scaleL_scaleL (a : List UInt8) {f h : Nat} (hf : f < 256) (hh : h < 256) : scaleL (scaleL a f) h = scaleL a (gmul f h) := by
  unfold scaleL
  rw [List.map_map]
  exact List.map_congr_left fun x _ => mulU_mulU x hf hh
theorem scaleL_zero (n f : Nat) : scaleL (zeroL n) f = zeroL n := by
  unfold scaleL zeroL
  rw [List.map_replicate, mulU_zero]
theorem scaleL_one (a : List UInt8) : scaleL a 1 = a := by
  unfold scaleL
  rw [List.map_congr_left (fun x _ => mulU_one x), List.map_id']
theorem xorL_self (a : List UInt8) : xorL a a = zeroL a.length := by
  induction a with
  | nil => rfl
  | cons x a ih => unfold xorL zeroL at ih ⊢; rw [List.zipWith_cons_cons, ih, UInt8.xor_self, List.length_cons, List.replicate_succ]

/-- r added to z, its first j bytes so far. -/
def xorTo (z r : List UInt8) (j : Nat) : List UInt8 := xorL (z.take j) (r.take j) ++ z.drop j
theorem xorTo_zero (z r : List UInt8) : xorTo z r 0 = z := by simp [xorTo, xorL]
theorem xorTo_len {z r : List UInt8} (h : r.length = z.length) {j : Nat} (hj : j ≤ z.length) : (xorTo z r j).length = z.length := by
  simp [xorTo, xorL_len]; omega
theorem xorTo_all {z r : List UInt8} (h : r.length = z.length) : xorTo z r z.length = xorL z r := by
  unfold xorTo
  rw [List.take_length, ← h, List.take_length, h, List.drop_length, List.append_nil]
theorem xorTo_get {z r : List UInt8} (h : r.length = z.length) {j : Nat} (hj : j < z.length) : (xorTo z r j).getD j 0 = z.getD j 0 := by
  unfold xorTo
  rw [List.getD_eq_getElem?_getD, List.getElem?_append_right (by rw [xorL_len]; simp; omega), xorL_len]
  simp
  congr 2
  omega
theorem xorTo_succ {z r : List UInt8} (h : r.length = z.length) {j : Nat} (hj : j < z.length) : (xorTo z r j).set j (z.getD j 0 ^^^ r.getD j 0) = xorTo z r (j + 1) := by
  have hl : (xorL (z.take j) (r.take j)).length = j := by rw [xorL_len]; simp; omega
  unfold xorTo
  rw [List.set_append_right _ _ (by omega), hl, Nat.sub_self]
  rw [List.drop_eq_getElem_cons hj, List.set_cons_zero]
  rw [List.take_succ_eq_append_getElem hj, List.take_succ_eq_append_getElem (by omega : j < r.length)]
  have e : xorL (z.take j ++ [z[j]]) (r.take j ++ [r[j]'(by omega)]) = xorL (z.take j) (r.take j) ++ [z[j] ^^^ r[j]'(by omega)] := by
    unfold xorL
    rw [List.zipWith_append (by simp; omega)]
    rfl
  rw [e, List.append_assoc]
  simp [hj, h]

/-- Rows added up, row k by g k. -/
def foldG (g : Nat → List UInt8 → List UInt8) (k : Nat) (z : List UInt8) : List (List UInt8) → List UInt8
  | [] => z
  | r :: rs => foldG g (k + 1) (xorL z (g k r)) rs
def gP : Nat → List UInt8 → List UInt8 := fun _ r => r
def gQ : Nat → List UInt8 → List UInt8 := fun k r => scaleL r (gpow k)
theorem foldG_append (g : Nat → List UInt8 → List UInt8) (a b : List (List UInt8)) : ∀ k z, foldG g k z (a ++ b) = foldG g (k + a.length) (foldG g k z a) b := by
  induction a with
  | nil => intro k z; rfl
  | cons r a ih => intro k z; rw [List.cons_append, foldG, ih, foldG]; congr 1; simp; omega
theorem foldG_snoc (g : Nat → List UInt8 → List UInt8) (z : List UInt8) (rs : List (List UInt8)) (k : Nat) (h : k < rs.length) : foldG g 0 z (rs.take (k + 1)) = xorL (foldG g 0 z (rs.take k)) (g k (rs.getD k [])) := by
  rw [List.take_succ_eq_append_getElem h, foldG_append, Nat.zero_add, List.length_take, Nat.min_eq_left (Nat.le_of_lt h)]
  simp [foldG, h]
theorem foldG_lin (g : Nat → List UInt8 → List UInt8) (rs : List (List UInt8)) : ∀ k z y, foldG g k (xorL z y) rs = xorL z (foldG g k y rs) := by
  induction rs with
  | nil => intro k z y; rfl
  | cons r rs ih => intro k z y; rw [foldG, xorL_assoc, ih, foldG]
theorem foldP_at (rs : List (List UInt8)) : ∀ k j z, foldG gP k z rs = foldG gP j z rs := by
  induction rs with
  | nil => intro k j z; rfl
  | cons r rs ih => intro k j z; rw [foldG, foldG]; exact ih _ _ _
theorem foldQ_at (n : Nat) (rs : List (List UInt8)) : ∀ k z, foldG gQ (n + k) (scaleL z (gpow n)) rs = scaleL (foldG gQ k z rs) (gpow n) := by
  induction rs with
  | nil => intro k z; rfl
  | cons r rs ih =>
    intro k z
    rw [foldG, foldG, ← ih, scaleL_xorL]
    have e : gQ (n + k) r = scaleL (gQ k r) (gpow n) := by
      unfold gQ
      rw [scaleL_scaleL _ (gpow_lt _) (gpow_lt _), gpow_add]
      congr 2
      omega
    rw [e]
    rfl
theorem foldG_len {g : Nat → List UInt8 → List UInt8} (hg : ∀ k r, (g k r).length = r.length) {N : Nat} (rs : List (List UInt8)) : ∀ k z, z.length = N → (∀ r ∈ rs, r.length = N) → (foldG g k z rs).length = N := by
  induction rs with
  | nil => intro k z hz _; exact hz
  | cons r rs ih =>
    intro k z hz hr
    rw [foldG]
    exact ih _ _ (by rw [xorL_len, hg, hz, hr r (by simp)]; simp) fun r' h' => hr r' (by simp [h'])
theorem gP_len (k : Nat) (r : List UInt8) : (gP k r).length = r.length := rfl
theorem gQ_len (k : Nat) (r : List UInt8) : (gQ k r).length = r.length := scaleL_len _ _

/-- There are rows, all of one length. -/
def alikeB (rs : List (List UInt8)) : Bool := !rs.isEmpty && rs.all fun r => r.length == (rs.getD 0 []).length
def zerosB (rs : List (List UInt8)) : List UInt8 := if alikeB rs then zeroL (rs.getD 0 []).length else []
def sumG (g : Nat → List UInt8 → List UInt8) (rs : List (List UInt8)) : List UInt8 := if alikeB rs then foldG g 0 (zeroL (rs.getD 0 []).length) rs else []
def pB : List (List UInt8) → List UInt8 := sumG gP
def qB : List (List UInt8) → List UInt8 := sumG gQ
theorem alikeB_iff {rs : List (List UInt8)} : alikeB rs = true ↔ 0 < rs.length ∧ ∀ k, k < rs.length → (rs.getD k []).length = (rs.getD 0 []).length := by
  unfold alikeB
  rw [Bool.and_eq_true, List.all_eq_true, Bool.not_eq_eq_eq_not, Bool.not_true]
  constructor
  · rintro ⟨h1, h2⟩
    refine ⟨?_, fun k hk => ?_⟩
    · rcases rs with _ | ⟨r, rs⟩
      · simp at h1
      · simp
    · have := h2 (rs.getD k []) (by simp [hk])
      simpa using this
  · rintro ⟨h1, h2⟩
    refine ⟨?_, fun r hr => ?_⟩
    · rcases rs with _ | ⟨r, rs⟩
      · simp at h1
      · rfl
    · obtain ⟨k, hk, rfl⟩ := List.getElem_of_mem hr
      have := h2 k hk
      simpa [hk] using this
theorem alikeB_mem {rs : List (List UInt8)} (h : alikeB rs = true) : ∀ r ∈ rs, r.length = (rs.getD 0 []).length := fun r hr => by
  obtain ⟨k, hk, rfl⟩ := List.getElem_of_mem hr
  have := (alikeB_iff.1 h).2 k hk
  simpa [hk] using this
theorem alikeB_no {rs : List (List UInt8)} {k : Nat} (hk : k < rs.length) (h : (rs.getD k []).length ≠ (rs.getD 0 []).length) : alikeB rs = false := by
  cases e : alikeB rs with
  | false => rfl
  | true => exact absurd ((alikeB_iff.1 e).2 k hk) h
theorem alikeB_of {rs : List (List UInt8)} {N : Nat} (h0 : 0 < rs.length) (h : ∀ r ∈ rs, r.length = N) : alikeB rs = true ∧ (rs.getD 0 []).length = N := by
  have h1 : ∀ k, k < rs.length → (rs.getD k []).length = N := fun k hk => h _ (by simp [hk])
  exact ⟨alikeB_iff.2 ⟨h0, fun k hk => (h1 k hk).trans (h1 0 h0).symm⟩, h1 0 h0⟩
theorem zeroL_len (n : Nat) : (zeroL n).length = n := by simp [zeroL]
theorem sumG_len {g : Nat → List UInt8 → List UInt8} (hg : ∀ k r, (g k r).length = r.length) {rs : List (List UInt8)} (h : alikeB rs = true) : (sumG g rs).length = (rs.getD 0 []).length := by
  unfold sumG
  rw [if_pos h]
  exact foldG_len hg rs 0 _ (zeroL_len _) (alikeB_mem h)
theorem zerosB_len_le (rs : List (List UInt8)) : (zerosB rs).length ≤ (rs.getD 0 []).length := by
  unfold zerosB
  split
  · rw [zeroL_len]; omega
  · simp
/-- Where the zeros are none, so are the sums. -/
theorem sumG_nil {g : Nat → List UInt8 → List UInt8} (hg : ∀ k r, (g k r).length = r.length) {rs : List (List UInt8)} (h : zerosB rs = []) : sumG g rs = [] := by
  cases e : alikeB rs with
  | false => unfold sumG; rw [e]; rfl
  | true =>
    unfold zerosB at h
    rw [if_pos e] at h
    have h0 : (rs.getD 0 []).length = 0 := by rw [← zeroL_len (rs.getD 0 []).length, h]; rfl
    exact List.eq_nil_of_length_eq_zero ((sumG_len hg e).trans h0)
/-- Where they are some, all rows are as long, and the sum begins with them. -/
theorem sumG_cons {g : Nat → List UInt8 → List UInt8} {rs : List (List UInt8)} (h : zerosB rs ≠ []) : (∀ k, k < rs.length → (rs.getD k []).length = (zerosB rs).length) ∧ sumG g rs = foldG g 0 (zerosB rs) rs ∧ alikeB rs = true := by
  cases e : alikeB rs with
  | false => unfold zerosB at h; rw [e] at h; exact absurd rfl h
  | true =>
    refine ⟨fun k hk => ?_, ?_, rfl⟩
    · unfold zerosB; rw [if_pos e, zeroL_len]; exact (alikeB_iff.1 e).2 k hk
    · unfold sumG zerosB; rw [if_pos e, if_pos e]
theorem foldG_take_len {g : Nat → List UInt8 → List UInt8} (hg : ∀ k r, (g k r).length = r.length) {rs : List (List UInt8)} {z : List UInt8} (h : ∀ k, k < rs.length → (rs.getD k []).length = z.length) (k : Nat) : (foldG g 0 z (rs.take k)).length = z.length :=
  foldG_len hg _ 0 z rfl fun r hr => by
    obtain ⟨j, hj, rfl⟩ := List.getElem_of_mem hr
    have hj2 : j < rs.length := by simp at hj; omega
    have := h j hj2
    simpa [hj2] using this
/-- Two rows. -/
theorem pB_two {a b : List UInt8} (h : a.length = b.length) : pB [a, b] = xorL a b := by
  have e : alikeB [a, b] = true := by
    refine (alikeB_of (N := a.length) (by simp) fun r hr => ?_).1
    simp at hr
    rcases hr with rfl | rfl
    · rfl
    · exact h.symm
  unfold pB sumG
  rw [if_pos e]
  show xorL (xorL (zeroL a.length) a) b = _
  rw [xorL_comm (zeroL a.length), xorL_zero a _ rfl]
theorem pB_two_no {a b : List UInt8} (h : a.length ≠ b.length) : pB [a, b] = [] := by
  unfold pB sumG
  rw [alikeB_no (k := 1) (by simp) (by simpa using fun e => h e.symm)]
  rfl
/-- What is split adds up. -/
theorem p_split {a b : List (List UInt8)} {N : Nat} (ha : 0 < a.length) (hb : 0 < b.length) (h : ∀ r ∈ a ++ b, r.length = N) : pB (a ++ b) = pB [pB a, pB b] := by
  have h1 := alikeB_of ha fun r hr => h r (by simp [hr])
  have h2 := alikeB_of hb fun r hr => h r (by simp [hr])
  have h3 := alikeB_of (rs := a ++ b) (by simp; omega) h
  have l1 : (pB a).length = N := (sumG_len gP_len h1.1).trans h1.2
  have l2 : (pB b).length = N := (sumG_len gP_len h2.1).trans h2.2
  rw [pB_two (l1.trans l2.symm)]
  unfold pB sumG at l1 l2 ⊢
  rw [if_pos h1.1, h1.2] at l1 ⊢
  rw [if_pos h2.1, h2.2] at l2 ⊢
  rw [if_pos h3.1, h3.2, foldG_append]
  conv => lhs; rw [← xorL_zero _ N l1]
  rw [foldG_lin, foldP_at b (0 + a.length) 0]
theorem q_split {a b : List (List UInt8)} {N : Nat} (ha : 0 < a.length) (hb : 0 < b.length) (h : ∀ r ∈ a ++ b, r.length = N) : qB (a ++ b) = pB [qB a, scaleL (qB b) (gpow a.length)] := by
  have h1 := alikeB_of ha fun r hr => h r (by simp [hr])
  have h2 := alikeB_of hb fun r hr => h r (by simp [hr])
  have h3 := alikeB_of (rs := a ++ b) (by simp; omega) h
  have l1 : (qB a).length = N := (sumG_len gQ_len h1.1).trans h1.2
  have l2 : (qB b).length = N := (sumG_len gQ_len h2.1).trans h2.2
  rw [pB_two (l1.trans (by rw [scaleL_len]; exact l2.symm))]
  unfold qB sumG at l1 l2 ⊢
  rw [if_pos h1.1, h1.2] at l1 ⊢
  rw [if_pos h2.1, h2.2] at l2 ⊢
  rw [if_pos h3.1, h3.2, foldG_append]
  conv => lhs; rw [← xorL_zero _ N l1]
  rw [foldG_lin, Nat.zero_add]
  congr 1
  have := foldQ_at a.length b 0 (zeroL N)
  rw [scaleL_zero, Nat.add_zero] at this
  exact this
end Go.Proofs.Ytfbfodcjfcnfoaa
