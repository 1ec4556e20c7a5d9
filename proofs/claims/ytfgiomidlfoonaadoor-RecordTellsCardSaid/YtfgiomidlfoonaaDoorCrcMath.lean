/- The plain mathematics of the sums: no program here. -/
namespace Go.Proofs.YtfgiomidlfoonaaDoor

def nibs : List Nat := [0, 274646895, 549293790, 820201905, 1098587580, 1361435347, 1640403810, 1905808397, 2197175160, 2460548119, 2722870694, 2987750089, 3280807620, 3553878443, 3811616794, 4084100981]
/-- Four digits taken out of a sum, by the table. -/
def half (x : Nat) : Nat := (x / 16) ^^^ nibs.getD (x % 16) 0
def stepB (x : Nat) (c : UInt8) : Nat := half (half (x ^^^ c.toNat))
def feedB (x : Nat) (bs : List UInt8) : Nat := bs.foldl stepB x
def feedR (x : Nat) (rs : List (List UInt8)) : Nat := rs.foldl feedB x
def sumR (rs : List (List UInt8)) : Nat := feedR 4294967295 rs ^^^ 4294967295

theorem nibs_lt (i : Nat) : nibs.getD i 0 < 4294967296 := by
  by_cases h : i < 16
  · exact (show ∀ i, i < 16 → nibs.getD i 0 < 4294967296 by decide) i h
  · rw [List.getD_eq_getElem?_getD, List.getElem?_eq_none (by simp [nibs]; omega)]; decide
theorem xor_lt32 {a b : Nat} (ha : a < 4294967296) (hb : b < 4294967296) : a ^^^ b < 4294967296 := Nat.xor_lt_two_pow (n := 32) ha hb
theorem half_lt {x : Nat} (h : x < 4294967296) : half x < 4294967296 := xor_lt32 (by omega) (nibs_lt _)
theorem stepB_lt {x : Nat} (c : UInt8) (h : x < 4294967296) : stepB x c < 4294967296 := half_lt (half_lt (xor_lt32 h (by have := c.toNat_lt; omega)))
theorem feedB_lt {x : Nat} (bs : List UInt8) (h : x < 4294967296) : feedB x bs < 4294967296 := by
  unfold feedB
  induction bs generalizing x with
  | nil => exact h
  | cons c r ih => exact ih (stepB_lt c h)
theorem feedR_lt {x : Nat} (rs : List (List UInt8)) (h : x < 4294967296) : feedR x rs < 4294967296 := by
  unfold feedR
  induction rs generalizing x with
  | nil => exact h
  | cons c r ih => exact ih (feedB_lt c h)
theorem foldl_snoc {α β : Type} (f : β → α → β) (x : β) (l : List α) (d : α) (j : Nat) (h : j < l.length) : (l.take (j + 1)).foldl f x = f ((l.take j).foldl f x) (l.getD j d) := by
  rw [List.take_succ_eq_append_getElem h, List.foldl_append]
  simp [h]
theorem feedB_snoc (x : Nat) (bs : List UInt8) (j : Nat) (h : j < bs.length) : feedB x (bs.take (j + 1)) = stepB (feedB x (bs.take j)) (bs.getD j 0) := foldl_snoc stepB x bs 0 j h
theorem feedR_snoc (x : Nat) (rs : List (List UInt8)) (j : Nat) (h : j < rs.length) : feedR x (rs.take (j + 1)) = feedB (feedR x (rs.take j)) (rs.getD j []) := foldl_snoc feedB x rs [] j h
theorem feedR_flat (x : Nat) (rs : List (List UInt8)) : feedR x rs = feedB x rs.flatten := by
  induction rs generalizing x with
  | nil => rfl
  | cons r rs ih => simp only [feedR, List.foldl_cons, List.flatten_cons]; rw [show feedB x (r ++ rs.flatten) = feedB (feedB x r) rs.flatten from List.foldl_append]; exact ih _
/-- Byte k of a sum, the greatest first. -/
def beB (x k : Nat) : UInt8 := UInt8.ofNat (x / 2 ^ (24 - 8 * k))
def be4 (x : Nat) : List UInt8 := [beB x 0, beB x 1, beB x 2, beB x 3]
/-- The first k bytes of a stamp set in a sector. -/
def stampK (bs : List UInt8) (x k : Nat) : List UInt8 := (List.range k).foldl (fun l i => l.set (28 + i) (beB x i)) bs
/-- A sector, stamped. -/
def stamped (bs : List UInt8) (rs : List (List UInt8)) : List UInt8 := bs.take 28 ++ be4 (sumR (bs.take 28 :: rs))
/-- Is it a sector with a right stamp? -/
def rightB (bs : List UInt8) (rs : List (List UInt8)) : Bool := decide (bs.length = 32) && decide (bs.drop 28 = be4 (sumR (bs.take 28 :: rs)))
theorem stampK_succ (bs : List UInt8) (x k : Nat) : stampK bs x (k + 1) = (stampK bs x k).set (28 + k) (beB x k) := by
  simp [stampK, List.range_succ, List.foldl_append]
theorem stampK_len (bs : List UInt8) (x k : Nat) : (stampK bs x k).length = bs.length := by
  induction k with
  | zero => rfl
  | succ k ih => rw [stampK_succ]; simp [ih]
theorem stampK_four (bs : List UInt8) (x : Nat) (h : bs.length = 32) : stampK bs x 4 = bs.take 28 ++ be4 x := by
  apply List.ext_getElem?
  intro i
  simp only [stampK, List.range_succ, List.range_zero, List.nil_append, List.cons_append, List.foldl_cons, List.foldl_nil, be4, Nat.add_zero]
  simp only [List.getElem?_set, List.length_set, h, List.getElem?_append, List.length_take]
  have hm : min 28 bs.length = 28 := by omega
  rw [h] at hm
  rw [hm]
  by_cases h1 : i < 28
  · rw [if_pos h1, if_neg (by omega), if_neg (by omega), if_neg (by omega), if_neg (by omega), List.getElem?_take, if_pos h1]
  · rw [if_neg h1]
    by_cases h2 : i = 28
    · subst h2; simp
    · by_cases h3 : i = 29
      · subst h3; simp
      · by_cases h4 : i = 30
        · subst h4; simp
        · by_cases h5 : i = 31
          · subst h5; simp
          · rw [if_neg (by omega), if_neg (by omega), if_neg (by omega), if_neg (by omega), List.getElem?_eq_none (by omega), List.getElem?_eq_none (by simp; omega)]
theorem stamped_len (bs : List UInt8) (rs : List (List UInt8)) (h : bs.length = 32) : (stamped bs rs).length = 32 := by simp [stamped, be4, h]
theorem sumR_lt (rs : List (List UInt8)) : sumR rs < 4294967296 := xor_lt32 (feedR_lt rs (by decide)) (by decide)
theorem sumR_cons (a : List UInt8) (rs : List (List UInt8)) : sumR (a :: rs) = feedR (feedR 4294967295 [a]) rs ^^^ 4294967295 := rfl
theorem be4_get (x k : Nat) (h : k < 4) : (be4 x).getD k 0 = beB x k := by
  match k, h with
  | 0, _ | 1, _ | 2, _ | 3, _ => rfl
theorem rightB_no {bs : List UInt8} {rs : List (List UInt8)} (k : Nat) (hk : k < 4) (h : bs.getD (28 + k) 0 ≠ beB (sumR (bs.take 28 :: rs)) k) : rightB bs rs = false := by
  unfold rightB
  have : ¬ bs.drop 28 = be4 (sumR (bs.take 28 :: rs)) := fun e => h (by
    rw [← be4_get _ k hk, ← e]
    simp)
  simp [this]
theorem rightB_yes {bs : List UInt8} {rs : List (List UInt8)} (hl : bs.length = 32) (h : ∀ k, k < 4 → bs.getD (28 + k) 0 = beB (sumR (bs.take 28 :: rs)) k) : rightB bs rs = true := by
  unfold rightB
  have : bs.drop 28 = be4 (sumR (bs.take 28 :: rs)) := by
    apply List.ext_getElem
    · simp [hl, be4]
    · intro i h1 h2
      have hi : i < 4 := by simpa [be4] using h2
      have h3 := h i hi
      rw [← be4_get _ i hi] at h3
      have h4 : 28 + i < bs.length := by omega
      simpa [h4, h2] using h3
  simp [this, hl]
end Go.Proofs.YtfgiomidlfoonaaDoor
