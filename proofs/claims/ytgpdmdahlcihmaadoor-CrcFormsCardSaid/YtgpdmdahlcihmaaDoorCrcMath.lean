/- The plain mathematics of the sums: no program here. -/
namespace Go.Proofs.YtgpdmdahlcihmaaDoor

def nibs : List Nat := [0, 274646895, 549293790, 820201905, 1098587580, 1361435347, 1640403810, 1905808397, 2197175160, 2460548119, 2722870694, 2987750089, 3280807620, 3553878443, 3811616794, 4084100981]
/-- Four digits taken out of a sum, by the table. -/
def half (x : Nat) : Nat := (x / 16) ^^^ nibs.getD (x % 16) 0
def stepB (x : Nat) (c : UInt8) : Nat := half (half (x ^^^ c.toNat))
def feedB (x : Nat) (bs : List UInt8) : Nat := bs.foldl stepB x
def feedR (x : Nat) (rs : List (List UInt8)) : Nat := rs.foldl feedB x
def sumR (rs : List (List UInt8)) : Nat := feedR 4294967295 rs ^^^ 4294967295

theorem nibs_lt (i : Nat) : nibs.getD i 0 < 4294967296 := by
  by_cases h : i < 16
  · exact (show ∀ i, i < 16 → nibs.getD i 0 < 4294967296 by decide) i h
  · rw [List.getD_eq_getElem?_getD, List.getElem?_eq_none (by simp [nibs]; omega)]; decide
theorem xor_lt32 {a b : Nat} (ha : a < 4294967296) (hb : b < 4294967296) : a ^^^ b < 4294967296 := Nat.xor_lt_two_pow (n := 32) ha hb
theorem half_lt {x : Nat} (h : x < 4294967296) : half x < 4294967296 := xor_lt32 (by omega) (nibs_lt _)
theorem stepB_lt {x : Nat} (c : UInt8) (h : x < 4294967296) : stepB x c < 4294967296 := half_lt (half_lt (xor_lt32 h (by have := c.toNat_lt; omega)))
theorem feedB_lt {x : Nat} (bs : List UInt8) (h : x < 4294967296) : feedB x bs < 4294967296 := by
  unfold feedB
  induction bs generalizing x with
  | nil => exact h
  | cons c r ih => exact ih (stepB_lt c h)
theorem feedR_lt {x : Nat} (rs : List (List UInt8)) (h : x < 4294967296) : feedR x rs < 4294967296 := by
  unfold feedR
  induction rs generalizing x with
  | nil => exact h
  | cons c r ih => exact ih (feedB_lt c h)
theorem foldl_snoc {α β : Type} (f : β → α → β) (x : β) (l : List α) (d : α) (j : Nat) (h : j < l.length) : (l.take (j + 1)).foldl f x = f ((l.take j).foldl f x) (l.getD j d) := by
  rw [List.take_succ_eq_append_getElem h, List.foldl_append]
  simp [h]
theorem feedB_snoc (x : Nat) (bs : List UInt8) (j : Nat) (h : j < bs.length) : feedB x (bs.take (j + 1)) = stepB (feedB x (bs.take j)) (bs.getD j 0) := foldl_snoc stepB x bs 0 j h
theorem feedR_snoc (x : Nat) (rs : List (List UInt8)) (j : Nat) (h : j < rs.length) : feedR x (rs.take (j + 1)) = feedB (feedR x (rs.take j)) (rs.getD j []) := foldl_snoc feedB x rs [] j h
theorem feedR_flat (x : Nat) (rs : List (List UInt8)) : feedR x rs = feedB x rs.flatten := by
  induction rs generalizing x with
  | nil => rfl
  | cons r rs ih => simp only [feedR, List.foldl_cons, List.flatten_cons]; rw [show feedB x (r ++ rs.flatten) = feedB (feedB x r) rs.flatten from List.foldl_append]; exact ih _
end Go.Proofs.YtgpdmdahlcihmaaDoor
