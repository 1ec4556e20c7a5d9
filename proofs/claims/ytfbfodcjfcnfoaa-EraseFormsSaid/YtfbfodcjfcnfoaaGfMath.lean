/- The plain mathematics of the field: no program here. -/
namespace Go.Proofs.Ytfbfodcjfcnfoaa

/-- Powers of two, and of which one a byte is (the field of 0x11D). -/
def gexpT : Array Nat := #[1, 2, 4, 8, 16, 32, 64, 128, 29, 58, 116, 232, 205, 135, 19, 38, 76, 152, 45, 90, 180, 117, 234, 201, 143, 3, 6, 12, 24, 48, 96, 192, 157, 39, 78, 156, 37, 74, 148, 53, 106, 212, 181, 119, 238, 193, 159, 35, 70, 140, 5, 10, 20, 40, 80, 160, 93, 186, 105, 210, 185, 111, 222, 161, 95, 190, 97, 194, 153, 47, 94, 188, 101, 202, 137, 15, 30, 60, 120, 240, 253, 231, 211, 187, 107, 214, 177, 127, 254, 225, 223, 163, 91, 182, 113, 226, 217, 175, 67, 134, 17, 34, 68, 136, 13, 26, 52, 104, 208, 189, 103, 206, 129, 31, 62, 124, 248, 237, 199, 147, 59, 118, 236, 197, 151, 51, 102, 204, 133, 23, 46, 92, 184, 109, 218, 169, 79, 158, 33, 66, 132, 21, 42, 84, 168, 77, 154, 41, 82, 164, 85, 170, 73, 146, 57, 114, 228, 213, 183, 115, 230, 209, 191, 99, 198, 145, 63, 126, 252, 229, 215, 179, 123, 246, 241, 255, 227, 219, 171, 75, 150, 49, 98, 196, 149, 55, 110, 220, 165, 87, 174, 65, 130, 25, 50, 100, 200, 141, 7, 14, 28, 56, 112, 224, 221, 167, 83, 166, 81, 162, 89, 178, 121, 242, 249, 239, 195, 155, 43, 86, 172, 69, 138, 9, 18, 36, 72, 144, 61, 122, 244, 245, 247, 243, 251, 235, 203, 139, 11, 22, 44, 88, 176, 125, 250, 233, 207, 131, 27, 54, 108, 216, 173, 71, 142]
def glogT : Array Nat := #[0, 0, 1, 25, 2, 50, 26, 198, 3, 223, 51, 238, 27, 104, 199, 75, 4, 100, 224, 14, 52, 141, 239, 129, 28, 193, 105, 248, 200, 8, 76, 113, 5, 138, 101, 47, 225, 36, 15, 33, 53, 147, 142, 218, 240, 18, 130, 69, 29, 181, 194, 125, 106, 39, 249, 185, 201, 154, 9, 120, 77, 228, 114, 166, 6, 191, 139, 98, 102, 221, 48, 253, 226, 152, 37, 179, 16, 145, 34, 136, 54, 208, 148, 206, 143, 150, 219, 189, 241, 210, 19, 92, 131, 56, 70, 64, 30, 66, 182, 163, 195, 72, 126, 110, 107, 58, 40, 84, 250, 133, 186, 61, 202, 94, 155, 159, 10, 21, 121, 43, 78, 212, 229, 172, 115, 243, 167, 87, 7, 112, 192, 247, 140, 128, 99, 13, 103, 74, 222, 237, 49, 197, 254, 24, 227, 165, 153, 119, 38, 184, 180, 124, 17, 68, 146, 217, 35, 32, 137, 46, 55, 63, 209, 91, 149, 188, 207, 205, 144, 135, 151, 178, 220, 252, 190, 97, 242, 86, 211, 171, 20, 42, 93, 158, 132, 60, 57, 83, 71, 109, 65, 162, 31, 45, 67, 216, 183, 123, 164, 118, 196, 23, 73, 236, 127, 12, 111, 246, 108, 161, 59, 82, 41, 157, 85, 170, 251, 96, 134, 177, 187, 204, 62, 90, 203, 89, 95, 176, 156, 169, 160, 81, 11, 245, 22, 235, 122, 117, 44, 215, 79, 174, 213, 233, 230, 231, 173, 232, 116, 214, 244, 234, 168, 80, 88, 175]
def gE (i : Nat) : Nat := gexpT.getD (i % 255) 0
def gL (a : Nat) : Nat := glogT.getD a 0
/-- Times two. -/
def dbl (a : Nat) : Nat := if a < 128 then 2 * a else (2 * a - 256) ^^^ 29
/-- The product, digit by digit of b. -/
def mulF : Nat → Nat → Nat → Nat → Nat
  | 0, s, _, _ => s
  | f + 1, s, x, y => mulF f (if y % 2 = 1 then s ^^^ x else s) (dbl x) (y / 2)
def gmul (a b : Nat) : Nat := mulF 8 0 a b
def ginv (a : Nat) : Nat := if a = 0 then 0 else gE (255 - gL a)
def glog (a : Nat) : Int := if a = 0 then -1 else (gL a : Int)
def gdiv (a b : Nat) : Nat := gmul a (ginv b)
/-- Two to the n, n any number. -/
def gpow (n : Int) : Nat := gE (n % 255).toNat

/-- A table of a check, by numbers only (the kernel reckons). -/
def allB : Nat → (Nat → Bool) → Bool
  | 0, _ => true
  | k + 1, p => p k && allB k p
theorem allB_iff {n : Nat} {p : Nat → Bool} (h : allB n p = true) : ∀ k, k < n → p k = true := by
  induction n with
  | zero => intro k hk; omega
  | succ n ih =>
    intro k hk
    have h' : (p n && allB n p) = true := h
    rw [Bool.and_eq_true] at h'
    by_cases e : k = n
    · rw [e]; exact h'.1
    · exact ih h'.2 k (by omega)
theorem gL_lt : ∀ a, a < 256 → gL a < 255 := fun a h => of_decide_eq_true (allB_iff (p := fun a => decide (gL a < 255)) (n := 256) (by decide +kernel) a h)
theorem gE_tab : ∀ i, i < 255 → gE i < 256 ∧ gE i ≠ 0 ∧ gL (gE i) = i ∧ gE (i + 1) = dbl (gE i) := fun a h => by
  have := allB_iff (p := fun i => Nat.blt (gE i) 256 && (!Nat.beq (gE i) 0 && (Nat.beq (gL (gE i)) i && Nat.beq (gE (i + 1)) (dbl (gE i))))) (n := 255) (by decide +kernel) a h
  simp only [Bool.and_eq_true, Nat.blt_eq, Nat.beq_eq, Bool.not_eq_eq_eq_not, Bool.not_true] at this
  obtain ⟨h1, h2, h3, h4⟩ := this
  exact ⟨h1, fun e => by rw [e] at h2; exact absurd h2 (by decide), h3, h4⟩
theorem gE_mod (i : Nat) : gE (i % 255) = gE i := by unfold gE; rw [Nat.mod_mod]
theorem gE_lt (i : Nat) : gE i < 256 := by rw [← gE_mod]; exact (gE_tab _ (Nat.mod_lt _ (by decide))).1
theorem gE_ne (i : Nat) : gE i ≠ 0 := by rw [← gE_mod]; exact (gE_tab _ (Nat.mod_lt _ (by decide))).2.1
theorem gL_gE (i : Nat) : gL (gE i) = i % 255 := by rw [← gE_mod]; exact (gE_tab _ (Nat.mod_lt _ (by decide))).2.2.1
theorem gE_succ (i : Nat) : gE (i + 1) = dbl (gE i) := by
  have := (gE_tab _ (Nat.mod_lt i (by decide : 0 < 255))).2.2.2
  rw [gE_mod] at this
  rw [← this, ← gE_mod (i + 1), ← gE_mod (i % 255 + 1)]; exact congrArg gE (by omega)
theorem gE_gL : ∀ a, a < 256 → a ≠ 0 → gE (gL a) = a := fun a h h0 => by
  have := allB_iff (p := fun a => Nat.beq a 0 || Nat.beq (gE (gL a)) a) (n := 256) (by decide +kernel) a h
  simp at this; omega
theorem dbl_xor : ∀ a b, a < 256 → b < 256 → dbl (a ^^^ b) = dbl a ^^^ dbl b := fun a b ha hb => by
  have := allB_iff (allB_iff (p := fun a => allB 256 fun b => Nat.beq (dbl (a ^^^ b)) (dbl a ^^^ dbl b)) (n := 256) (by decide +kernel) a ha) b hb
  simpa using this
theorem dbl_lt : ∀ a, a < 256 → dbl a < 256 := fun a h => by
  have := allB_iff (p := fun a => Nat.blt (dbl a) 256) (n := 256) (by decide +kernel) a h
  simpa using this
theorem xor_lt8 {a b : Nat} (ha : a < 256) (hb : b < 256) : a ^^^ b < 256 := Nat.xor_lt_two_pow (n := 8) ha hb
theorem mulF_lt (f : Nat) : ∀ s x y, s < 256 → x < 256 → mulF f s x y < 256 := by
  induction f with
  | zero => intro s x y hs _; exact hs
  | succ f ih =>
    intro s x y hs hx
    unfold mulF
    split
    · exact ih _ _ _ (xor_lt8 hs hx) (dbl_lt _ hx)
    · exact ih _ _ _ hs (dbl_lt _ hx)
theorem gmul_lt {a b : Nat} (ha : a < 256) : gmul a b < 256 := mulF_lt 8 0 a b (by decide) ha
theorem mulF_dbl (f : Nat) : ∀ s x y, s < 256 → x < 256 → mulF f (dbl s) (dbl x) y = dbl (mulF f s x y) := by
  induction f with
  | zero => intro s x y _ _; rfl
  | succ f ih =>
    intro s x y hs hx
    unfold mulF
    split
    · rw [← dbl_xor _ _ hs hx]; exact ih _ _ _ (xor_lt8 hs hx) (dbl_lt _ hx)
    · exact ih _ _ _ hs (dbl_lt _ hx)
theorem xor_swap (a b c d : Nat) : (a ^^^ b) ^^^ (c ^^^ d) = (a ^^^ c) ^^^ (b ^^^ d) := by
  rw [Nat.xor_assoc, Nat.xor_assoc, ← Nat.xor_assoc b c d, Nat.xor_comm b c, Nat.xor_assoc c b d]
theorem mulF_xor (f : Nat) : ∀ s t x z y, s < 256 → t < 256 → x < 256 → z < 256 → mulF f (s ^^^ t) (x ^^^ z) y = mulF f s x y ^^^ mulF f t z y := by
  induction f with
  | zero => intro s t x z y _ _ _ _; rfl
  | succ f ih =>
    intro s t x z y hs ht hx hz
    unfold mulF
    rw [dbl_xor _ _ hx hz]
    split
    · rw [xor_swap]; exact ih _ _ _ _ _ (xor_lt8 hs hx) (xor_lt8 ht hz) (dbl_lt _ hx) (dbl_lt _ hz)
    · exact ih _ _ _ _ _ hs ht (dbl_lt _ hx) (dbl_lt _ hz)
theorem mulF_zero_left (f : Nat) : ∀ y, mulF f 0 0 y = 0 := by
  induction f with
  | zero => intro y; rfl
  | succ f ih => intro y; unfold mulF; simp only [Nat.xor_self, ite_self]; exact ih _
theorem mulF_zero_right (f : Nat) : ∀ s x, mulF f s x 0 = s := by
  induction f with
  | zero => intro s x; rfl
  | succ f ih => intro s x; unfold mulF; exact ih _ _
theorem gmul_zero_left (b : Nat) : gmul 0 b = 0 := mulF_zero_left 8 b
theorem gmul_zero_right (a : Nat) : gmul a 0 = 0 := mulF_zero_right 8 0 a
theorem gmul_one_left : ∀ b, b < 256 → gmul 1 b = b := fun a h => by
  have := allB_iff (p := fun a => Nat.beq (gmul 1 a) a) (n := 256) (by decide +kernel) a h
  simpa using this
theorem gmul_dbl {a : Nat} (b : Nat) (ha : a < 256) : gmul (dbl a) b = dbl (gmul a b) := mulF_dbl 8 0 a b (by decide) ha
theorem gmul_pow (i : Nat) : ∀ j, gmul (gE i) (gE j) = gE (i + j) := by
  induction i with
  | zero => intro j; rw [show gE 0 = 1 from by decide +kernel, gmul_one_left _ (gE_lt j), Nat.zero_add]
  | succ i ih => intro j; rw [gE_succ, gmul_dbl _ (gE_lt i), ih, ← gE_succ]; congr 1; omega
/-- The product by logs. -/
theorem gmul_tab {a b : Nat} (ha : a < 256) (hb : b < 256) : gmul a b = if a = 0 ∨ b = 0 then 0 else gE (gL a + gL b) := by
  split
  · next h => rcases h with rfl | rfl; exact gmul_zero_left b; exact gmul_zero_right a
  · next h => rw [← gmul_pow, gE_gL a ha (by omega), gE_gL b hb (by omega)]
theorem gmul_comm {a b : Nat} (ha : a < 256) (hb : b < 256) : gmul a b = gmul b a := by
  rw [gmul_tab ha hb, gmul_tab hb ha, Nat.add_comm]
  by_cases h : a = 0 <;> by_cases h' : b = 0 <;> simp [h, h']
theorem gmul_ne {a b : Nat} (ha : a < 256) (hb : b < 256) (h : a ≠ 0) (h' : b ≠ 0) : gmul a b ≠ 0 := by
  rw [gmul_tab ha hb, if_neg (by omega)]; exact gE_ne _
theorem gmul_one_right {a : Nat} (ha : a < 256) : gmul a 1 = a := by rw [gmul_comm ha (by decide), gmul_one_left a ha]
theorem gE_congr {i j : Nat} (h : i % 255 = j % 255) : gE i = gE j := by rw [← gE_mod i, h, gE_mod]
theorem gmul_assoc {a b c : Nat} (ha : a < 256) (hb : b < 256) (hc : c < 256) : gmul a (gmul b c) = gmul (gmul a b) c := by
  by_cases h : a = 0
  · subst h; rw [gmul_zero_left, gmul_zero_left, gmul_zero_left]
  by_cases h' : b = 0
  · subst h'; rw [gmul_zero_left, gmul_zero_right, gmul_zero_left]
  by_cases h'' : c = 0
  · subst h''; rw [gmul_zero_right, gmul_zero_right, gmul_zero_right]
  rw [gmul_tab hb hc, if_neg (by omega), gmul_tab ha hb, if_neg (by omega), gmul_tab ha (gE_lt _), if_neg (by have := gE_ne (gL b + gL c); omega), gmul_tab (gE_lt _) hc, if_neg (by have := gE_ne (gL a + gL b); omega), gL_gE, gL_gE]
  exact gE_congr (by omega)
theorem gmul_xor_left {a c : Nat} (b : Nat) (ha : a < 256) (hc : c < 256) : gmul (a ^^^ c) b = gmul a b ^^^ gmul c b := mulF_xor 8 0 0 a c b (by decide) (by decide) ha hc
theorem gmul_xor_right {a b c : Nat} (ha : a < 256) (hb : b < 256) (hc : c < 256) : gmul a (b ^^^ c) = gmul a b ^^^ gmul a c := by
  rw [gmul_comm ha (xor_lt8 hb hc), gmul_xor_left a hb hc, gmul_comm hb ha, gmul_comm hc ha]
theorem ginv_lt (a : Nat) : ginv a < 256 := by unfold ginv; split; decide; exact gE_lt _
theorem ginv_ne {a : Nat} (h : a ≠ 0) : ginv a ≠ 0 := by unfold ginv; rw [if_neg h]; exact gE_ne _
theorem gmul_inv {a : Nat} (ha : a < 256) (h : a ≠ 0) : gmul a (ginv a) = 1 := by
  have := gL_lt a ha
  rw [gmul_tab ha (ginv_lt a), if_neg (by have := ginv_ne h; omega)]
  unfold ginv
  rw [if_neg h, gL_gE, show (1 : Nat) = gE 0 from by decide +kernel]
  exact gE_congr (by omega)
/-- The inverse is the only one. -/
theorem inv_only {a j : Nat} (ha : a < 256) (hj : j < 256) (h : gmul a j = 1) : j = ginv a := by
  have h0 : a ≠ 0 := by rintro rfl; rw [gmul_zero_left] at h; omega
  have h1 := gmul_assoc (ginv_lt a) ha hj
  rw [h, gmul_one_right (ginv_lt a), gmul_comm (ginv_lt a) ha, gmul_inv ha h0, gmul_one_left j hj] at h1
  exact h1.symm
theorem ginv_ginv {a : Nat} (ha : a < 256) : ginv (ginv a) = a := by
  by_cases h : a = 0
  · subst h; rfl
  · exact (inv_only (ginv_lt a) ha (by rw [gmul_comm (ginv_lt a) ha, gmul_inv ha h])).symm
theorem gdiv_lt {a : Nat} (b : Nat) (ha : a < 256) : gdiv a b < 256 := gmul_lt ha
theorem gdiv_mul {a b : Nat} (ha : a < 256) (hb : b < 256) (h : b ≠ 0) : gmul (gdiv a b) b = a := by
  unfold gdiv
  rw [← gmul_assoc ha (ginv_lt b) hb, gmul_comm (ginv_lt b) hb, gmul_inv hb h, gmul_one_right ha]
theorem gpow_lt (n : Int) : gpow n < 256 := gE_lt _
theorem gpow_ne (n : Int) : gpow n ≠ 0 := gE_ne _
theorem gpow_add (m n : Int) : gmul (gpow m) (gpow n) = gpow (m + n) := by
  unfold gpow
  rw [gmul_pow]
  exact gE_congr (by omega)
theorem gpow_log {a : Nat} (ha : a < 256) (h : a ≠ 0) : gpow (glog a) = a := by
  have := gL_lt a ha
  unfold gpow glog
  rw [if_neg h, show ((gL a : Int) % 255).toNat = gL a from by omega, gE_gL a ha h]
theorem glog_gE (i : Nat) : glog (gE i) = ((i % 255 : Nat) : Int) := by unfold glog; rw [if_neg (gE_ne i), gL_gE]
theorem glog_gpow (n : Int) : glog (gpow n) = n % 255 := by unfold gpow; rw [glog_gE]; omega
/-- The square of a sum. -/
theorem gmul_square {a b : Nat} (ha : a < 256) (hb : b < 256) : gmul (a ^^^ b) (a ^^^ b) = gmul a a ^^^ gmul b b := by
  rw [gmul_xor_left _ ha hb, gmul_xor_right ha ha hb, gmul_xor_right hb ha hb, gmul_comm hb ha, Nat.xor_assoc, ← Nat.xor_assoc (gmul a b) (gmul a b), Nat.xor_self, Nat.zero_xor]
/-- Squared k times. -/
def gsq : Nat → Nat → Nat
  | 0, a => a
  | k + 1, a => gmul (gsq k a) (gsq k a)
theorem gsq_lt (k : Nat) {a : Nat} (ha : a < 256) : gsq k a < 256 := by induction k with | zero => exact ha | succ k ih => exact gmul_lt ih
theorem gsq_eight : ∀ a, a < 256 → gsq 8 a = a := by
  have : ∀ k a, a < 256 → gsq k a = if a = 0 then 0 else gE (2 ^ k * gL a) := by
    intro k a ha
    induction k with
    | zero => by_cases h : a = 0
              · rw [if_pos h]; exact h
              · rw [if_neg h, Nat.pow_zero, Nat.one_mul, gE_gL a ha h]; rfl
    | succ k ih =>
      unfold gsq
      rw [ih]
      split
      · rfl
      · rw [gmul_pow]; exact congrArg gE (by rw [Nat.pow_succ, Nat.mul_comm (2 ^ k) 2, Nat.mul_assoc]; omega)
  intro a ha
  rw [this 8 a ha]
  split
  · omega
  · next h => rw [gE_congr (j := gL a) (by omega), gE_gL a ha h]
/-- a to the n. -/
def gpw (a : Nat) : Nat → Nat
  | 0 => 1
  | n + 1 => gmul a (gpw a n)
theorem gpw_lt {a : Nat} (ha : a < 256) (n : Nat) : gpw a n < 256 := by cases n with | zero => exact (by decide : (1 : Nat) < 256) | succ n => exact gmul_lt ha
theorem gpw_two {a : Nat} (ha : a < 256) (m : Nat) : gpw (gmul a a) m = gpw a (2 * m) := by
  induction m with
  | zero => rfl
  | succ m ih => rw [show 2 * (m + 1) = 2 * m + 1 + 1 from by omega]; show gmul (gmul a a) (gpw (gmul a a) m) = gmul a (gmul a (gpw a (2 * m))); rw [ih, gmul_assoc ha ha (gpw_lt ha _)]
theorem gpw_half {x a : Nat} (hx : x < 256) (ha : a < 256) (n : Nat) : gmul (if n % 2 = 1 then gmul x a else x) (gpw (gmul a a) (n / 2)) = gmul x (gpw a n) := by
  rw [gpw_two ha]
  split
  · next h => obtain ⟨m, rfl⟩ : ∃ m, n = 2 * m + 1 := ⟨n / 2, by omega⟩
              rw [show 2 * ((2 * m + 1) / 2) = 2 * m from by omega, ← gmul_assoc hx ha (gpw_lt ha _)]; rfl
  · next h => rw [show 2 * (n / 2) = n from by omega]
theorem gpw_gE (i n : Nat) : gpw (gE i) n = gE (i * n) := by
  induction n with
  | zero => rw [Nat.mul_zero]; exact (by decide +kernel : (1 : Nat) = gE 0)
  | succ n ih => show gmul (gE i) (gpw (gE i) n) = _; rw [ih, gmul_pow]; exact congrArg gE (by rw [Nat.mul_succ]; omega)
theorem gpw_two_n (n : Nat) : gpw 2 n = gE n := by
  have := gpw_gE 1 n
  rw [show gE 1 = 2 from by decide +kernel, Nat.one_mul] at this
  exact this
theorem gpw_inv {a : Nat} (ha : a < 256) : gpw a 254 = ginv a := by
  by_cases h : a = 0
  · subst h; exact gmul_zero_left _
  · have hl := gL_lt a ha
    have e : gpw a 254 = gE (gL a * 254) := by rw [← gpw_gE, gE_gL a ha h]
    rw [e]; unfold ginv; rw [if_neg h]; exact gE_congr (by omega)
end Go.Proofs.Ytfbfodcjfcnfoaa
