/- Texts put together: GfMath, Gf, SyndMath, Synd, SyndQ, OwnZ, Law. -/
import Derived.Test.YtadfimimkkimmaaProg
import Derived.Test.YtadfimimkkimmaaSaaaa
import Derived.Laws.BitsAllLaws
import Derived.Deep.DeepFit
import Derived.StillTailTactics
import Derived.Lib.AppendZerosOnto
import Derived.ProofKit
import Derived.OpenShut
import Derived.Carry
import Derived.SizedLaws
import GoSem.ClaimSeven
import Derived.Deep.DeepHandedRow
import Derived.Lib.LaidTab
section
namespace Go.Proofs.Ytadfimimkkimmaa

/-- Powers of two, and of which one a byte is (the field of 0x11D). -/
def gexpT : Array Nat := #[1, 2, 4, 8, 16, 32, 64, 128, 29, 58, 116, 232, 205, 135, 19, 38, 76, 152, 45, 90, 180, 117, 234, 201, 143, 3, 6, 12, 24, 48, 96, 192, 157, 39, 78, 156, 37, 74, 148, 53, 106, 212, 181, 119, 238, 193, 159, 35, 70, 140, 5, 10, 20, 40, 80, 160, 93, 186, 105, 210, 185, 111, 222, 161, 95, 190, 97, 194, 153, 47, 94, 188, 101, 202, 137, 15, 30, 60, 120, 240, 253, 231, 211, 187, 107, 214, 177, 127, 254, 225, 223, 163, 91, 182, 113, 226, 217, 175, 67, 134, 17, 34, 68, 136, 13, 26, 52, 104, 208, 189, 103, 206, 129, 31, 62, 124, 248, 237, 199, 147, 59, 118, 236, 197, 151, 51, 102, 204, 133, 23, 46, 92, 184, 109, 218, 169, 79, 158, 33, 66, 132, 21, 42, 84, 168, 77, 154, 41, 82, 164, 85, 170, 73, 146, 57, 114, 228, 213, 183, 115, 230, 209, 191, 99, 198, 145, 63, 126, 252, 229, 215, 179, 123, 246, 241, 255, 227, 219, 171, 75, 150, 49, 98, 196, 149, 55, 110, 220, 165, 87, 174, 65, 130, 25, 50, 100, 200, 141, 7, 14, 28, 56, 112, 224, 221, 167, 83, 166, 81, 162, 89, 178, 121, 242, 249, 239, 195, 155, 43, 86, 172, 69, 138, 9, 18, 36, 72, 144, 61, 122, 244, 245, 247, 243, 251, 235, 203, 139, 11, 22, 44, 88, 176, 125, 250, 233, 207, 131, 27, 54, 108, 216, 173, 71, 142]
def glogT : Array Nat := #[0, 0, 1, 25, 2, 50, 26, 198, 3, 223, 51, 238, 27, 104, 199, 75, 4, 100, 224, 14, 52, 141, 239, 129, 28, 193, 105, 248, 200, 8, 76, 113, 5, 138, 101, 47, 225, 36, 15, 33, 53, 147, 142, 218, 240, 18, 130, 69, 29, 181, 194, 125, 106, 39, 249, 185, 201, 154, 9, 120, 77, 228, 114, 166, 6, 191, 139, 98, 102, 221, 48, 253, 226, 152, 37, 179, 16, 145, 34, 136, 54, 208, 148, 206, 143, 150, 219, 189, 241, 210, 19, 92, 131, 56, 70, 64, 30, 66, 182, 163, 195, 72, 126, 110, 107, 58, 40, 84, 250, 133, 186, 61, 202, 94, 155, 159, 10, 21, 121, 43, 78, 212, 229, 172, 115, 243, 167, 87, 7, 112, 192, 247, 140, 128, 99, 13, 103, 74, 222, 237, 49, 197, 254, 24, 227, 165, 153, 119, 38, 184, 180, 124, 17, 68, 146, 217, 35, 32, 137, 46, 55, 63, 209, 91, 149, 188, 207, 205, 144, 135, 151, 178, 220, 252, 190, 97, 242, 86, 211, 171, 20, 42, 93, 158, 132, 60, 57, 83, 71, 109, 65, 162, 31, 45, 67, 216, 183, 123, 164, 118, 196, 23, 73, 236, 127, 12, 111, 246, 108, 161, 59, 82, 41, 157, 85, 170, 251, 96, 134, 177, 187, 204, 62, 90, 203, 89, 95, 176, 156, 169, 160, 81, 11, 245, 22, 235, 122, 117, 44, 215, 79, 174, 213, 233, 230, 231, 173, 232, 116, 214, 244, 234, 168, 80, 88, 175]
def gE (i : Nat) : Nat := gexpT.getD (i % 255) 0
def gL (a : Nat) : Nat := glogT.getD a 0
/-- Times two. -/
def dbl (a : Nat) : Nat := if a < 128 then 2 * a else (2 * a - 256) ^^^ 29
/-- The product, digit by digit of b. -/
def mulF : Nat → Nat → Nat → Nat → Nat
  | 0, s, _, _ => s
  | f + 1, s, x, y => mulF f (if y % 2 = 1 then s ^^^ x else s) (dbl x) (y / 2)
def gmul (a b : Nat) : Nat := mulF 8 0 a b
def ginv (a : Nat) : Nat := if a = 0 then 0 else gE (255 - gL a)
def glog (a : Nat) : Int := if a = 0 then -1 else (gL a : Int)
def gdiv (a b : Nat) : Nat := gmul a (ginv b)
/-- Two to the n, n any number. -/
def gpow (n : Int) : Nat := gE (n % 255).toNat

/-- A table of a check, by numbers only (the kernel reckons). -/
def allB : Nat → (Nat → Bool) → Bool
  | 0, _ => true
  | k + 1, p => p k && allB k p
theorem allB_iff {n : Nat} {p : Nat → Bool} (h : allB n p = true) : ∀ k, k < n → p k = true := by
  induction n with
  | zero => intro k hk; omega
  | succ n ih =>
    intro k hk
    have h' : (p n && allB n p) = true := h
    rw [Bool.and_eq_true] at h'
    by_cases e : k = n
    · rw [e]; exact h'.1
    · exact ih h'.2 k (by omega)
theorem gL_lt : ∀ a, a < 256 → gL a < 255 := fun a h => of_decide_eq_true (allB_iff (p := fun a => decide (gL a < 255)) (n := 256) (by decide +kernel) a h)
theorem gE_tab : ∀ i, i < 255 → gE i < 256 ∧ gE i ≠ 0 ∧ gL (gE i) = i ∧ gE (i + 1) = dbl (gE i) := fun a h => by
  have := allB_iff (p := fun i => Nat.blt (gE i) 256 && (!Nat.beq (gE i) 0 && (Nat.beq (gL (gE i)) i && Nat.beq (gE (i + 1)) (dbl (gE i))))) (n := 255) (by decide +kernel) a h
  simp only [Bool.and_eq_true, Nat.blt_eq, Nat.beq_eq, Bool.not_eq_eq_eq_not, Bool.not_true] at this
  obtain ⟨h1, h2, h3, h4⟩ := this
  exact ⟨h1, fun e => by rw [e] at h2; exact absurd h2 (by decide), h3, h4⟩
theorem gE_mod (i : Nat) : gE (i % 255) = gE i := by unfold gE; rw [Nat.mod_mod]
theorem gE_lt (i : Nat) : gE i < 256 := by rw [← gE_mod]; exact (gE_tab _ (Nat.mod_lt _ (by decide))).1
theorem gE_ne (i : Nat) : gE i ≠ 0 := by rw [← gE_mod]; exact (gE_tab _ (Nat.mod_lt _ (by decide))).2.1
theorem gL_gE (i : Nat) : gL (gE i) = i % 255 := by rw [← gE_mod]; exact (gE_tab _ (Nat.mod_lt _ (by decide))).2.2.1
theorem gE_succ (i : Nat) : gE (i + 1) = dbl (gE i) := by
  have := (gE_tab _ (Nat.mod_lt i (by decide : 0 < 255))).2.2.2
  rw [gE_mod] at this
  rw [← this, ← gE_mod (i + 1), ← gE_mod (i % 255 + 1)]; exact congrArg gE (by omega)
theorem gE_gL : ∀ a, a < 256 → a ≠ 0 → gE (gL a) = a := fun a h h0 => by
  have := allB_iff (p := fun a => Nat.beq a 0 || Nat.beq (gE (gL a)) a) (n := 256) (by decide +kernel) a h
  simp at this; omega
theorem dbl_xor : ∀ a b, a < 256 → b < 256 → dbl (a ^^^ b) = dbl a ^^^ dbl b := fun a b ha hb => by
  have := allB_iff (allB_iff (p := fun a => allB 256 fun b => Nat.beq (dbl (a ^^^ b)) (dbl a ^^^ dbl b)) (n := 256) (by decide +kernel) a ha) b hb
  simpa using this
theorem dbl_lt : ∀ a, a < 256 → dbl a < 256 := fun a h => by
  have := allB_iff (p := fun a => Nat.blt (dbl a) 256) (n := 256) (by decide +kernel) a h
  simpa using this
theorem xor_lt8 {a b : Nat} (ha : a < 256) (hb : b < 256) : a ^^^ b < 256 := Nat.xor_lt_two_pow (n := 8) ha hb
theorem mulF_lt (f : Nat) : ∀ s x y, s < 256 → x < 256 → mulF f s x y < 256 := by
  induction f with
  | zero => intro s x y hs _; exact hs
  | succ f ih =>
    intro s x y hs hx
    unfold mulF
    split
    · exact ih _ _ _ (xor_lt8 hs hx) (dbl_lt _ hx)
    · exact ih _ _ _ hs (dbl_lt _ hx)
theorem gmul_lt {a b : Nat} (ha : a < 256) : gmul a b < 256 := mulF_lt 8 0 a b (by decide) ha
theorem mulF_dbl (f : Nat) : ∀ s x y, s < 256 → x < 256 → mulF f (dbl s) (dbl x) y = dbl (mulF f s x y) := by
  induction f with
  | zero => intro s x y _ _; rfl
  | succ f ih =>
    intro s x y hs hx
    unfold mulF
    split
    · rw [← dbl_xor _ _ hs hx]; exact ih _ _ _ (xor_lt8 hs hx) (dbl_lt _ hx)
    · exact ih _ _ _ hs (dbl_lt _ hx)
theorem xor_swap (a b c d : Nat) : (a ^^^ b) ^^^ (c ^^^ d) = (a ^^^ c) ^^^ (b ^^^ d) := by
  rw [Nat.xor_assoc, Nat.xor_assoc, ← Nat.xor_assoc b c d, Nat.xor_comm b c, Nat.xor_assoc c b d]
theorem mulF_xor (f : Nat) : ∀ s t x z y, s < 256 → t < 256 → x < 256 → z < 256 → mulF f (s ^^^ t) (x ^^^ z) y = mulF f s x y ^^^ mulF f t z y := by
  induction f with
  | zero => intro s t x z y _ _ _ _; rfl
  | succ f ih =>
    intro s t x z y hs ht hx hz
    unfold mulF
    rw [dbl_xor _ _ hx hz]
    split
    · rw [xor_swap]; exact ih _ _ _ _ _ (xor_lt8 hs hx) (xor_lt8 ht hz) (dbl_lt _ hx) (dbl_lt _ hz)
    · exact ih _ _ _ _ _ hs ht (dbl_lt _ hx) (dbl_lt _ hz)
theorem mulF_zero_left (f : Nat) : ∀ y, mulF f 0 0 y = 0 := by
  induction f with
  | zero => intro y; rfl
  | succ f ih => intro y; unfold mulF; simp only [Nat.xor_self, ite_self]; exact ih _
theorem mulF_zero_right (f : Nat) : ∀ s x, mulF f s x 0 = s := by
  induction f with
  | zero => intro s x; rfl
  | succ f ih => intro s x; unfold mulF; exact ih _ _
theorem gmul_zero_left (b : Nat) : gmul 0 b = 0 := mulF_zero_left 8 b
theorem gmul_zero_right (a : Nat) : gmul a 0 = 0 := mulF_zero_right 8 0 a
theorem gmul_one_left : ∀ b, b < 256 → gmul 1 b = b := fun a h => by
  have := allB_iff (p := fun a => Nat.beq (gmul 1 a) a) (n := 256) (by decide +kernel) a h
  simpa using this
theorem gmul_dbl {a : Nat} (b : Nat) (ha : a < 256) : gmul (dbl a) b = dbl (gmul a b) := mulF_dbl 8 0 a b (by decide) ha
theorem gmul_pow (i : Nat) : ∀ j, gmul (gE i) (gE j) = gE (i + j) := by
  induction i with
  | zero => intro j; rw [show gE 0 = 1 from by decide +kernel, gmul_one_left _ (gE_lt j), Nat.zero_add]
  | succ i ih => intro j; rw [gE_succ, gmul_dbl _ (gE_lt i), ih, ← gE_succ]; congr 1; omega
/-- The product by logs. -/
theorem gmul_tab {a b : Nat} (ha : a < 256) (hb : b < 256) : gmul a b = if a = 0 ∨ b = 0 then 0 else gE (gL a + gL b) := by
  split
  · next h => rcases h with rfl | rfl; exact gmul_zero_left b; exact gmul_zero_right a
  · next h => rw [← gmul_pow, gE_gL a ha (by omega), gE_gL b hb (by omega)]
theorem gmul_comm {a b : Nat} (ha : a < 256) (hb : b < 256) : gmul a b = gmul b a := by
  rw [gmul_tab ha hb, gmul_tab hb ha, Nat.add_comm]
  by_cases h : a = 0 <;> by_cases h' : b = 0 <;> simp [h, h']
theorem gmul_ne {a b : Nat} (ha : a < 256) (hb : b < 256) (h : a ≠ 0) (h' : b ≠ 0) : gmul a b ≠ 0 := by
  rw [gmul_tab ha hb, if_neg (by omega)]; exact gE_ne _
theorem gmul_one_right {a : Nat} (ha : a < 256) : gmul a 1 = a := by rw [gmul_comm ha (by decide), gmul_one_left a ha]
theorem gE_congr {i j : Nat} (h : i % 255 = j % 255) : gE i = gE j := by rw [← gE_mod i, h, gE_mod]
theorem gmul_assoc {a b c : Nat} (ha : a < 256) (hb : b < 256) (hc : c < 256) : gmul a (gmul b c) = gmul (gmul a b) c := by
  by_cases h : a = 0
  · subst h; rw [gmul_zero_left, gmul_zero_left, gmul_zero_left]
  by_cases h' : b = 0
  · subst h'; rw [gmul_zero_left, gmul_zero_right, gmul_zero_left]
  by_cases h'' : c = 0
  · subst h''; rw [gmul_zero_right, gmul_zero_right, gmul_zero_right]
  rw [gmul_tab hb hc, if_neg (by omega), gmul_tab ha hb, if_neg (by omega), gmul_tab ha (gE_lt _), if_neg (by have := gE_ne (gL b + gL c); omega), gmul_tab (gE_lt _) hc, if_neg (by have := gE_ne (gL a + gL b); omega), gL_gE, gL_gE]
  exact gE_congr (by omega)
theorem gmul_xor_left {a c : Nat} (b : Nat) (ha : a < 256) (hc : c < 256) : gmul (a ^^^ c) b = gmul a b ^^^ gmul c b := mulF_xor 8 0 0 a c b (by decide) (by decide) ha hc
theorem gmul_xor_right {a b c : Nat} (ha : a < 256) (hb : b < 256) (hc : c < 256) : gmul a (b ^^^ c) = gmul a b ^^^ gmul a c := by
  rw [gmul_comm ha (xor_lt8 hb hc), gmul_xor_left a hb hc, gmul_comm hb ha, gmul_comm hc ha]
theorem ginv_lt (a : Nat) : ginv a < 256 := by unfold ginv; split; decide; exact gE_lt _
theorem ginv_ne {a : Nat} (h : a ≠ 0) : ginv a ≠ 0 := by unfold ginv; rw [if_neg h]; exact gE_ne _
theorem gmul_inv {a : Nat} (ha : a < 256) (h : a ≠ 0) : gmul a (ginv a) = 1 := by
  have := gL_lt a ha
  rw [gmul_tab ha (ginv_lt a), if_neg (by have := ginv_ne h; omega)]
  unfold ginv
  rw [if_neg h, gL_gE, show (1 : Nat) = gE 0 from by decide +kernel]
  exact gE_congr (by omega)
/-- The inverse is the only one. -/
theorem inv_only {a j : Nat} (ha : a < 256) (hj : j < 256) (h : gmul a j = 1) : j = ginv a := by
  have h0 : a ≠ 0 := by rintro rfl; rw [gmul_zero_left] at h; omega
  have h1 := gmul_assoc (ginv_lt a) ha hj
  rw [h, gmul_one_right (ginv_lt a), gmul_comm (ginv_lt a) ha, gmul_inv ha h0, gmul_one_left j hj] at h1
  exact h1.symm
theorem ginv_ginv {a : Nat} (ha : a < 256) : ginv (ginv a) = a := by
  by_cases h : a = 0
  · subst h; rfl
  · exact (inv_only (ginv_lt a) ha (by rw [gmul_comm (ginv_lt a) ha, gmul_inv ha h])).symm
theorem gdiv_lt {a : Nat} (b : Nat) (ha : a < 256) : gdiv a b < 256 := gmul_lt ha
theorem gdiv_mul {a b : Nat} (ha : a < 256) (hb : b < 256) (h : b ≠ 0) : gmul (gdiv a b) b = a := by
  unfold gdiv
  rw [← gmul_assoc ha (ginv_lt b) hb, gmul_comm (ginv_lt b) hb, gmul_inv hb h, gmul_one_right ha]
theorem gpow_lt (n : Int) : gpow n < 256 := gE_lt _
theorem gpow_ne (n : Int) : gpow n ≠ 0 := gE_ne _
theorem gpow_add (m n : Int) : gmul (gpow m) (gpow n) = gpow (m + n) := by
  unfold gpow
  rw [gmul_pow]
  exact gE_congr (by omega)
theorem gpow_log {a : Nat} (ha : a < 256) (h : a ≠ 0) : gpow (glog a) = a := by
  have := gL_lt a ha
  unfold gpow glog
  rw [if_neg h, show ((gL a : Int) % 255).toNat = gL a from by omega, gE_gL a ha h]
theorem glog_gE (i : Nat) : glog (gE i) = ((i % 255 : Nat) : Int) := by unfold glog; rw [if_neg (gE_ne i), gL_gE]
theorem glog_gpow (n : Int) : glog (gpow n) = n % 255 := by unfold gpow; rw [glog_gE]; omega
/-- The square of a sum. -/
theorem gmul_square {a b : Nat} (ha : a < 256) (hb : b < 256) : gmul (a ^^^ b) (a ^^^ b) = gmul a a ^^^ gmul b b := by
  rw [gmul_xor_left _ ha hb, gmul_xor_right ha ha hb, gmul_xor_right hb ha hb, gmul_comm hb ha, Nat.xor_assoc, ← Nat.xor_assoc (gmul a b) (gmul a b), Nat.xor_self, Nat.zero_xor]
/-- Squared k times. -/
def gsq : Nat → Nat → Nat
  | 0, a => a
  | k + 1, a => gmul (gsq k a) (gsq k a)
theorem gsq_lt (k : Nat) {a : Nat} (ha : a < 256) : gsq k a < 256 := by induction k with | zero => exact ha | succ k ih => exact gmul_lt ih
theorem gsq_eight : ∀ a, a < 256 → gsq 8 a = a := by
  have : ∀ k a, a < 256 → gsq k a = if a = 0 then 0 else gE (2 ^ k * gL a) := by
    intro k a ha
    induction k with
    | zero => by_cases h : a = 0
              · rw [if_pos h]; exact h
              · rw [if_neg h, Nat.pow_zero, Nat.one_mul, gE_gL a ha h]; rfl
    | succ k ih =>
      unfold gsq
      rw [ih]
      split
      · rfl
      · rw [gmul_pow]; exact congrArg gE (by rw [Nat.pow_succ, Nat.mul_comm (2 ^ k) 2, Nat.mul_assoc]; omega)
  intro a ha
  rw [this 8 a ha]
  split
  · omega
  · next h => rw [gE_congr (j := gL a) (by omega), gE_gL a ha h]
/-- a to the n. -/
def gpw (a : Nat) : Nat → Nat
  | 0 => 1
  | n + 1 => gmul a (gpw a n)
theorem gpw_lt {a : Nat} (ha : a < 256) (n : Nat) : gpw a n < 256 := by cases n with | zero => exact (by decide : (1 : Nat) < 256) | succ n => exact gmul_lt ha
theorem gpw_two {a : Nat} (ha : a < 256) (m : Nat) : gpw (gmul a a) m = gpw a (2 * m) := by
  induction m with
  | zero => rfl
  | succ m ih => rw [show 2 * (m + 1) = 2 * m + 1 + 1 from by omega]; show gmul (gmul a a) (gpw (gmul a a) m) = gmul a (gmul a (gpw a (2 * m))); rw [ih, gmul_assoc ha ha (gpw_lt ha _)]
theorem gpw_half {x a : Nat} (hx : x < 256) (ha : a < 256) (n : Nat) : gmul (if n % 2 = 1 then gmul x a else x) (gpw (gmul a a) (n / 2)) = gmul x (gpw a n) := by
  rw [gpw_two ha]
  split
  · next h => obtain ⟨m, rfl⟩ : ∃ m, n = 2 * m + 1 := ⟨n / 2, by omega⟩
              rw [show 2 * ((2 * m + 1) / 2) = 2 * m from by omega, ← gmul_assoc hx ha (gpw_lt ha _)]; rfl
  · next h => rw [show 2 * (n / 2) = n from by omega]
theorem gpw_gE (i n : Nat) : gpw (gE i) n = gE (i * n) := by
  induction n with
  | zero => rw [Nat.mul_zero]; exact (by decide +kernel : (1 : Nat) = gE 0)
  | succ n ih => show gmul (gE i) (gpw (gE i) n) = _; rw [ih, gmul_pow]; exact congrArg gE (by rw [Nat.mul_succ]; omega)
theorem gpw_two_n (n : Nat) : gpw 2 n = gE n := by
  have := gpw_gE 1 n
  rw [show gE 1 = 2 from by decide +kernel, Nat.one_mul] at this
  exact this
theorem gpw_inv {a : Nat} (ha : a < 256) : gpw a 254 = ginv a := by
  by_cases h : a = 0
  · subst h; exact gmul_zero_left _
  · have hl := gL_lt a ha
    have e : gpw a 254 = gE (gL a * 254) := by rw [← gpw_gE, gE_gL a ha h]
    rw [e]; unfold ginv; rw [if_neg h]; exact gE_congr (by omega)
end Go.Proofs.Ytadfimimkkimmaa
end
section
namespace Go.Proofs.Ytadfimimkkimmaa
open Go.RowKit

theorem and128 : ∀ a, a < 256 → a &&& 128 = if a < 128 then 0 else 128 := by decide +kernel
theorem ret_int {k : IntKind} {a b : Int} (h : a = b) : Ending.returned (.int k a) = .returned (.int k b) := by rw [h]
theorem double_any (a : Nat) (ha : a < 256) (w : World) : Calls Try.prog 104 #[.int .u8 (a : Int)] w fun e w' => e = .returned (.int .u8 ((dbl a : Nat) : Int)) ∧ w' = w := by
  have e0 := u8_and_nat a 128 ha (by decide)
  rw [show ((128 : Nat) : Int) = 128 from rfl, and128 a ha] at e0
  by_cases h : a < 128
  · rw [if_pos h] at e0
    have Hd : Hid (dbl a = 2 * a) := if_pos h
    go_enter Try.func104, Try.ntmps104
    go_wp2
    go_ret
    exact ⟨ret_int (by rw [Hd.out]; omega), rfl⟩
  · rw [if_neg h] at e0
    have Hd : Hid (dbl a = (2 * a - 256) ^^^ 29) := if_neg h
    have e1 := u8_xor_nat (2 * a - 256) 29 (by omega) (by decide)
    have e2 : ((2 * a - 256 : Nat) : Int) = (a : Int) * 2 % 256 := by omega
    rw [e2, show ((29 : Nat) : Int) = 29 from rfl] at e1
    clear e2
    go_enter Try.func104, Try.ntmps104
    go_wp2
    go_ret
    exact ⟨by rw [Hd.out]; rfl, rfl⟩

theorem mulF_step (f s x y : Nat) : mulF (f + 1) s x y = mulF f (if y % 2 = 1 then s ^^^ x else s) (dbl x) (y / 2) := rfl
set_option maxHeartbeats 400000 in
theorem mul_any (a b : Nat) (ha : a < 256) (hb : b < 256) (w : World) : Calls Try.prog 94 #[.int .u8 (a : Int), .int .u8 (b : Int)] w fun e w' => e = .returned (.int .u8 ((gmul a b : Nat) : Int)) ∧ w' = w := by
  go_enter Try.func94, Try.ntmps94
  go_wp2
  go_loop [0, 1, 5] (fun vx vy vs => ∃ f s x y : Nat, y < 2 ^ f ∧ s < 256 ∧ x < 256 ∧ y < 256 ∧ vx = .int .u8 (x : Int) ∧ vy = .int .u8 (y : Int) ∧ vs = .int .u8 (s : Int) ∧ Hid (mulF f s x y = gmul a b)) (fun _ vy _ => (intOf vy).toNat)
  case atStart => exact ⟨8, 0, a, b, by omega, by decide, ha, hb, rfl, rfl, rfl, rfl⟩
  case round =>
    obtain ⟨f, s, x, y, hyf, hs, hx, hy, rfl, rfl, rfl, Hm⟩ := hrel
    by_cases h0 : y = 0
    · have Hr : Hid (s = gmul a b) := by subst h0; rw [← Hm.out]; exact (mulF_zero_right f s x).symm
      have hne : ((y : Int) != 0) = false := by simp; omega
      clear h0 Hm
      go_wp2
      go_ret
      exact ⟨ret_int (congrArg Nat.cast Hr.out), rfl⟩
    · obtain ⟨g, rfl⟩ : ∃ g, f = g + 1 := ⟨f - 1, by cases f with | zero => simp at hyf; omega | succ n => rfl⟩
      have hyg : y / 2 < 2 ^ g := by rw [Nat.pow_succ] at hyf; omega
      clear hyf
      have Hst : Hid (mulF g (if y % 2 = 1 then s ^^^ x else s) (dbl x) (y / 2) = gmul a b) := Hm.out
      clear Hm
      have hdx := dbl_lt x hx
      have hne : ((y : Int) != 0) = true := by simp; omega
      have e0 := u8_and_nat y 1 hy (by decide)
      rw [nat_mask1] at e0
      have hxl := xor_lt8 hs hx
      have ex := u8_xor_nat s x hs hx
      by_cases hbit : y % 2 = 1
      · rw [hbit] at e0
        rw [show ((1 : Nat) : Int) = 1 from rfl] at e0
        have Hst2 : Hid (mulF g (s ^^^ x) (dbl x) (y / 2) = gmul a b) := by have := Hst.out; rw [if_pos hbit] at this; exact this
        clear Hst hbit
        go_wp2_with (go_at_call 104; refine (double_any x hx _).mono ?_; rintro e w' ⟨rfl, rfl⟩)
        go_round
        case rel => exact ⟨g, s ^^^ x, dbl x, y / 2, hyg, hxl, hdx, by omega, rfl, by go_num, rfl, Hst2⟩
        case measure => simp [intOf]; omega
      · have hbit0 : y % 2 = 0 := by omega
        rw [hbit0] at e0
        rw [show ((1 : Nat) : Int) = 1 from rfl] at e0
        have Hst2 : Hid (mulF g s (dbl x) (y / 2) = gmul a b) := by have := Hst.out; rw [if_neg hbit] at this; exact this
        clear Hst hbit hbit0
        go_wp2_with (go_at_call 104; refine (double_any x hx _).mono ?_; rintro e w' ⟨rfl, rfl⟩)
        go_round
        case rel => exact ⟨g, s, dbl x, y / 2, hyg, hs, hdx, by omega, rfl, by go_num, rfl, Hst2⟩
        case measure => simp [intOf]; omega

theorem i64_and1 : ∀ n : Nat, n < 256 → bits .and .i64 (n : Int) 1 = ((n % 2 : Nat) : Int) := by decide +kernel
theorem power_any (a n : Nat) (ha : a < 256) (hn : n < 256) (w : World) : Calls Try.prog 103 #[.int .u8 (a : Int), .int .i64 (n : Int)] w fun e w' => e = .returned (.int .u8 ((gpw a n : Nat) : Int)) ∧ w' = w := by
  go_enter Try.func103, Try.ntmps103
  go_wp2
  go_loop [0, 1, 5] (fun va vn vx => ∃ b m x : Nat, b < 256 ∧ m < 256 ∧ x < 256 ∧ va = .int .u8 (b : Int) ∧ vn = .int .i64 (m : Int) ∧ vx = .int .u8 (x : Int) ∧ Hid (gmul x (gpw b m) = gpw a n)) (fun _ vn _ => (intOf vn).toNat)
  case atStart => exact ⟨a, n, 1, ha, hn, by decide, rfl, rfl, rfl, gmul_one_left _ (gpw_lt ha n)⟩
  case round =>
    obtain ⟨b, m, x, hb, hm, hx, rfl, rfl, rfl, Hm⟩ := hrel
    have hbb : gmul b b < 256 := gmul_lt hb
    have hxb : gmul x b < 256 := gmul_lt hx
    by_cases h0 : m = 0
    · have Hr : Hid (x = gpw a n) := by subst h0; rw [← Hm.out]; exact (gmul_one_right hx).symm
      have hne : ¬ (0 : Int) < (m : Int) := by omega
      clear h0 Hm
      go_wp2
      go_ret
      exact ⟨ret_int (congrArg Nat.cast Hr.out), rfl⟩
    · have hne : (0 : Int) < (m : Int) := by omega
      have e0 := i64_and1 m hm
      have Hh := Lib.hid (gpw_half hx hb m)
      by_cases hbit : m % 2 = 1
      · rw [hbit, show ((1 : Nat) : Int) = 1 from rfl] at e0
        have Hr : Hid (gmul (gmul x b) (gpw (gmul b b) (m / 2)) = gpw a n) := by have := Hh.out; rw [if_pos hbit] at this; exact this.trans Hm.out
        clear Hh Hm hbit
        go_wp2_with (go_at_call 94; refine (mul_any _ _ (by assumption) (by assumption) _).mono ?_; rintro e w' ⟨rfl, rfl⟩)
        go_round
        case rel => exact ⟨gmul b b, m / 2, gmul x b, hbb, by omega, hxb, rfl, by go_num, rfl, Hr⟩
        case measure => simp [intOf]; omega
      · rw [show m % 2 = 0 from by omega, show ((0 : Nat) : Int) = 0 from rfl] at e0
        have Hr : Hid (gmul x (gpw (gmul b b) (m / 2)) = gpw a n) := by have := Hh.out; rw [if_neg hbit] at this; exact this.trans Hm.out
        clear Hh Hm hbit
        go_wp2_with (go_at_call 94; refine (mul_any _ _ (by assumption) (by assumption) _).mono ?_; rintro e w' ⟨rfl, rfl⟩)
        go_round
        case rel => exact ⟨gmul b b, m / 2, x, hbb, by omega, hx, rfl, by go_num, rfl, Hr⟩
        case measure => simp [intOf]; omega
theorem tmod255 (n : Int) : n % 255 = if n.tmod 255 < 0 then n.tmod 255 + 255 else n.tmod 255 := by
  have h0 := Int.emod_nonneg n (show (255 : Int) ≠ 0 by omega)
  have h1 := Int.emod_lt_of_pos n (show (0 : Int) < 255 by omega)
  rw [Int.tmod_eq_emod]
  split <;> split <;> omega
theorem pow_any (n : Int) (hn : -9223372036854775808 ≤ n ∧ n ≤ 9223372036854775807) (w : World) : Calls Try.prog 93 #[.int .i64 n] w fun e w' => e = .returned (.int .u8 ((gpow n : Nat) : Int)) ∧ w' = w := by
  obtain ⟨hn1, hn2⟩ := hn
  have Ht := tmod255 n
  have h0 := Int.emod_nonneg n (show (255 : Int) ≠ 0 by omega)
  have h1 := Int.emod_lt_of_pos n (show (0 : Int) < 255 by omega)
  have hlo : -255 < n.tmod 255 := Int.lt_tmod_of_pos _ (by omega)
  have hhi : n.tmod 255 < 255 := Int.tmod_lt_of_pos _ (by omega)
  obtain ⟨k, hk⟩ := Int.eq_ofNat_of_zero_le h0
  have H : Hid (gpw 2 k = gpow n) := by unfold gpow; rw [gpw_two_n, hk]; exact congrArg gE rfl
  rw [hk] at h1 Ht
  clear hk h0
  by_cases hneg : n.tmod 255 < 0
  · rw [if_pos hneg] at Ht
    have Ht := Lib.hid Ht.symm
    rename_i h; clear h
    go_enter Try.func93, Try.ntmps93
    go_wp2_with (rw [Ht.out]; go_at_call 103; refine (power_any 2 k (by decide) (by omega) _).mono ?_; rintro e w' ⟨rfl, rfl⟩)
    go_ret
    exact ⟨ret_int (congrArg Nat.cast H.out), rfl⟩
  · rw [if_neg hneg] at Ht
    have Ht := Lib.hid Ht.symm
    go_enter Try.func93, Try.ntmps93
    go_wp2_with (rw [Ht.out]; go_at_call 103; refine (power_any 2 k (by decide) (by omega) _).mono ?_; rintro e w' ⟨rfl, rfl⟩)
    go_ret
    exact ⟨ret_int (congrArg Nat.cast H.out), rfl⟩
end Go.Proofs.Ytadfimimkkimmaa
end
section
namespace Go.Proofs.Ytadfimimkkimmaa

/-- A byte times f. -/
def mulU (x : UInt8) (f : Nat) : UInt8 := UInt8.ofNat (gmul x.toNat f)
theorem mulU_nat (x : UInt8) (f : Nat) : (mulU x f).toNat = gmul x.toNat f := by
  unfold mulU
  rw [UInt8.toNat_ofNat', Nat.mod_eq_of_lt (gmul_lt x.toNat_lt)]
theorem mulU_zero (f : Nat) : mulU 0 f = 0 := UInt8.toNat_inj.1 (by rw [mulU_nat]; exact gmul_zero_left f)
theorem mulU_xor (x y : UInt8) (f : Nat) : mulU (x ^^^ y) f = mulU x f ^^^ mulU y f :=
  UInt8.toNat_inj.1 (by rw [mulU_nat, UInt8.toNat_xor, UInt8.toNat_xor, mulU_nat, mulU_nat]; exact gmul_xor_left f x.toNat_lt y.toNat_lt)
theorem mulU_mulU (x : UInt8) {f h : Nat} (hf : f < 256) (hh : h < 256) : mulU (mulU x f) h = mulU x (gmul f h) :=
  UInt8.toNat_inj.1 (by rw [mulU_nat, mulU_nat, mulU_nat]; exact (gmul_assoc x.toNat_lt hf hh).symm)
theorem mulU_one (x : UInt8) : mulU x 1 = x := UInt8.toNat_inj.1 (by rw [mulU_nat]; exact gmul_one_right x.toNat_lt)

def xorL (a b : List UInt8) : List UInt8 := List.zipWith (· ^^^ ·) a b
def scaleL (a : List UInt8) (f : Nat) : List UInt8 := a.map fun x => mulU x f
def zeroL (n : Nat) : List UInt8 := List.replicate n 0
theorem xorL_len (a b : List UInt8) : (xorL a b).length = min a.length b.length := by simp [xorL]
theorem scaleL_len (a : List UInt8) (f : Nat) : (scaleL a f).length = a.length := by simp [scaleL]
theorem xorL_get {a b : List UInt8} {i : Nat} (h : i < a.length) (h' : i < b.length) : (xorL a b).getD i 0 = a.getD i 0 ^^^ b.getD i 0 := by
  simp [xorL, h, h', List.getElem?_zipWith]
theorem scaleL_get (a : List UInt8) (f i : Nat) : (scaleL a f).getD i 0 = mulU (a.getD i 0) f := by
  unfold scaleL
  rw [List.getD_eq_getElem?_getD, List.getD_eq_getElem?_getD, List.getElem?_map]
  cases h : a[i]? with
  | none => exact (mulU_zero f).symm
  | some x => rfl
theorem xorL_assoc : ∀ a b c : List UInt8, xorL (xorL a b) c = xorL a (xorL b c)
  | [], _, _ => by simp [xorL]
  | _ :: _, [], _ => by simp [xorL]
  | _ :: _, _ :: _, [] => by simp [xorL]
  | x :: a, y :: b, z :: c => by
    have := xorL_assoc a b c
    unfold xorL at this ⊢
    simp only [List.zipWith_cons_cons, this, UInt8.xor_assoc]
theorem xorL_comm : ∀ a b : List UInt8, xorL a b = xorL b a
  | [], b => by cases b <;> rfl
  | _ :: _, [] => rfl
  | x :: a, y :: b => by
    have := xorL_comm a b
    unfold xorL at this ⊢
    simp only [List.zipWith_cons_cons, this, UInt8.xor_comm x y]
theorem xorL_zero : ∀ (a : List UInt8) (n : Nat), a.length = n → xorL a (zeroL n) = a
  | [], n, h => by simp [xorL]
  | x :: a, n + 1, h => by
    have := xorL_zero a n (by simpa using h)
    unfold xorL zeroL at this ⊢
    rw [List.replicate_succ, List.zipWith_cons_cons, this, UInt8.xor_zero]
theorem scaleL_xorL (a b : List UInt8) (f : Nat) : scaleL (xorL a b) f = xorL (scaleL a f) (scaleL b f) := by
  unfold scaleL xorL
  rw [List.map_zipWith, List.zipWith_map]
  simp only [mulU_xor]
theorem scaleL_scaleL (a : List UInt8) {f h : Nat} (hf : f < 256) (hh : h < 256) : scaleL (scaleL a f) h = scaleL a (gmul f h) := by
  unfold scaleL
  rw [List.map_map]
  exact List.map_congr_left fun x _ => mulU_mulU x hf hh
theorem scaleL_zero (n f : Nat) : scaleL (zeroL n) f = zeroL n := by
  unfold scaleL zeroL
  rw [List.map_replicate, mulU_zero]
theorem scaleL_one (a : List UInt8) : scaleL a 1 = a := by
  unfold scaleL
  rw [List.map_congr_left (fun x _ => mulU_one x), List.map_id']
theorem xorL_self (a : List UInt8) : xorL a a = zeroL a.length := by
  induction a with
  | nil => rfl
  | cons x a ih => unfold xorL zeroL at ih ⊢; rw [List.zipWith_cons_cons, ih, UInt8.xor_self, List.length_cons, List.replicate_succ]

/-- r added to z, its first j bytes so far. -/
def xorTo (z r : List UInt8) (j : Nat) : List UInt8 := xorL (z.take j) (r.take j) ++ z.drop j
theorem xorTo_zero (z r : List UInt8) : xorTo z r 0 = z := by simp [xorTo, xorL]
theorem xorTo_len {z r : List UInt8} (h : r.length = z.length) {j : Nat} (hj : j ≤ z.length) : (xorTo z r j).length = z.length := by
  simp [xorTo, xorL_len]; omega
theorem xorTo_all {z r : List UInt8} (h : r.length = z.length) : xorTo z r z.length = xorL z r := by
  unfold xorTo
  rw [List.take_length, ← h, List.take_length, h, List.drop_length, List.append_nil]
theorem xorTo_get {z r : List UInt8} (h : r.length = z.length) {j : Nat} (hj : j < z.length) : (xorTo z r j).getD j 0 = z.getD j 0 := by
  unfold xorTo
  rw [List.getD_eq_getElem?_getD, List.getElem?_append_right (by rw [xorL_len]; simp; omega), xorL_len]
  simp
  congr 2
  omega
theorem xorTo_succ {z r : List UInt8} (h : r.length = z.length) {j : Nat} (hj : j < z.length) : (xorTo z r j).set j (z.getD j 0 ^^^ r.getD j 0) = xorTo z r (j + 1) := by
  have hl : (xorL (z.take j) (r.take j)).length = j := by rw [xorL_len]; simp; omega
  unfold xorTo
  rw [List.set_append_right _ _ (by omega), hl, Nat.sub_self]
  rw [List.drop_eq_getElem_cons hj, List.set_cons_zero]
  rw [List.take_succ_eq_append_getElem hj, List.take_succ_eq_append_getElem (by omega : j < r.length)]
  have e : xorL (z.take j ++ [z[j]]) (r.take j ++ [r[j]'(by omega)]) = xorL (z.take j) (r.take j) ++ [z[j] ^^^ r[j]'(by omega)] := by
    unfold xorL
    rw [List.zipWith_append (by simp; omega)]
    rfl
  rw [e, List.append_assoc]
  simp [hj, h]

/-- Rows added up, row k by g k. -/
def foldG (g : Nat → List UInt8 → List UInt8) (k : Nat) (z : List UInt8) : List (List UInt8) → List UInt8
  | [] => z
  | r :: rs => foldG g (k + 1) (xorL z (g k r)) rs
def gP : Nat → List UInt8 → List UInt8 := fun _ r => r
def gQ : Nat → List UInt8 → List UInt8 := fun k r => scaleL r (gpow k)
theorem foldG_append (g : Nat → List UInt8 → List UInt8) (a b : List (List UInt8)) : ∀ k z, foldG g k z (a ++ b) = foldG g (k + a.length) (foldG g k z a) b := by
  induction a with
  | nil => intro k z; rfl
  | cons r a ih => intro k z; rw [List.cons_append, foldG, ih, foldG]; congr 1; simp; omega
theorem foldG_snoc (g : Nat → List UInt8 → List UInt8) (z : List UInt8) (rs : List (List UInt8)) (k : Nat) (h : k < rs.length) : foldG g 0 z (rs.take (k + 1)) = xorL (foldG g 0 z (rs.take k)) (g k (rs.getD k [])) := by
  rw [List.take_succ_eq_append_getElem h, foldG_append, Nat.zero_add, List.length_take, Nat.min_eq_left (Nat.le_of_lt h)]
  simp [foldG, h]
theorem foldG_lin (g : Nat → List UInt8 → List UInt8) (rs : List (List UInt8)) : ∀ k z y, foldG g k (xorL z y) rs = xorL z (foldG g k y rs) := by
  induction rs with
  | nil => intro k z y; rfl
  | cons r rs ih => intro k z y; rw [foldG, xorL_assoc, ih, foldG]
theorem foldP_at (rs : List (List UInt8)) : ∀ k j z, foldG gP k z rs = foldG gP j z rs := by
  induction rs with
  | nil => intro k j z; rfl
  | cons r rs ih => intro k j z; rw [foldG, foldG]; exact ih _ _ _
theorem foldQ_at (n : Nat) (rs : List (List UInt8)) : ∀ k z, foldG gQ (n + k) (scaleL z (gpow n)) rs = scaleL (foldG gQ k z rs) (gpow n) := by
  induction rs with
  | nil => intro k z; rfl
  | cons r rs ih =>
    intro k z
    rw [foldG, foldG, ← ih, scaleL_xorL]
    have e : gQ (n + k) r = scaleL (gQ k r) (gpow n) := by
      unfold gQ
      rw [scaleL_scaleL _ (gpow_lt _) (gpow_lt _), gpow_add]
      congr 2
      omega
    rw [e]
    rfl
theorem foldG_len {g : Nat → List UInt8 → List UInt8} (hg : ∀ k r, (g k r).length = r.length) {N : Nat} (rs : List (List UInt8)) : ∀ k z, z.length = N → (∀ r ∈ rs, r.length = N) → (foldG g k z rs).length = N := by
  induction rs with
  | nil => intro k z hz _; exact hz
  | cons r rs ih =>
    intro k z hz hr
    rw [foldG]
    exact ih _ _ (by rw [xorL_len, hg, hz, hr r (by simp)]; simp) fun r' h' => hr r' (by simp [h'])
theorem gP_len (k : Nat) (r : List UInt8) : (gP k r).length = r.length := rfl
theorem gQ_len (k : Nat) (r : List UInt8) : (gQ k r).length = r.length := scaleL_len _ _

/-- There are rows, all of one length. -/
def alikeB (rs : List (List UInt8)) : Bool := !rs.isEmpty && rs.all fun r => r.length == (rs.getD 0 []).length
def zerosB (rs : List (List UInt8)) : List UInt8 := if alikeB rs then zeroL (rs.getD 0 []).length else []
def sumG (g : Nat → List UInt8 → List UInt8) (rs : List (List UInt8)) : List UInt8 := if alikeB rs then foldG g 0 (zeroL (rs.getD 0 []).length) rs else []
def pB : List (List UInt8) → List UInt8 := sumG gP
def qB : List (List UInt8) → List UInt8 := sumG gQ
theorem alikeB_iff {rs : List (List UInt8)} : alikeB rs = true ↔ 0 < rs.length ∧ ∀ k, k < rs.length → (rs.getD k []).length = (rs.getD 0 []).length := by
  unfold alikeB
  rw [Bool.and_eq_true, List.all_eq_true, Bool.not_eq_eq_eq_not, Bool.not_true]
  constructor
  · rintro ⟨h1, h2⟩
    refine ⟨?_, fun k hk => ?_⟩
    · rcases rs with _ | ⟨r, rs⟩
      · simp at h1
      · simp
    · have := h2 (rs.getD k []) (by simp [hk])
      simpa using this
  · rintro ⟨h1, h2⟩
    refine ⟨?_, fun r hr => ?_⟩
    · rcases rs with _ | ⟨r, rs⟩
      · simp at h1
      · rfl
    · obtain ⟨k, hk, rfl⟩ := List.getElem_of_mem hr
      have := h2 k hk
      simpa [hk] using this
theorem alikeB_mem {rs : List (List UInt8)} (h : alikeB rs = true) : ∀ r ∈ rs, r.length = (rs.getD 0 []).length := fun r hr => by
  obtain ⟨k, hk, rfl⟩ := List.getElem_of_mem hr
  have := (alikeB_iff.1 h).2 k hk
  simpa [hk] using this
theorem alikeB_no {rs : List (List UInt8)} {k : Nat} (hk : k < rs.length) (h : (rs.getD k []).length ≠ (rs.getD 0 []).length) : alikeB rs = false := by
  cases e : alikeB rs with
  | false => rfl
  | true => exact absurd ((alikeB_iff.1 e).2 k hk) h
theorem alikeB_of {rs : List (List UInt8)} {N : Nat} (h0 : 0 < rs.length) (h : ∀ r ∈ rs, r.length = N) : alikeB rs = true ∧ (rs.getD 0 []).length = N := by
  have h1 : ∀ k, k < rs.length → (rs.getD k []).length = N := fun k hk => h _ (by simp [hk])
  exact ⟨alikeB_iff.2 ⟨h0, fun k hk => (h1 k hk).trans (h1 0 h0).symm⟩, h1 0 h0⟩
theorem zeroL_len (n : Nat) : (zeroL n).length = n := by simp [zeroL]
theorem sumG_len {g : Nat → List UInt8 → List UInt8} (hg : ∀ k r, (g k r).length = r.length) {rs : List (List UInt8)} (h : alikeB rs = true) : (sumG g rs).length = (rs.getD 0 []).length := by
  unfold sumG
  rw [if_pos h]
  exact foldG_len hg rs 0 _ (zeroL_len _) (alikeB_mem h)
theorem zerosB_len_le (rs : List (List UInt8)) : (zerosB rs).length ≤ (rs.getD 0 []).length := by
  unfold zerosB
  split
  · rw [zeroL_len]; omega
  · simp
/-- Where the zeros are none, so are the sums. -/
theorem sumG_nil {g : Nat → List UInt8 → List UInt8} (hg : ∀ k r, (g k r).length = r.length) {rs : List (List UInt8)} (h : zerosB rs = []) : sumG g rs = [] := by
  cases e : alikeB rs with
  | false => unfold sumG; rw [e]; rfl
  | true =>
    unfold zerosB at h
    rw [if_pos e] at h
    have h0 : (rs.getD 0 []).length = 0 := by rw [← zeroL_len (rs.getD 0 []).length, h]; rfl
    exact List.eq_nil_of_length_eq_zero ((sumG_len hg e).trans h0)
/-- Where they are some, all rows are as long, and the sum begins with them. -/
theorem sumG_cons {g : Nat → List UInt8 → List UInt8} {rs : List (List UInt8)} (h : zerosB rs ≠ []) : (∀ k, k < rs.length → (rs.getD k []).length = (zerosB rs).length) ∧ sumG g rs = foldG g 0 (zerosB rs) rs ∧ alikeB rs = true := by
  cases e : alikeB rs with
  | false => unfold zerosB at h; rw [e] at h; exact absurd rfl h
  | true =>
    refine ⟨fun k hk => ?_, ?_, rfl⟩
    · unfold zerosB; rw [if_pos e, zeroL_len]; exact (alikeB_iff.1 e).2 k hk
    · unfold sumG zerosB; rw [if_pos e, if_pos e]
theorem foldG_take_len {g : Nat → List UInt8 → List UInt8} (hg : ∀ k r, (g k r).length = r.length) {rs : List (List UInt8)} {z : List UInt8} (h : ∀ k, k < rs.length → (rs.getD k []).length = z.length) (k : Nat) : (foldG g 0 z (rs.take k)).length = z.length :=
  foldG_len hg _ 0 z rfl fun r hr => by
    obtain ⟨j, hj, rfl⟩ := List.getElem_of_mem hr
    have hj2 : j < rs.length := by simp at hj; omega
    have := h j hj2
    simpa [hj2] using this
/-- Two rows. -/
theorem pB_two {a b : List UInt8} (h : a.length = b.length) : pB [a, b] = xorL a b := by
  have e : alikeB [a, b] = true := by
    refine (alikeB_of (N := a.length) (by simp) fun r hr => ?_).1
    simp at hr
    rcases hr with rfl | rfl
    · rfl
    · exact h.symm
  unfold pB sumG
  rw [if_pos e]
  show xorL (xorL (zeroL a.length) a) b = _
  rw [xorL_comm (zeroL a.length), xorL_zero a _ rfl]
theorem pB_two_no {a b : List UInt8} (h : a.length ≠ b.length) : pB [a, b] = [] := by
  unfold pB sumG
  rw [alikeB_no (k := 1) (by simp) (by simpa using fun e => h e.symm)]
  rfl
/-- What is split adds up. -/
theorem p_split {a b : List (List UInt8)} {N : Nat} (ha : 0 < a.length) (hb : 0 < b.length) (h : ∀ r ∈ a ++ b, r.length = N) : pB (a ++ b) = pB [pB a, pB b] := by
  have h1 := alikeB_of ha fun r hr => h r (by simp [hr])
  have h2 := alikeB_of hb fun r hr => h r (by simp [hr])
  have h3 := alikeB_of (rs := a ++ b) (by simp; omega) h
  have l1 : (pB a).length = N := (sumG_len gP_len h1.1).trans h1.2
  have l2 : (pB b).length = N := (sumG_len gP_len h2.1).trans h2.2
  rw [pB_two (l1.trans l2.symm)]
  unfold pB sumG at l1 l2 ⊢
  rw [if_pos h1.1, h1.2] at l1 ⊢
  rw [if_pos h2.1, h2.2] at l2 ⊢
  rw [if_pos h3.1, h3.2, foldG_append]
  conv => lhs; rw [← xorL_zero _ N l1]
  rw [foldG_lin, foldP_at b (0 + a.length) 0]
theorem q_split {a b : List (List UInt8)} {N : Nat} (ha : 0 < a.length) (hb : 0 < b.length) (h : ∀ r ∈ a ++ b, r.length = N) : qB (a ++ b) = pB [qB a, scaleL (qB b) (gpow a.length)] := by
  have h1 := alikeB_of ha fun r hr => h r (by simp [hr])
  have h2 := alikeB_of hb fun r hr => h r (by simp [hr])
  have h3 := alikeB_of (rs := a ++ b) (by simp; omega) h
  have l1 : (qB a).length = N := (sumG_len gQ_len h1.1).trans h1.2
  have l2 : (qB b).length = N := (sumG_len gQ_len h2.1).trans h2.2
  rw [pB_two (l1.trans (by rw [scaleL_len]; exact l2.symm))]
  unfold qB sumG at l1 l2 ⊢
  rw [if_pos h1.1, h1.2] at l1 ⊢
  rw [if_pos h2.1, h2.2] at l2 ⊢
  rw [if_pos h3.1, h3.2, foldG_append]
  conv => lhs; rw [← xorL_zero _ N l1]
  rw [foldG_lin, Nat.zero_add]
  congr 1
  have := foldQ_at a.length b 0 (zeroL N)
  rw [scaleL_zero, Nat.add_zero] at this
  exact this
end Go.Proofs.Ytadfimimkkimmaa
end
section
namespace Go.Proofs.Ytadfimimkkimmaa
open Go.RowKit

theorem int_bne_no {a b : Nat} (h : a = b) : ((a : Int) != (b : Int)) = false := by simp [h]
theorem int_bne_yes {a b : Nat} (h : a ≠ b) : ((a : Int) != (b : Int)) = true := by simp; omega
theorem int_beq_no {a b : Nat} (h : a ≠ b) : ((a : Int) == (b : Int)) = false := by simp; omega
theorem int_beq_yes {a b : Nat} (h : a = b) : ((a : Int) == (b : Int)) = true := by simp [h]
theorem nil_own (w : World) (B : Nat) {bs : List UInt8} (h : bs = []) : OwB 5 w B (.slice none 0 0) bs := by subst h; exact OwB.nil _ _ _
theorem getD_lt {rs : List (List UInt8)} {k : Nat} (hk : k < rs.length) : rs.getD k [] ∈ rs := by simp [hk]

set_option maxHeartbeats 400000 in
theorem zeros_any (A : Option Addr) (rs : List (List UInt8)) (n cp : Nat) (w : World) (hn : rs.length = n) (hr : RdR w w.heap.size A rs) :
    Calls Try.prog 92 #[.slice A n cp] w fun e w' => ∃ v, e = .returned v ∧ OwB 5 w' w.heap.size v (zerosB rs) ∧ Below w.heap.size w w' := by
  subst hn
  have hm := hr.1
  by_cases h0 : rs.length = 0
  · have hz : zerosB rs = [] := by rw [List.eq_nil_of_length_eq_zero h0]; rfl
    have hz := Lib.hid hz
    have e0 : ((rs.length : Int) == 0) = true := by rw [h0]; rfl
    clear h0
    go_enter Try.func92, Try.ntmps92
    go_wp2
    go_ret
    exact ⟨_, rfl, nil_own _ _ hz.out, Below.refl _ _⟩
  · obtain ⟨b, off, rfl, hb, hc⟩ := hr.2 (by omega)
    have Hc := Lib.hid hc
    obtain ⟨A0, c0, k0, r0⟩ := hc 0 (by omega)
    have Hno := Lib.hid (fun k => @alikeB_no rs k)
    have Hyes := Lib.hid (@alikeB_iff rs)
    have Hz : Hid (zerosB rs = if alikeB rs then zeroL (rs.getD 0 []).length else []) := rfl
    have hN := r0.1
    rw [Nat.add_zero] at k0
    have i0 : (0 : Int) < (rs.length : Int) := by omega
    have i1 : 0 < rs.length := by omega
    have e0 : ((rs.length : Int) == 0) = false := by rw [beq_eq_false_iff_ne]; omega
    have km := make_bytes (rs.getD 0 []).length hN
    generalize (rs.getD 0 []).length = N at k0 hN km Hno Hyes Hz
    clear hc h0 hr r0
    go_enter Try.func92, Try.ntmps92
    go_wp2
    go_loop [15] (fun i => ∃ k : Nat, k ≤ rs.length ∧ i = .int .i64 k ∧ Hid (∀ j, j < k → (rs.getD j []).length = N)) (fun i => rs.length - (intOf i).toNat)
    case atStart => exact ⟨0, Nat.zero_le _, rfl, fun j hj => by omega⟩
    case round =>
      obtain ⟨k, hk, rfl, Hj⟩ := hrel
      by_cases hlt : k < rs.length
      · obtain ⟨A', c', h1, h2⟩ := Hc.out k hlt
        have Hno := Lib.hid (Hno.out k hlt)
        by_cases he : (rs.getD k []).length = N
        · have Hn : Hid (∀ j, j < k + 1 → (rs.getD j []).length = N) := fun j hj => by
            by_cases hjk : j = k
            · subst hjk; exact he
            · exact Hj.out j (by omega)
          rw [he] at h1
          clear h2 he
          go_wp2
          go_round
          case rel => exact ⟨k + 1, by omega, by go_num, Hn⟩
          case measure => simp [intOf]; omega
        · have hz : Hid (zerosB rs = []) := by rw [Hz.out, Hno.out he]; rfl
          have hne := int_bne_yes he
          clear he
          generalize rs.getD k [] = row at h1 h2 hne
          go_wp2
          go_ret
          exact ⟨_, rfl, nil_own _ _ hz.out, Below.refl _ _⟩
      · obtain rfl : k = rs.length := by omega
        have hz := Lib.hid (show zerosB rs = zeroL N by rw [Hz.out, if_pos (Hyes.out.2 ⟨i1, Hj.out⟩)])
        go_wp2
        go_ret
        exact ⟨_, rfl, by rw [hz.out]; exact own_make _ w N hN, below1 _ _⟩

/-- Where the zeros are none: nil, whatever the sum. -/
theorem own_nil_len {w : World} {B : Nat} {v : Value} (h : OwB 5 w B v []) : ∃ A c, v = .slice A 0 c := by
  obtain ⟨A, c, hv, _, _⟩ := h.rd
  exact ⟨A, c, hv⟩

set_option maxHeartbeats 800000 in
theorem p_any (A : Option Addr) (rs : List (List UInt8)) (n cp : Nat) (w : World) (hn : rs.length = n) (hr : RdR w w.heap.size A rs) :
    Calls Try.prog 70 #[.slice A n cp] w fun e w' => ∃ v, e = .returned v ∧ OwB 5 w' w.heap.size v (pB rs) ∧ Below w.heap.size w w' := by
  have C := Lib.hid (zeros_any A rs n cp w hn hr)
  subst hn
  have hm := hr.1
  by_cases h0 : zerosB rs = []
  · have Hp : Hid (pB rs = []) := sumG_nil gP_len h0
    rw [h0] at C
    clear h0
    go_enter Try.func70, Try.ntmps70
    go_wp2_with fail
    refine C.out.mono ?_
    rintro e w1 ⟨v, rfl, ho, hb⟩
    obtain ⟨A1, c1, rfl⟩ := own_nil_len ho
    go_wp2
    go_ret
    exact ⟨_, rfl, nil_own _ _ Hp.out, hb⟩
  · obtain ⟨hall, hs, hal⟩ := sumG_cons (g := gP) h0
    have Hs : Hid (pB rs = foldG gP 0 (zerosB rs) rs) := hs
    have Hall := Lib.hid hall
    have Hf := Lib.hid (foldG_snoc gP (zerosB rs) rs)
    have Hl := Lib.hid (foldG_take_len gP_len hall)
    have hpos : 0 < (zerosB rs).length := by cases hz : zerosB rs with | nil => exact absurd hz h0 | cons a b => simp
    clear hall hs hal h0
    generalize zerosB rs = zs at C Hs Hall Hf Hl hpos
    go_enter Try.func70, Try.ntmps70
    go_wp2_with fail
    refine C.out.mono ?_
    rintro e w1 ⟨v, rfl, ho, hb⟩
    obtain ⟨g, cap, rfl, hg, hg1, hcap, _, _⟩ := ho.pos hpos
    have hzl := ho.2
    have e0 : ((zs.length : Int) == 0) = false := by rw [beq_eq_false_iff_ne]; omega
    go_wp2
    go_loopw [15] (fun i wr => ∃ k : Nat, k ≤ rs.length ∧ i = .int .i64 k ∧ OwB 5 wr w.heap.size (.slice (some ⟨g, 0, none⟩) zs.length cap) (foldG gP 0 zs (rs.take k)) ∧ Below w.heap.size w wr) (fun i _ => rs.length - (intOf i).toNat)
    case atStart => exact ⟨0, Nat.zero_le _, rfl, ho, hb⟩
    case round =>
      obtain ⟨k, hk, rfl, hown, hbr⟩ := hrel
      have Hy := Lib.hid (Hl.out k)
      by_cases hlt : k < rs.length
      · obtain ⟨b, off, rfl, hbb, hc⟩ := hr.2 (by omega)
        obtain ⟨A', c', h1, h2⟩ := hc k hlt
        have Hsn := Lib.hid (Hf.out k hlt)
        have hln := Hall.out k hlt
        rw [hln] at h1
        have Hln := Lib.hid hln
        clear hln hc
        rw [← hbr.cell (p := ⟨b, off + k, none⟩) hbb] at h1
        generalize rs.getD k [] = row at h1 h2 Hsn Hln
        generalize foldG gP 0 zs (rs.take k) = y at hown Hsn Hy
        have hlen := h2.1
        go_wp2
        go_loopw [21] (fun i wr => ∃ j : Nat, j ≤ zs.length ∧ i = .int .i64 j ∧ OwB 5 wr w.heap.size (.slice (some ⟨g, 0, none⟩) zs.length cap) (xorTo y row j) ∧ Below w.heap.size w wr) (fun i _ => zs.length - (intOf i).toNat)
        case atStart => exact ⟨0, Nat.zero_le _, rfl, by rw [xorTo_zero]; exact hown, hbr⟩
        case round =>
          obtain ⟨j, hj, rfl, hown2, hbr2⟩ := hrel
          have hry : row.length = y.length := Hln.out.trans Hy.out.symm
          have Hry := Lib.hid hry
          clear hry
          by_cases hlt2 : j < zs.length
          · obtain ⟨b2, off2, rfl, hb2, hc2⟩ := h2.2 (by have := Hln.out; omega)
            have h3 := hc2 j (by have := Hln.out; omega)
            rw [← hbr2.cell (p := ⟨b2, off2 + j, none⟩) hb2] at h3
            obtain ⟨h4, h5⟩ := hown2.cell ((xorTo_len Hry.out (by have := Hy.out; omega)).trans Hy.out) j hlt2
            rw [xorTo_get Hry.out (by have := Hy.out; omega)] at h4
            have Hset := Lib.hid (hown2.set ((xorTo_len Hry.out (by have := Hy.out; omega)).trans Hy.out) j (y.getD j 0 ^^^ row.getD j 0)).1
            have Hx := Lib.hid (xorTo_succ Hry.out (show j < y.length by have := Hy.out; omega))
            have ex := xor_u8 (y.getD j 0) (row.getD j 0)
            have i0 : (0 : Int) ≤ (j : Int) := by omega
            have i1 : (j : Int) < (zs.length : Int) := by omega
            generalize row.getD j 0 = c at h3 Hset Hx ex
            generalize y.getD j 0 = d at h4 Hset Hx ex
            generalize d ^^^ c = dc at Hset Hx ex
            clear hc2
            go_wp2
            go_roundw
            case rel => exact ⟨j + 1, by omega, by go_num, by rw [← Hx.out]; exact Hset.out, hbr2.setCell (p := ⟨g, j, none⟩) hg _⟩
            case measure => simp [intOf]; omega
          · obtain rfl : j = zs.length := by omega
            have Hxa : Hid (xorTo y row zs.length = xorL y row) := by rw [← Hy.out]; exact xorTo_all Hry.out
            rw [Hxa.out] at hown2
            go_wp2
            go_roundw
            case rel => exact ⟨k + 1, by omega, by go_num, by rw [Hsn.out]; exact hown2, hbr2⟩
            case measure => simp [intOf]; omega
      · obtain rfl : k = rs.length := by omega
        have Hall2 : Hid (foldG gP 0 zs (rs.take rs.length) = pB rs) := by rw [List.take_length]; exact Hs.out.symm
        have Hyl := Lib.hid (show (pB rs).length = zs.length by rw [← Hall2.out]; exact Hy.out)
        rw [Hall2.out] at hown
        go_wp2
        go_ret
        exact ⟨_, rfl, hown, hbr⟩
end Go.Proofs.Ytadfimimkkimmaa
end
section
set_option maxRecDepth 20000
namespace Go.Proofs.Ytadfimimkkimmaa
open Go.RowKit

theorem OwB.drewI {e : TypeId} {w : World} {B : Nat} {v : Value} {bs : List UInt8} (h : OwB e w B v bs) : OwB e w.drew B v bs := h
theorem mul_u8 (x : UInt8) (f : Nat) (hf : f < 256) (w : World) : Calls Try.prog 94 #[.int .u8 (x.toNat : Int), .int .u8 (f : Int)] w fun e w' => e = .returned (.int .u8 ((mulU x f).toNat : Int)) ∧ w' = w := by
  rw [mulU_nat]
  exact mul_any x.toNat f x.toNat_lt hf w

set_option maxHeartbeats 800000 in
theorem q_any (A : Option Addr) (rs : List (List UInt8)) (n cp : Nat) (w : World) (hn : rs.length = n) (hr : RdR w w.heap.size A rs) :
    Calls Try.prog 71 #[.slice A n cp] w fun e w' => ∃ v, e = .returned v ∧ OwB 5 w' w.heap.size v (qB rs) ∧ Below w.heap.size w w' := by
  have C := Lib.hid (zeros_any A rs n cp w hn hr)
  subst hn
  have hm := hr.1
  by_cases h0 : zerosB rs = []
  · have Hp : Hid (qB rs = []) := sumG_nil gQ_len h0
    rw [h0] at C
    clear h0
    go_enter Try.func71, Try.ntmps71
    go_wp2_with fail
    refine C.out.mono ?_
    rintro e w1 ⟨v, rfl, ho, hb⟩
    obtain ⟨A1, c1, rfl⟩ := own_nil_len ho
    go_wp2
    go_ret
    exact ⟨_, rfl, nil_own _ _ Hp.out, hb⟩
  · obtain ⟨hall, hs, hal⟩ := sumG_cons (g := gQ) h0
    have Hs : Hid (qB rs = foldG gQ 0 (zerosB rs) rs) := hs
    have Hall := Lib.hid hall
    have Hf := Lib.hid (foldG_snoc gQ (zerosB rs) rs)
    have Hl := Lib.hid (foldG_take_len gQ_len hall)
    have hpos : 0 < (zerosB rs).length := by cases hz : zerosB rs with | nil => exact absurd hz h0 | cons a b => simp
    clear hall hs hal h0
    generalize zerosB rs = zs at C Hs Hall Hf Hl hpos
    go_enter Try.func71, Try.ntmps71
    go_wp2_with fail
    refine C.out.mono ?_
    rintro e w1 ⟨v, rfl, ho, hb⟩
    obtain ⟨g, cap, rfl, hg, hg1, hcap, _, _⟩ := ho.pos hpos
    have hzl := ho.2
    have e0 : ((zs.length : Int) == 0) = false := by rw [beq_eq_false_iff_ne]; omega
    go_wp2
    go_loopw [16] (fun i wr => ∃ k : Nat, k ≤ rs.length ∧ i = .int .i64 k ∧ OwB 5 wr w.heap.size (.slice (some ⟨g, 0, none⟩) zs.length cap) (foldG gQ 0 zs (rs.take k)) ∧ Below w.heap.size w wr) (fun i _ => rs.length - (intOf i).toNat)
    case atStart => exact ⟨0, Nat.zero_le _, rfl, ho, hb⟩
    case round =>
      obtain ⟨k, hk, rfl, hown, hbr⟩ := hrel
      have Hy := Lib.hid (Hl.out k)
      by_cases hlt : k < rs.length
      · obtain ⟨b, off, rfl, hbb, hc⟩ := hr.2 (by omega)
        obtain ⟨A', c', h1, h2⟩ := hc k hlt
        have hln := Hall.out k hlt
        rw [hln] at h1
        have Hln := Lib.hid hln
        have Hsn := Lib.hid (show foldG gQ 0 zs (rs.take (k + 1)) = xorL (foldG gQ 0 zs (rs.take k)) (scaleL (rs.getD k []) (gpow (k : Int))) from Hf.out k hlt)
        clear hln hc
        rw [← hbr.cell (p := ⟨b, off + k, none⟩) hbb] at h1
        generalize rs.getD k [] = row at h1 h2 Hsn Hln
        generalize foldG gQ 0 zs (rs.take k) = y at hown Hsn Hy
        have hlen := h2.1
        have CP := Lib.hid (fun W => pow_any (k : Int) (by omega) W)
        have hfp := gpow_lt (k : Int)
        generalize gpow (k : Int) = f at CP Hsn hfp
        go_wp2_with fail
        refine (CP.out _).mono ?_
        rintro e w2 ⟨rfl, rfl⟩
        go_wp2
        go_loopw [25] (fun i wr => ∃ j : Nat, j ≤ zs.length ∧ i = .int .i64 j ∧ OwB 5 wr w.heap.size (.slice (some ⟨g, 0, none⟩) zs.length cap) (xorTo y (scaleL row f) j) ∧ Below w.heap.size w wr) (fun i _ => zs.length - (intOf i).toNat)
        case atStart => exact ⟨0, Nat.zero_le _, rfl, by rw [xorTo_zero]; exact hown, hbr⟩
        case round =>
          obtain ⟨j, hj, rfl, hown2, hbr2⟩ := hrel
          have Hry := Lib.hid (show (scaleL row f).length = y.length from (scaleL_len _ _).trans (Hln.out.trans Hy.out.symm))
          by_cases hlt2 : j < zs.length
          · obtain ⟨b2, off2, rfl, hb2, hc2⟩ := h2.2 (by have := Hln.out; omega)
            have h3 := hc2 j (by have := Hln.out; omega)
            rw [← hbr2.cell (p := ⟨b2, off2 + j, none⟩) hb2] at h3
            have hown3 := hown2.drewI
            have hbr3 := hbr2.drew
            obtain ⟨h4, h5⟩ := hown3.cell ((xorTo_len Hry.out (by have := Hy.out; omega)).trans Hy.out) j hlt2
            rw [xorTo_get Hry.out (by have := Hy.out; omega)] at h4
            have Hset := Lib.hid (hown3.set ((xorTo_len Hry.out (by have := Hy.out; omega)).trans Hy.out) j (y.getD j 0 ^^^ (scaleL row f).getD j 0)).1
            have Hx := Lib.hid (xorTo_succ Hry.out (show j < y.length by have := Hy.out; omega))
            rw [scaleL_get] at Hset Hx
            have i0 : (0 : Int) ≤ (j : Int) := by omega
            have i1 : (j : Int) < (zs.length : Int) := by omega
            generalize row.getD j 0 = c at h3 Hset Hx
            have CM := Lib.hid (fun W => mul_u8 c f hfp W)
            generalize mulU c f = m at CM Hset Hx
            have ex := xor_u8 (y.getD j 0) m
            generalize y.getD j 0 = d at h4 Hset Hx ex
            generalize d ^^^ m = dc at Hset Hx ex
            clear hc2
            go_wp2_with fail
            refine wp_region_still_tail 9 (by kernel_rfl) (by kernel_rfl) ?_
            simp only [List.take_succ_cons, List.take_zero, List.drop_succ_cons, List.drop_zero]
            change wpStill _ _ wr.drew _ _ _
            generalize hwd : wr.drew = wd at h4 h5 Hset hbr3 hown3 ⊢
            have Hwd := Lib.hid hwd
            clear hwd
            repeat (first | still_step | (still_call (CM.out _)))
            refine wpStill_nil ?_
            change wpList _ _ _ _ _ wr.drew
            rw [Hwd.out]
            go_wp2
            go_roundw
            case rel => exact ⟨j + 1, by omega, by go_num, by rw [← Hx.out]; exact Hset.out, hbr3.setCell (p := ⟨g, j, none⟩) hg _⟩
            case measure => simp [intOf]; omega
          · obtain rfl : j = zs.length := by omega
            have Hxa := Lib.hid (show xorTo y (scaleL row f) zs.length = xorL y (scaleL row f) by rw [← Hy.out]; exact xorTo_all Hry.out)
            rw [Hxa.out] at hown2
            go_wp2
            go_roundw
            case rel => exact ⟨k + 1, by omega, by go_num, by rw [Hsn.out]; exact hown2, hbr2⟩
            case measure => simp [intOf]; omega
      · obtain rfl : k = rs.length := by omega
        have Hall2 := Lib.hid (show foldG gQ 0 zs (rs.take rs.length) = qB rs by rw [List.take_length]; exact Hs.out.symm)
        rw [Hall2.out] at hown
        go_wp2
        go_ret
        exact ⟨_, rfl, hown, hbr⟩

theorem add_any (A A' : Option Addr) (a b : List UInt8) (n n' c c' B : Nat) (w : World) (hn : n = a.length) (hn' : n' = b.length) (hr : RdB w B A a) (hr' : RdB w B A' b) (hB : B ≤ w.heap.size) :
    Calls Try.prog 105 #[.slice A n c, .slice A' n' c'] w fun e w' => ∃ v, e = .returned v ∧ OwB 5 w' w.heap.size v (pB [a, b]) ∧ Below w.heap.size w w' := by
  subst hn hn'
  have C := Lib.hid (p_any (some ⟨w.heap.size, 0, none⟩) [a, b] 2 2 (w.alloc (.cells #[.slice A a.length c, .slice A' b.length c'] 46)) rfl (by have := rdr_two (c := c) (c' := c') (t := 46) hr hr' hB; exact this.more (by simp)))
  go_enter Try.func105, Try.ntmps105
  go_wp2_with fail
  refine C.out.mono ?_
  rintro e w1 ⟨v, rfl, ho, hb⟩
  go_wp2
  go_ret
  exact ⟨v, rfl, ho.le (by simp), (below1 w _).trans (hb.mono (by simp))⟩

/-- a times f, its first j bytes so far. -/
def scTo (a : List UInt8) (f j : Nat) : List UInt8 := scaleL (a.take j) f ++ zeroL (a.length - j)
theorem scTo_len (a : List UInt8) (f : Nat) {j : Nat} (hj : j ≤ a.length) : (scTo a f j).length = a.length := by
  simp [scTo, scaleL_len, zeroL_len]; omega
theorem scTo_zero (a : List UInt8) (f : Nat) : scTo a f 0 = List.replicate a.length 0 := by simp [scTo, scaleL, zeroL]
theorem scTo_all (a : List UInt8) (f : Nat) : scTo a f a.length = scaleL a f := by simp [scTo, zeroL]
theorem scTo_succ (a : List UInt8) (f : Nat) {j : Nat} (hj : j < a.length) : (scTo a f j).set j (mulU (a.getD j 0) f) = scTo a f (j + 1) := by
  have hl : (scaleL (a.take j) f).length = j := by rw [scaleL_len]; simp; omega
  unfold scTo
  rw [List.set_append_right _ _ (by omega), hl, Nat.sub_self]
  rw [show a.length - j = (a.length - (j + 1)) + 1 from by omega]
  unfold zeroL
  rw [List.replicate_succ, List.set_cons_zero, List.take_succ_eq_append_getElem hj]
  unfold scaleL
  rw [List.map_append, List.append_assoc]
  simp [hj]
set_option maxHeartbeats 400000 in
theorem scale_any (A : Option Addr) (a : List UInt8) (n c f : Nat) (w : World) (hn : n = a.length) (hf : f < 256) (hr : RdB w w.heap.size A a) :
    Calls Try.prog 106 #[.slice A n c, .int .u8 (f : Int)] w fun e w' => ∃ v, e = .returned v ∧ OwB 5 w' w.heap.size v (scaleL a f) ∧ Below w.heap.size w w' := by
  subst hn
  have hm := hr.1
  have km := make_bytes a.length hm
  have own0 := own_make 5 w a.length hm
  rw [← scTo_zero a f] at own0
  go_enter Try.func106, Try.ntmps106
  go_wp2
  go_loopw [13] (fun i wr => ∃ j : Nat, j ≤ a.length ∧ i = .int .i64 j ∧ OwB 5 wr w.heap.size (.slice (some ⟨w.heap.size, 0, none⟩) a.length a.length) (scTo a f j) ∧ Below w.heap.size w wr) (fun i _ => a.length - (intOf i).toNat)
  case atStart => exact ⟨0, Nat.zero_le _, rfl, own0, below1 _ _⟩
  case round =>
    obtain ⟨j, hj, rfl, hown, hbr⟩ := hrel
    by_cases hlt : j < a.length
    · obtain ⟨b2, off2, rfl, hb2, hc2⟩ := hr.2 (by omega)
      have h3 := hc2 j hlt
      rw [← hbr.cell (p := ⟨b2, off2 + j, none⟩) hb2] at h3
      obtain ⟨h4, h5⟩ := hown.cell (scTo_len a f (by omega)) j hlt
      have Hset := Lib.hid (hown.set (scTo_len a f (by omega)) j (mulU (a.getD j 0) f)).1
      rw [scTo_succ a f hlt] at Hset
      have i0 : (0 : Int) ≤ (j : Int) := by omega
      have i1 : (j : Int) < (a.length : Int) := by omega
      have CM := Lib.hid (fun W => mul_u8 (a.getD j 0) f hf W)
      generalize mulU (a.getD j 0) f = m at CM Hset
      generalize a.getD j 0 = x at h3 CM
      generalize (scTo a f j).getD j 0 = d at h4
      clear hc2
      go_wp2_with fail
      refine (CM.out _).mono ?_
      rintro e w2 ⟨rfl, rfl⟩
      go_wp2
      go_roundw
      case rel => exact ⟨j + 1, by omega, by go_num, Hset.out, hbr.setCell (p := ⟨w.heap.size, j, none⟩) (Nat.le_refl _) _⟩
      case measure => simp [intOf]; omega
    · obtain rfl : j = a.length := by omega
      rw [scTo_all] at hown
      go_wp2
      go_ret
      exact ⟨_, rfl, hown, hbr⟩
end Go.Proofs.Ytadfimimkkimmaa
end
section
namespace Go.Proofs.Ytadfimimkkimmaa
open Go.RowKit

theorem zeroCells_u8 (n : Nat) : (Builtin.zeroCells (Value.int .u8 0).cells n).toList = List.replicate n (.int .u8 0) := by
  rw [← toList_madeCells_one]
  rw [show Builtin.zeroCells (Value.int .u8 0).cells n = madeCells #[.int .u8 0] (n * 1) from rfl, Nat.mul_one]
theorem zeroCells_size (n : Nat) : (Builtin.zeroCells (Value.int .u8 0).cells n).size = n := by
  rw [← Array.length_toList, zeroCells_u8, List.length_replicate]
section
variable {P : Program} (w : World)
theorem run_append_Z (base : Nat) (t tn ty e : TypeId) (kn : IntKind) (ht : P.underlying t = some (.slice e)) (htn : P.underlying tn = some (.int kn)) (hinfo : (P.info? e).map (fun i => (i.zero, i.size, i.bytes)) = some (some (.int .u8 0), 1, 1))
    (v : Value) (xs : List UInt8) (hown : OwB e w base v xs) (kq : IntKind) (n : Nat) (h0 : 0 < n) (hn : xs.length + n ≤ 1048576) (hbase : base ≤ w.heap.size) :
    ∃ v' w', (Builtin.append_ #[t, tn] ty #[v, .int kq (n : Int)]).run P w = .ok v' w' ∧ OwB e w' base v' (xs ++ List.replicate n 0) ∧ w.grownBy w' v.ownBlock ∧ (v'.ownBlock = v.ownBlock ∨ v'.ownBlock = some w.heap.size) := by
  obtain ⟨i, hi, hzz⟩ := Option.map_eq_some_iff.1 hinfo
  simp only [Prod.mk.injEq] at hzz
  obtain ⟨hz, hs, hb⟩ := hzz
  have hmap : (xs ++ List.replicate n (0 : UInt8)).map bv = xs.map bv ++ List.replicate n (.int .u8 0) := by simp [bv]
  have hlen : (xs ++ List.replicate n (0 : UInt8)).length = xs.length + n := by simp
  have grown : ∀ (old : Nat), old < xs.length + n → ∀ (row : Option Nat),
      OwB e (w.drew.alloc (.cells ((xs.map bv).toArray ++ Builtin.zeroCells (Value.int .u8 0).cells n ++ Builtin.zeroCells (Value.int .u8 0).cells (grownCap w (xs.length + n) old e - (xs.length + n))) e)) base
        (.slice (some ⟨w.heap.size, 0, none⟩) (xs.length + n) (grownCap w (xs.length + n) old e)) (xs ++ List.replicate n 0) ∧
      w.grownBy (w.drew.alloc (.cells ((xs.map bv).toArray ++ Builtin.zeroCells (Value.int .u8 0).cells n ++ Builtin.zeroCells (Value.int .u8 0).cells (grownCap w (xs.length + n) old e - (xs.length + n))) e)) row := by
    intro old ho row
    have hge := grownCap_ge w (xs.length + n) old e
    have hcm : grownCap w (xs.length + n) old e ≤ maxLen := grownCap_le_maxLen w (xs.length + n) old e (by unfold maxLen; omega)
    refine ⟨⟨⟨by simp, .inr ⟨w.heap.size, _, _, by rw [hlen], hbase, heap_alloc_new w.drew _, by rw [hlen]; exact hge, hcm, ?_, ?_⟩⟩, by rw [hlen]; omega⟩, ⟨rfl, rfl, rfl, by simp, fun k hk _ => heap_alloc_old w.drew _ hk⟩⟩
    · simp only [Array.size_append, List.size_toArray, zeroCells_size, List.length_map]
      omega
    · simp only [Array.toList_append, hmap, zeroCells_u8]
      rw [List.take_append_of_le_length (by simp), List.take_of_length_le (by simp)]
  rcases hown.1.2 with ⟨rfl, hx0⟩ | ⟨g, cap, cur, rfl, hbg, hg, hnc, hcm, hcs, htake⟩
  · obtain rfl : xs = [] := List.eq_nil_of_length_eq_zero hx0
    have hr := Lib.run_append_nil_zeros (P := P) w t tn ty e i _ kq kn ht htn hi hz n h0 (by omega) (by simp at hn; omega) (by rw [hb]; simp at hn; omega)
    have hgr := grown 0 (by simp; omega) (Value.ownBlock (.slice none 0 0))
    simp only [List.length_nil, Nat.zero_add, List.map_nil, List.nil_append, Array.empty_append] at hgr ⊢
    exact ⟨_, _, hr, hgr.1, hgr.2, .inr rfl⟩
  · by_cases hroom : xs.length + n ≤ cap
    · have hst := run_storeCells_at P g xs.length e (List.replicate n (.int .u8 0)) 0 cur w hg (by simp; omega) (fun u hu => by rw [List.eq_of_mem_replicate hu]; rfl)
      have hw : IntKind.i64.wrap (n : Int) = n := by rw [IntKind.wrap_i64]; omega
      have hneg : ¬ ((n : Int) < 0) := by omega
      have h48 : ¬ (281474976710656 < (n : Int)) := by omega
      have hn0 : n ≠ 0 := by omega
      have hadd : (⟨g, 0, none⟩ : Addr).add xs.length = ⟨g, xs.length, none⟩ := by unfold Addr.add; by_cases hx : xs.length = 0 <;> simp [hx]
      have hr : (Builtin.append_ #[t, tn] ty #[.slice (some ⟨g, 0, none⟩) xs.length cap, .int kq (n : Int)]).run P w = .ok (.slice (some ⟨g, 0, none⟩) (xs.length + n) cap) (w.setRow g (cur.toList.take xs.length ++ List.replicate n (Value.int .u8 0) ++ cur.toList.drop (xs.length + n)).toArray) := by
        simp only [List.length_replicate, Nat.add_zero] at hst
        simp [Builtin.append_, run_underlying ht, run_underlying htn, sizeOf, typeInfo, zeroValue, hi, hz, hs, hb, asInt, asIntOf, hw, hneg, h48, hn0, hroom, hadd, zeroCells_u8, hst]
      refine ⟨_, _, hr, ⟨⟨by simp, .inr ⟨g, cap, _, by rw [hlen], hbg, setRow_heap w g cur _ e _ hg, by rw [hlen]; exact hroom, hcm, ?_, ?_⟩⟩, by rw [hlen]; omega⟩, ⟨rfl, rfl, rfl, by simp, fun k _ hk => setRow_other w g k _ (fun e => hk (by simp [Value.ownBlock, e]))⟩, .inl rfl⟩
      · simp only [List.size_toArray, List.length_append, List.length_take, List.length_drop, Array.length_toList, List.length_replicate]
        omega
      · rw [Nat.mul_one] at htake
        rw [htake, hmap, List.toList_toArray, List.take_append_of_le_length (by simp), List.take_of_length_le (by simp)]
    · have holds : ∀ j u, (xs.map bv)[j]? = some u → w.cell? ((⟨g, 0, none⟩ : Addr).add j) = some u := hown.1.cells (g := g) rfl
      have hload : (Builtin.firstCells i.size xs.length (.slice (some ⟨g, 0, none⟩) xs.length cap)).run P w.drew = .ok (xs.map bv).toArray w.drew := by
        have := run_loadCells_list (P := P) w.drew ⟨g, 0, none⟩ (xs.map bv) holds
        simpa [Builtin.firstCells, hs] using this
      have hns := nextslicecap_le (need := xs.length + n) (old := cap) (by omega)
      have hr := Lib.run_append_grow_zeros (P := P) w t tn ty e i _ kq kn ht htn hi hz (some ⟨g, 0, none⟩) xs.length cap (xs.map bv) hload n h0 (by omega) (by omega) (by omega) (by rw [hb]; omega) (by rw [hb]; omega)
      have hgr := grown cap (by omega) (Value.ownBlock (.slice (some ⟨g, 0, none⟩) xs.length cap))
      exact ⟨_, _, hr, hgr.1, hgr.2, .inr rfl⟩
theorem wpList_append_Z {ops : Array Oper} {rest : List Oper} {o : Oper} {a : Act} {Q : Exit → Act → World → Prop} (hw : Region.wanted o (yielded ops a.tmps) = true) (s x : Operand) (t tn : TypeId)
    (ho : o.op = .call { callee := .builtin .append, args := #[s, x], argTypes := #[t, tn] }) (base : Nat) (e : TypeId) (kn : IntKind) (ht : P.underlying t = some (.slice e)) (htn : P.underlying tn = some (.int kn)) (hinfo : (P.info? e).map (fun i => (i.zero, i.size, i.bytes)) = some (some (.int .u8 0), 1, 1))
    (v : Value) (xs : List UInt8) (hs : a.eval s = v) (hown : OwB e w base v xs) (kq : IntKind) (n : Nat) (hx : a.eval x = .int kq (n : Int)) (h0 : 0 < n) (hn : xs.length + n ≤ 1048576) (hbase : base ≤ w.heap.size)
    (h : ∀ v' w', OwB e w' base v' (xs ++ List.replicate n 0) → w.grownBy w' v.ownBlock → (v'.ownBlock = v.ownBlock ∨ v'.ownBlock = some w.heap.size) → wpList P ops Q rest (a.put o.dst v') w') : wpList P ops Q (o :: rest) a w := by
  refine BigFrame.wpList_want hw fun K hK => ?_
  obtain ⟨v', w', hrun, h2, h3, h4⟩ := run_append_Z (P := P) w base t tn o.type e kn ht htn hinfo v xs hown kq n h0 hn hbase
  unfold Oper.wp execOp
  simp only [ho, resolve, invoke, builtin, Sem.run_bind, Sem.run_pure, Result.andThen_ok, List.map_toArray, List.map_cons, List.map_nil, hs, hx, hrun]
  exact hK _ _ (h v' w' h2 h3 h4)
theorem step_append_Z {ops : Array Oper} {o : Oper} {a : Act} {K : Act → World → Prop} {Q : Exit → Act → World → Prop} {E : Prop} (hgd : o.guard = none) (s x : Operand) (t tn : TypeId)
    (ho : o.op = .call { callee := .builtin .append, args := #[s, x], argTypes := #[t, tn] }) (base : Nat) (e : TypeId) (kn : IntKind) (ht : P.underlying t = some (.slice e)) (htn : P.underlying tn = some (.int kn)) (hinfo : (P.info? e).map (fun i => (i.zero, i.size, i.bytes)) = some (some (.int .u8 0), 1, 1))
    (v : Value) (xs : List UInt8) (hs : a.eval s = v) (hown : OwB e w base v xs) (kq : IntKind) (n : Nat) (hx : a.eval x = .int kq (n : Int)) (h0 : 0 < n) (hn : xs.length + n ≤ 1048576) (hbase : base ≤ w.heap.size)
    (h : ∀ v' w', OwB e w' base v' (xs ++ List.replicate n 0) → w.grownBy w' v.ownBlock → (v'.ownBlock = v.ownBlock ∨ v'.ownBlock = some w.heap.size) → K (a.put o.dst v') w') :
    if Region.wanted o (yielded ops a.tmps) = true then Oper.wp P o a w K Q else E := by
  have hw : Region.wanted o (yielded ops a.tmps) = true := by simp [Region.wanted, hgd]
  rw [if_pos hw]
  obtain ⟨v', w', hrun, h2, h3, h4⟩ := run_append_Z (P := P) w base t tn o.type e kn ht htn hinfo v xs hown kq n h0 hn hbase
  unfold Oper.wp execOp
  simp only [ho, resolve, invoke, builtin, Sem.run_bind, Sem.run_pure, Result.andThen_ok, List.map_toArray, List.map_cons, List.map_nil, hs, hx, hrun]
  exact h v' w' h2 h3 h4
end
end Go.Proofs.Ytadfimimkkimmaa
end
section
namespace Go.Proofs.Ytadfimimkkimmaa
open Go.ChangeShapes Go.WideShapes Go.ChangeAt Go.RowKit

section
variable {H : Type} {enc : TypeId × Value → H} {P : Program}

/-- All arguments read behind the call as they did, where nothing old has turned. -/
theorem args_again (hl : laidOutB P = true) {W W' : World} (hb : Below W.heap.size W W') :
    ∀ {ts : List TypeId} {vs : List Value} {ds : List (DataW H)} {p : List MemPlace}, (∀ t ∈ ts, P.readableRec t = true ∧ t < P.types.size) →
      DataW.TrodAll enc P W 0 (fun _ => true) true ts vs ds p → (∀ x ∈ p, x.block < W.heap.size) → DataW.TrodAll enc P W' 0 (fun b => decide (b < W.heap.size)) true ts vs ds p
  | [], _, _, _, _, h, _ => by
    obtain ⟨rfl, rfl, rfl⟩ := trodAll_nil h
    exact trodAll_mk0
  | t :: ts, _, _, _, hts, h, hlt => by
    obtain ⟨v, vs1, d, ds1, a, b, rfl, rfl, rfl, h1, h2⟩ := trodAll_cons h
    have ht := hts t (by simp)
    exact trodAll_cons_mk (Below.trod hl ht.1 ht.2 h1 hb fun x hx => hlt x (by simp [hx])) (args_again hl hb (fun t' ht' => hts t' (by simp [ht'])) h2 fun x hx => hlt x (by simp [hx]))

/-- A law's row behind the walk: true came back, and nothing old has turned. -/
theorem law_post {f : Func} {s : ChangeSpec} {W W' : World} {args : Array Value} {ds gs : List (DataW H)} {before : List MemPlace} {tb : TypeId} (hl : laidOutB P = true)
    (hts0 : (f.params.toList.all fun t => P.readableRec t && decide (t < P.types.size)) = true) (hv : s.vars = []) (hr : f.resultTypes = #[tb]) (htb : P.underlying tb = some .bool)
    (hfn : ∀ l : List (DataW H), l.length = f.params.size → (s.fn H l).results = [.lit (.bool true)] ∧ (s.fn H l).args = l ∧ (s.fn H l).vars = [])
    (hW : DataW.Whole enc P f.params.toList s.vars false W args.toList ds gs before) (hb : Below W.heap.size W W') :
    ∃ v, Ending.returned (.bool true) = .returned v ∧ s.post enc P f false true false false W args v W' := by
  have hts : ∀ t ∈ f.params.toList, P.readableRec t = true ∧ t < P.types.size := fun t ht => by simpa using List.all_eq_true.1 hts0 t ht
  have hW' := hW
  obtain ⟨p, q, hA, hV, rfl, hfz, hnd⟩ := hW
  rw [hv] at hV
  obtain ⟨rfl, rfl⟩ := trodVars_none hV
  have hlen : ds.length = f.params.size := by
    have : ∀ {ts : List TypeId} {vs : List Value} {ds : List (DataW H)} {p : List MemPlace}, DataW.TrodAll enc P W 0 (fun _ => true) true ts vs ds p → ds.length = ts.length := by
      intro ts
      induction ts with
      | nil => intro vs ds p h; obtain ⟨rfl, rfl, rfl⟩ := trodAll_nil h; rfl
      | cons t ts ih => intro vs ds p h; obtain ⟨v, vs1, d, ds1, a, b, rfl, rfl, rfl, h1, h2⟩ := trodAll_cons h; simp [ih h2]
    simpa using this hA
  obtain ⟨e1, e2, e3⟩ := hfn ds hlen
  have hlt : ∀ x ∈ p ++ [], x.block < W.heap.size := fun x hx => by simpa using hW'.lt x hx
  refine ⟨_, rfl, _, _, _, [], p, [], hW', ?_, ?_, ?_, hb.frame _, fun h => by cases h⟩
  · rw [List.append_nil, e1, hr]
    exact trodAll_mk1 (shut_bool htb _)
  · rw [List.append_nil, e2]
    exact args_again hl hb hts hA (by simpa using hlt)
  · rw [List.append_nil, e3, hv]
    rfl

theorem byte_of {z : Int} (h : 0 ≤ z ∧ z ≤ 255) : ∃ b : UInt8, z = (b.toNat : Int) := ⟨UInt8.ofNat z.toNat, by rw [UInt8.toNat_ofNat', Nat.mod_eq_of_lt (by omega)]; omega⟩
/-- No parameter wants a stand-in: what a card asks. -/
theorem plain_of {name : String} {f0 : FuncId} {fn0 : Func} (h1 : P.funcNamed name = some f0) (h2 : P.funcs[f0]? = some fn0) (h3 : P.looks [] = false) (h4 : (fn0.params.toList.all fun t => !P.wantsStandIn t) = true) (f : FuncId) (fn : Func)
    (hf : P.funcNamed name = some f) (hfn : P.funcs[f]? = some fn) : false = P.looks [] ∧ ∀ (j : Nat) t, fn.params[j]? = some t → P.wantsStandIn t = false := by
  obtain rfl : f = f0 := Option.some.inj (hf.symm.trans h1)
  obtain rfl : fn = fn0 := Option.some.inj (hfn.symm.trans h2)
  refine ⟨h3.symm, fun j t ht => ?_⟩
  have := List.all_eq_true.1 h4 t (by simpa using Array.mem_of_getElem? ht)
  simpa using this

/-- A slice of bytes that came in. -/
theorem open_bytes {t e : TypeId} (ht : P.underlying t = some (.slice e)) (he : P.underlying e = some (.int .u8)) (hc : P.cellsOf e = 1) (hby : P.bytesOf e = 1) {r : Reach} {W : World} {base : Nat} {v : Value} {d : DataW H} {p : List MemPlace}
    (hv : Value.okWide P W r base t v) (h : DataW.Trod enc P W 0 (fun _ => true) true t v d p) (hs : ∀ n ∈ d.weights P t, n ≤ reachBytes) :
    ∃ A bs cap, v = .slice A bs.length cap ∧ bs.length ≤ cap ∧ cap ≤ 140737488355328 ∧ RdB W W.heap.size A bs := by
  obtain ⟨A, len, cap, rfl⟩ := okWide_slice ht hv
  obtain ⟨fuel, hf⟩ := h
  rcases open_ints ht he hc hf with ⟨hcs, _⟩ | ⟨x, l, c, zs, hcs, _, hl, hm, hz, hd, hcell, hwz⟩
  · simp [Value.cells] at hcs
    obtain ⟨rfl, rfl, rfl⟩ := hcs
    exact ⟨none, [], 0, rfl, Nat.le_refl _, by omega, RdB.nil _ _ _⟩
  · simp [Value.cells] at hcs
    obtain ⟨rfl, rfl, rfl⟩ := hcs
    simp only [if_true] at hz
    have hcap : cap ≤ 140737488355328 := by
      injection hd with hd1 hd2
      have := hs ((((zs.take len).map fun z => (DataW.lit (.int .u8 z) : DataW H)).length + ((zs.drop len).map fun z => (DataW.lit (.int .u8 z) : DataW H)).length) * P.bytesOf e) (by rw [hd1]; simp [DataW.weights, ht, lits])
      rw [hby] at this
      simp [reachBytes] at this
      omega
    have hb : ∀ k, k < zs.length → ∃ b : UInt8, zs.getD k 0 = (b.toNat : Int) := fun k hk => by
      have hmem : zs.getD k 0 ∈ zs := by simp [hk]
      have hw := bounds_u8 (hwz _ hmem)
      refine ⟨UInt8.ofNat (zs.getD k 0).toNat, ?_⟩
      rw [UInt8.toNat_ofNat', Nat.mod_eq_of_lt (by omega)]
      omega
    refine ⟨some x, (zs.take len).map fun z => UInt8.ofNat z.toNat, cap, ?_, ?_, hcap, ?_⟩
    · simp; omega
    · simp; omega
    · refine ⟨by simp; omega, fun hn => ?_⟩
      simp at hn
      obtain ⟨b, off, spot⟩ := x
      have hc0 := hcell 0 (by omega)
      have hspot : spot = none := by simpa [Addr.add] using World.cell?_spot hc0
      subst hspot
      refine ⟨b, off, rfl, ?_, fun k hk => ?_⟩
      · have := World.block_lt_of_cell? _ _ hc0
        simpa [Addr.add] using this
      · simp at hk
        have hk1 := hcell k (by omega)
        obtain ⟨bb, hbb⟩ := hb k (by omega)
        rw [hbb] at hk1
        have e1 : ((⟨b, off, none⟩ : Addr).add k) = ⟨b, off + k, none⟩ := by unfold Addr.add; by_cases hk0 : k = 0 <;> simp [hk0]
        rw [e1] at hk1
        rw [hk1]
        have e2 : zs[k]? = some (bb.toNat : Int) := by rw [← hbb, List.getD_eq_getElem?_getD, List.getElem?_eq_getElem (by omega)]; rfl
        have e3 : ((zs.take len).map fun z => UInt8.ofNat z.toNat).getD k 0 = bb := by
          rw [List.getD_eq_getElem?_getD, List.getElem?_map, List.getElem?_take, if_pos (by omega), e2]
          simp
        rw [e3]
end
end Go.Proofs.Ytadfimimkkimmaa
end
