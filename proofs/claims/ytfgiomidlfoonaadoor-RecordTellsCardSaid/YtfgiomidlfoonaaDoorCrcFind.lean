/- Sums tell bytes apart: one byte turned gives another sum; and the sum digit by digit. No program here. -/
import Derived.Test.YtfgiomidlfoonaaDoorCrcMath
namespace Go.Proofs.YtfgiomidlfoonaaDoor

theorem xor_cancel {a b c : Nat} (h : a ^^^ b = a ^^^ c) : b = c := by
  have : a ^^^ (a ^^^ b) = a ^^^ (a ^^^ c) := by rw [h]
  simpa [← Nat.xor_assoc] using this
theorem xor_cancel' {a b c : Nat} (h : b ^^^ a = c ^^^ a) : b = c := xor_cancel (a := a) (by rw [Nat.xor_comm a b, Nat.xor_comm a c]; exact h)
theorem xor_div (a b i : Nat) : (a ^^^ b) / 2 ^ i = a / 2 ^ i ^^^ b / 2 ^ i := by
  rw [← Nat.shiftRight_eq_div_pow, ← Nat.shiftRight_eq_div_pow, ← Nat.shiftRight_eq_div_pow, Nat.shiftRight_xor_distrib]
theorem half_top {x : Nat} (h : x < 4294967296) : half x / 2 ^ 28 = x % 16 := by
  unfold half
  rw [xor_div]
  have h1 : x / 16 / 2 ^ 28 = 0 := by omega
  rw [h1, Nat.zero_xor]
  exact (show ∀ i, i < 16 → nibs.getD i 0 / 2 ^ 28 = i by decide) (x % 16) (by omega)
theorem half_inj {x y : Nat} (hx : x < 4294967296) (hy : y < 4294967296) (h : half x = half y) : x = y := by
  have h1 : x % 16 = y % 16 := by rw [← half_top hx, ← half_top hy, h]
  have h2 : x / 16 = y / 16 := by
    unfold half at h
    rw [h1] at h
    exact xor_cancel' h
  omega
theorem c_lt (c : UInt8) : c.toNat < 4294967296 := by have := c.toNat_lt; omega
theorem stepB_inj {x y : Nat} (c d : UInt8) (hx : x < 4294967296) (hy : y < 4294967296) (h : stepB x c = stepB y d) : x ^^^ c.toNat = y ^^^ d.toNat :=
  half_inj (xor_lt32 hx (c_lt c)) (xor_lt32 hy (c_lt d)) (half_inj (half_lt (xor_lt32 hx (c_lt c))) (half_lt (xor_lt32 hy (c_lt d))) h)
theorem feedB_inj {x y : Nat} (bs : List UInt8) (hx : x < 4294967296) (hy : y < 4294967296) (h : feedB x bs = feedB y bs) : x = y := by
  induction bs generalizing x y with
  | nil => exact h
  | cons c r ih => exact xor_cancel' (stepB_inj c c hx hy (ih (stepB_lt c hx) (stepB_lt c hy) h))
theorem feedB_app (x : Nat) (a b : List UInt8) : feedB x (a ++ b) = feedB (feedB x a) b := List.foldl_append
theorem feedB_one {x : Nat} (a b : List UInt8) (c d : UInt8) (hx : x < 4294967296) (h : feedB x (a ++ c :: b) = feedB x (a ++ d :: b)) : c = d := by
  rw [feedB_app, feedB_app] at h
  have hl := feedB_lt a hx
  have h2 := stepB_inj c d hl hl (feedB_inj b (stepB_lt c hl) (stepB_lt d hl) h)
  exact UInt8.toNat_inj.1 (xor_cancel h2)
/-- One byte turned: another sum. -/
theorem feedB_set {x : Nat} (bs : List UInt8) (i : Nat) (hi : i < bs.length) (d : UInt8) (hx : x < 4294967296) (h : feedB x (bs.set i d) = feedB x bs) : d = bs.getD i 0 := by
  have e1 : bs = bs.take i ++ bs.getD i 0 :: bs.drop (i + 1) := by
    rw [show bs.getD i 0 = bs[i] by simp [hi]]
    simp
  have e2 : bs.set i d = bs.take i ++ d :: bs.drop (i + 1) := List.set_eq_take_append_cons_drop.trans (by rw [if_pos hi])
  rw [e2] at h
  rw [show feedB x bs = feedB x (bs.take i ++ bs.getD i 0 :: bs.drop (i + 1)) by rw [← e1]] at h
  exact feedB_one _ _ _ _ hx h
theorem sumR_flat (rs : List (List UInt8)) : sumR rs = feedB 4294967295 rs.flatten ^^^ 4294967295 := by unfold sumR; rw [feedR_flat]
theorem sumR_eq {rs qs : List (List UInt8)} (h : rs.flatten = qs.flatten) : sumR rs = sumR qs := by rw [sumR_flat, sumR_flat, h]
theorem sumR_ne {rs qs : List (List UInt8)} (i : Nat) (hi : i < rs.flatten.length) (d : UInt8) (hq : qs.flatten = rs.flatten.set i d) (h : sumR qs = sumR rs) : d = rs.flatten.getD i 0 := by
  rw [sumR_flat, sumR_flat, hq] at h
  exact feedB_set _ i hi d (by decide) (xor_cancel' h)
theorem be4_inj {x y : Nat} (hx : x < 4294967296) (hy : y < 4294967296) (h : be4 x = be4 y) : x = y := by
  simp only [be4, List.cons.injEq, and_true] at h
  obtain ⟨h0, h1, h2, h3⟩ := h
  have f : ∀ k, beB x k = beB y k → x / 2 ^ (24 - 8 * k) % 256 = y / 2 ^ (24 - 8 * k) % 256 := fun k hk => by
    have := congrArg UInt8.toNat hk
    simpa [beB, UInt8.toNat_ofNat'] using this
  have g0 := f 0 h0
  have g1 := f 1 h1
  have g2 := f 2 h2
  have g3 := f 3 h3
  simp at g0 g1 g2 g3
  omega

/-- One digit taken out of a sum. -/
def bit1 (x : Nat) : Nat := if x % 2 = 1 then (x / 2) ^^^ 2197175160 else x / 2
theorem xor_mod2 (a b : Nat) : (a ^^^ b) % 2 = (a + b) % 2 := by
  have h := @Nat.xor_mod_two_eq_one a b
  rcases Nat.mod_two_eq_zero_or_one (a ^^^ b) with hc | hc <;> rcases Nat.mod_two_eq_zero_or_one a with ha | ha <;> rcases Nat.mod_two_eq_zero_or_one b with hb | hb <;> rw [hc, ha, hb] at h <;> first | omega | (exfalso; revert h; decide)
theorem bit1_xor (a b : Nat) : bit1 (a ^^^ b) = bit1 a ^^^ bit1 b := by
  unfold bit1
  have h1 := xor_mod2 a b
  have h2 : (a ^^^ b) / 2 = a / 2 ^^^ b / 2 := by simpa using xor_div a b 1
  rw [h2]
  rcases Nat.mod_two_eq_zero_or_one a with ha | ha <;> rcases Nat.mod_two_eq_zero_or_one b with hb | hb
  · rw [if_neg (by omega), if_neg (by omega), if_neg (by omega)]
  · rw [if_pos (by omega), if_neg (by omega), if_pos (by omega), Nat.xor_assoc]
  · rw [if_pos (by omega), if_pos (by omega), if_neg (by omega), Nat.xor_assoc, Nat.xor_comm (b / 2), ← Nat.xor_assoc]
  · rw [if_neg (by omega), if_pos (by omega), if_pos (by omega)]
    rw [show (a / 2 ^^^ 2197175160) ^^^ (b / 2 ^^^ 2197175160) = (a / 2 ^^^ b / 2) ^^^ (2197175160 ^^^ 2197175160) by ac_rfl]
    simp
theorem split16 (x : Nat) : x = 16 * (x / 16) ^^^ x % 16 := by
  have h := Nat.two_pow_add_eq_or_of_lt (i := 4) (b := x % 16) (by omega) (x / 16)
  have h3 : 2 ^ 4 * (x / 16) ^^^ x % 16 = 2 ^ 4 * (x / 16) ||| x % 16 := by
    apply Nat.eq_of_testBit_eq
    intro j
    rw [Nat.testBit_xor, Nat.testBit_or]
    by_cases hj : j < 4
    · have : (2 ^ 4 * (x / 16)).testBit j = false := by rw [Nat.testBit_two_pow_mul]; simp [Nat.not_le.2 hj]
      simp [this]
    · have : (x % 16).testBit j = false := Nat.testBit_lt_two_pow (Nat.lt_of_lt_of_le (by omega) (Nat.pow_le_pow_right (by decide) (Nat.le_of_not_lt hj)))
      simp [this]
  have h4 : x = 2 ^ 4 * (x / 16) + x % 16 := by omega
  rw [h, ← h3] at h4
  exact h4
theorem bit1_even (q : Nat) : bit1 (2 * q) = q := by unfold bit1; rw [if_neg (by omega)]; omega
theorem half_bits (x : Nat) : half x = bit1 (bit1 (bit1 (bit1 x))) := by
  have hr := (show ∀ i, i < 16 → bit1 (bit1 (bit1 (bit1 i))) = nibs.getD i 0 by decide) (x % 16) (by omega)
  rw [show bit1 (bit1 (bit1 (bit1 x))) = bit1 (bit1 (bit1 (bit1 (16 * (x / 16) ^^^ x % 16)))) by rw [← split16 x]]
  rw [bit1_xor, bit1_xor, bit1_xor, bit1_xor, hr]
  rw [show 16 * (x / 16) = 2 * (2 * (2 * (2 * (x / 16)))) by omega, bit1_even, bit1_even, bit1_even, bit1_even]
  rfl
/-- k digits taken out. -/
def bitN : Nat → Nat → Nat
  | 0, x => x
  | k + 1, x => bit1 (bitN k x)
theorem stepB_bits (x : Nat) (c : UInt8) : stepB x c = bitN 8 (x ^^^ c.toNat) := by
  unfold stepB
  rw [half_bits, half_bits]
  rfl
theorem bit1_lt {x : Nat} (h : x < 4294967296) : bit1 x < 4294967296 := by
  unfold bit1
  split
  · exact xor_lt32 (by omega) (by decide)
  · omega
theorem bitN_lt {x : Nat} (k : Nat) (h : x < 4294967296) : bitN k x < 4294967296 := by
  induction k with
  | zero => exact h
  | succ k ih => exact bit1_lt ih
theorem stamped_take (bs : List UInt8) (rs : List (List UInt8)) (h : bs.length = 32) : (stamped bs rs).take 28 = bs.take 28 := by
  unfold stamped
  rw [List.take_append_of_le_length (by simp; omega), List.take_take, Nat.min_self]
theorem restamped (bs : List UInt8) (rs qs : List (List UInt8)) (h : bs.length = 32) : stamped (stamped bs rs) qs = stamped bs qs := by
  rw [show stamped (stamped bs rs) qs = (stamped bs rs).take 28 ++ be4 (sumR ((stamped bs rs).take 28 :: qs)) from rfl, stamped_take bs rs h]
  rfl
theorem xor_zero {a c : UInt8} (h : a ^^^ c = a) : c = 0 := by
  have : a ^^^ (a ^^^ c) = a ^^^ a := by rw [h]
  simpa [← UInt8.xor_assoc] using this
/-- Another part makes another stamp. -/
theorem seal_other (bs q : List UInt8) (i : Nat) (c : UInt8) (h : bs.length = 32) (hi : i < q.length) :
    decide (stamped (stamped bs [q]) [q.set i (q.getD i 0 ^^^ c)] = stamped bs [q]) = ((c.toNat : Int) == 0) := by
  rw [restamped bs _ _ h]
  by_cases hc : c = 0
  · subst hc
    have : q.set i (q.getD i 0 ^^^ 0) = q := by
      rw [show q.getD i 0 ^^^ 0 = q[i] by simp [hi]]
      exact List.set_getElem_self hi
    rw [this]
    simp
  · have hne : ¬ stamped bs [q.set i (q.getD i 0 ^^^ c)] = stamped bs [q] := fun e => by
      have e2 := List.append_cancel_left e
      have e3 := be4_inj (sumR_lt _) (sumR_lt _) e2
      have hl : (bs.take 28).length = 28 := by simp [h]
      have e4 := sumR_ne (rs := [bs.take 28, q]) (qs := [bs.take 28, q.set i (q.getD i 0 ^^^ c)]) (28 + i) (by simp [h]; omega) (q.getD i 0 ^^^ c) (by
        simp only [List.flatten_cons, List.flatten_nil, List.append_nil]
        rw [List.set_append_right _ _ (by omega), hl]
        simp) e3
      have e5 : [bs.take 28, q].flatten.getD (28 + i) 0 = q.getD i 0 := by
        simp only [List.flatten_cons, List.flatten_nil, List.append_nil]
        rw [List.getD_eq_getElem?_getD, List.getElem?_append_right (by omega), hl, List.getD_eq_getElem?_getD]
        simp
      rw [e5] at e4
      exact hc (xor_zero e4)
    have : ¬ c.toNat = 0 := fun e => hc (UInt8.toNat_inj.1 (by simpa using e))
    rw [decide_eq_false hne]
    symm
    rw [beq_eq_false_iff_ne]
    omega
theorem byte_eq0 (c : UInt8) : ((c.toNat : Int) == 0) = decide (c = 0) := by
  by_cases hc : c = 0
  · subst hc; rfl
  · have : ¬ c.toNat = 0 := fun e => hc (UInt8.toNat_inj.1 (by simpa using e))
    rw [decide_eq_false hc, beq_eq_false_iff_ne]
    omega
theorem right_iff (bs : List UInt8) (rs : List (List UInt8)) : rightB bs rs = true ↔ bs.length = 32 ∧ bs.drop 28 = be4 (sumR (bs.take 28 :: rs)) := by simp [rightB]
theorem right_stamped (bs : List UInt8) (rs : List (List UInt8)) (h : bs.length = 32) : rightB (stamped bs rs) rs = true := by
  rw [right_iff, stamped_take bs rs h]
  refine ⟨stamped_len bs rs h, ?_⟩
  unfold stamped
  rw [List.drop_append_of_le_length (by simp; omega)]
  simp
theorem right_parts {bs : List UInt8} {rs qs : List (List UInt8)} (h : rightB bs rs = true) (he : rs.flatten = qs.flatten) : rightB bs qs = true := by
  rw [right_iff] at h ⊢
  exact ⟨h.1, by rw [h.2]; exact congrArg be4 (sumR_eq (by simp [he]))⟩
/-- One byte of a stamped sector turned: no longer right. -/
theorem right_set {bs : List UInt8} {rs : List (List UInt8)} (h : rightB bs rs = true) (i : Nat) (hi : i < 32) (c : UInt8) : rightB (bs.set i (bs.getD i 0 ^^^ c)) rs = ((c.toNat : Int) == 0) := by
  rw [byte_eq0]
  have hr := (right_iff bs rs).1 h
  by_cases hc : c = 0
  · subst hc
    rw [decide_eq_true rfl, show bs.getD i 0 ^^^ 0 = bs[i]'(by omega) by simp [hr.1, hi], List.set_getElem_self]
    exact h
  · rw [decide_eq_false hc, ← Bool.not_eq_true]
    intro h2
    have h3 := (right_iff _ _).1 h2
    obtain ⟨hl, hd⟩ := hr
    have hd2 := h3.2
    by_cases hi2 : i < 28
    · rw [List.drop_set_of_lt (by omega), hd, List.take_set] at hd2
      have e := be4_inj (sumR_lt _) (sumR_lt _) hd2
      have e4 := sumR_ne (rs := bs.take 28 :: rs) (qs := (bs.take 28).set i (bs.getD i 0 ^^^ c) :: rs) i (by simp; omega) (bs.getD i 0 ^^^ c) (by
        simp only [List.flatten_cons]
        rw [List.set_append_left _ _ (by simp; omega)]) e.symm
      have e5 : (bs.take 28 :: rs).flatten.getD i 0 = bs.getD i 0 := by
        simp only [List.flatten_cons]
        rw [List.getD_eq_getElem?_getD, List.getElem?_append_left (by simp; omega), List.getElem?_take, if_pos hi2, List.getD_eq_getElem?_getD]
      rw [e5] at e4
      exact hc (xor_zero e4)
    · have ht : (bs.set i (bs.getD i 0 ^^^ c)).take 28 = bs.take 28 := by rw [List.take_set_of_le (by omega)]
      rw [ht, ← hd] at hd2
      have e := congrArg (fun l => l[i - 28]?) hd2
      simp only [List.getElem?_drop] at e
      rw [show 28 + (i - 28) = i by omega, List.getElem?_set_self (by omega)] at e
      have e6 : bs.getD i 0 = bs[i]'(by omega) := by simp [hl, hi]
      rw [List.getElem?_eq_getElem (by omega)] at e
      injection e with e
      rw [← e6] at e
      exact hc (xor_zero e)
/-- One byte of a part turned: no longer right. -/
theorem right_part {bs q : List UInt8} (h : rightB bs [q] = true) (i : Nat) (hi : i < q.length) (c : UInt8) : rightB bs [q.set i (q.getD i 0 ^^^ c)] = ((c.toNat : Int) == 0) := by
  rw [byte_eq0]
  have hr := (right_iff bs [q]).1 h
  by_cases hc : c = 0
  · subst hc
    rw [decide_eq_true rfl, show q.getD i 0 ^^^ 0 = q[i] by simp [hi], List.set_getElem_self]
    exact h
  · rw [decide_eq_false hc, ← Bool.not_eq_true]
    intro h2
    have h3 := ((right_iff _ _).1 h2).2
    rw [hr.2] at h3
    have hl : (bs.take 28).length = 28 := by simp [hr.1]
    have e := be4_inj (sumR_lt _) (sumR_lt _) h3
    have e4 := sumR_ne (rs := [bs.take 28, q]) (qs := [bs.take 28, q.set i (q.getD i 0 ^^^ c)]) (28 + i) (by simp [hr.1]; omega) (q.getD i 0 ^^^ c) (by
      simp only [List.flatten_cons, List.flatten_nil, List.append_nil]
      rw [List.set_append_right _ _ (by omega), hl]
      simp) e.symm
    have e5 : [bs.take 28, q].flatten.getD (28 + i) 0 = q.getD i 0 := by
      simp only [List.flatten_cons, List.flatten_nil, List.append_nil]
      rw [List.getD_eq_getElem?_getD, List.getElem?_append_right (by omega), hl, List.getD_eq_getElem?_getD]
      simp
    rw [e5] at e4
    exact hc (xor_zero e4)
end Go.Proofs.YtfgiomidlfoonaaDoor
