/- Texts put together: Gf, SyndMath, Synd, SyndQ, OwnZ, Rows2, Parts. -/
import Derived.Test.YtenkkdnepmoihaaGreatDoorProg
import Derived.Test.YtenkkdnepmoihaaGreatDoorUraa
import Derived.Test.YtenkkdnepmoihaaGreatDoorUrab
import Derived.Laws.BitsAllLaws
import Derived.Deep.DeepFit
import Derived.StillTailTactics
import Derived.Lib.AppendZerosOnto
import Derived.Deep.Matrix
section
namespace Go.Proofs.YtenkkdnepmoihaaGreatDoor
open Go.RowKit

theorem and128 : ∀ a, a < 256 → a &&& 128 = if a < 128 then 0 else 128 := by decide +kernel
theorem ret_int {k : IntKind} {a b : Int} (h : a = b) : Ending.returned (.int k a) = .returned (.int k b) := by rw [h]
theorem double_any (a : Nat) (ha : a < 256) (w : World) : Calls Tryz.prog 139 #[.int .u8 (a : Int)] w fun e w' => e = .returned (.int .u8 ((dbl a : Nat) : Int)) ∧ w' = w := by
  have e0 := u8_and_nat a 128 ha (by decide)
  rw [show ((128 : Nat) : Int) = 128 from rfl, and128 a ha] at e0
  by_cases h : a < 128
  · rw [if_pos h] at e0
    have Hd : Hid (dbl a = 2 * a) := if_pos h
    go_enter Tryz.func139, Tryz.ntmps139
    go_wp2
    go_ret
    exact ⟨ret_int (by rw [Hd.out]; omega), rfl⟩
  · rw [if_neg h] at e0
    have Hd : Hid (dbl a = (2 * a - 256) ^^^ 29) := if_neg h
    have e1 := u8_xor_nat (2 * a - 256) 29 (by omega) (by decide)
    have e2 : ((2 * a - 256 : Nat) : Int) = (a : Int) * 2 % 256 := by omega
    rw [e2, show ((29 : Nat) : Int) = 29 from rfl] at e1
    clear e2
    go_enter Tryz.func139, Tryz.ntmps139
    go_wp2
    go_ret
    exact ⟨by rw [Hd.out]; rfl, rfl⟩

theorem mulF_step (f s x y : Nat) : mulF (f + 1) s x y = mulF f (if y % 2 = 1 then s ^^^ x else s) (dbl x) (y / 2) := rfl
set_option maxHeartbeats 400000 in
theorem mul_any (a b : Nat) (ha : a < 256) (hb : b < 256) (w : World) : Calls Tryz.prog 118 #[.int .u8 (a : Int), .int .u8 (b : Int)] w fun e w' => e = .returned (.int .u8 ((gmul a b : Nat) : Int)) ∧ w' = w := by
  go_enter Tryz.func118, Tryz.ntmps118
  go_wp2
  go_loop [0, 1, 5] (fun vx vy vs => ∃ f s x y : Nat, y < 2 ^ f ∧ s < 256 ∧ x < 256 ∧ y < 256 ∧ vx = .int .u8 (x : Int) ∧ vy = .int .u8 (y : Int) ∧ vs = .int .u8 (s : Int) ∧ Hid (mulF f s x y = gmul a b)) (fun _ vy _ => (intOf vy).toNat)
  case atStart => exact ⟨8, 0, a, b, by omega, by decide, ha, hb, rfl, rfl, rfl, rfl⟩
  case round =>
    obtain ⟨f, s, x, y, hyf, hs, hx, hy, rfl, rfl, rfl, Hm⟩ := hrel
    by_cases h0 : y = 0
    · have Hr : Hid (s = gmul a b) := by subst h0; rw [← Hm.out]; exact (mulF_zero_right f s x).symm
      have hne : ((y : Int) != 0) = false := by simp; omega
      clear h0 Hm
      go_wp2
      go_ret
      exact ⟨ret_int (congrArg Nat.cast Hr.out), rfl⟩
    · obtain ⟨g, rfl⟩ : ∃ g, f = g + 1 := ⟨f - 1, by cases f with | zero => simp at hyf; omega | succ n => rfl⟩
      have hyg : y / 2 < 2 ^ g := by rw [Nat.pow_succ] at hyf; omega
      clear hyf
      have Hst : Hid (mulF g (if y % 2 = 1 then s ^^^ x else s) (dbl x) (y / 2) = gmul a b) := Hm.out
      clear Hm
      have hdx := dbl_lt x hx
      have hne : ((y : Int) != 0) = true := by simp; omega
      have e0 := u8_and_nat y 1 hy (by decide)
      rw [nat_mask1] at e0
      have hxl := xor_lt8 hs hx
      have ex := u8_xor_nat s x hs hx
      by_cases hbit : y % 2 = 1
      · rw [hbit] at e0
        rw [show ((1 : Nat) : Int) = 1 from rfl] at e0
        have Hst2 : Hid (mulF g (s ^^^ x) (dbl x) (y / 2) = gmul a b) := by have := Hst.out; rw [if_pos hbit] at this; exact this
        clear Hst hbit
        go_wp2_with (go_at_call 139; refine (double_any x hx _).mono ?_; rintro e w' ⟨rfl, rfl⟩)
        go_round
        case rel => exact ⟨g, s ^^^ x, dbl x, y / 2, hyg, hxl, hdx, by omega, rfl, by go_num, rfl, Hst2⟩
        case measure => simp [intOf]; omega
      · have hbit0 : y % 2 = 0 := by omega
        rw [hbit0] at e0
        rw [show ((1 : Nat) : Int) = 1 from rfl] at e0
        have Hst2 : Hid (mulF g s (dbl x) (y / 2) = gmul a b) := by have := Hst.out; rw [if_neg hbit] at this; exact this
        clear Hst hbit hbit0
        go_wp2_with (go_at_call 139; refine (double_any x hx _).mono ?_; rintro e w' ⟨rfl, rfl⟩)
        go_round
        case rel => exact ⟨g, s, dbl x, y / 2, hyg, hs, hdx, by omega, rfl, by go_num, rfl, Hst2⟩
        case measure => simp [intOf]; omega

theorem i64_and1 : ∀ n : Nat, n < 256 → bits .and .i64 (n : Int) 1 = ((n % 2 : Nat) : Int) := by decide +kernel
theorem power_any (a n : Nat) (ha : a < 256) (hn : n < 256) (w : World) : Calls Tryz.prog 138 #[.int .u8 (a : Int), .int .i64 (n : Int)] w fun e w' => e = .returned (.int .u8 ((gpw a n : Nat) : Int)) ∧ w' = w := by
  go_enter Tryz.func138, Tryz.ntmps138
  go_wp2
  go_loop [0, 1, 5] (fun va vn vx => ∃ b m x : Nat, b < 256 ∧ m < 256 ∧ x < 256 ∧ va = .int .u8 (b : Int) ∧ vn = .int .i64 (m : Int) ∧ vx = .int .u8 (x : Int) ∧ Hid (gmul x (gpw b m) = gpw a n)) (fun _ vn _ => (intOf vn).toNat)
  case atStart => exact ⟨a, n, 1, ha, hn, by decide, rfl, rfl, rfl, gmul_one_left _ (gpw_lt ha n)⟩
  case round =>
    obtain ⟨b, m, x, hb, hm, hx, rfl, rfl, rfl, Hm⟩ := hrel
    have hbb : gmul b b < 256 := gmul_lt hb
    have hxb : gmul x b < 256 := gmul_lt hx
    by_cases h0 : m = 0
    · have Hr : Hid (x = gpw a n) := by subst h0; rw [← Hm.out]; exact (gmul_one_right hx).symm
      have hne : ¬ (0 : Int) < (m : Int) := by omega
      clear h0 Hm
      go_wp2
      go_ret
      exact ⟨ret_int (congrArg Nat.cast Hr.out), rfl⟩
    · have hne : (0 : Int) < (m : Int) := by omega
      have e0 := i64_and1 m hm
      have Hh := Lib.hid (gpw_half hx hb m)
      by_cases hbit : m % 2 = 1
      · rw [hbit, show ((1 : Nat) : Int) = 1 from rfl] at e0
        have Hr : Hid (gmul (gmul x b) (gpw (gmul b b) (m / 2)) = gpw a n) := by have := Hh.out; rw [if_pos hbit] at this; exact this.trans Hm.out
        clear Hh Hm hbit
        go_wp2_with (go_at_call 118; refine (mul_any _ _ (by assumption) (by assumption) _).mono ?_; rintro e w' ⟨rfl, rfl⟩)
        go_round
        case rel => exact ⟨gmul b b, m / 2, gmul x b, hbb, by omega, hxb, rfl, by go_num, rfl, Hr⟩
        case measure => simp [intOf]; omega
      · rw [show m % 2 = 0 from by omega, show ((0 : Nat) : Int) = 0 from rfl] at e0
        have Hr : Hid (gmul x (gpw (gmul b b) (m / 2)) = gpw a n) := by have := Hh.out; rw [if_neg hbit] at this; exact this.trans Hm.out
        clear Hh Hm hbit
        go_wp2_with (go_at_call 118; refine (mul_any _ _ (by assumption) (by assumption) _).mono ?_; rintro e w' ⟨rfl, rfl⟩)
        go_round
        case rel => exact ⟨gmul b b, m / 2, x, hbb, by omega, hx, rfl, by go_num, rfl, Hr⟩
        case measure => simp [intOf]; omega
theorem tmod255 (n : Int) : n % 255 = if n.tmod 255 < 0 then n.tmod 255 + 255 else n.tmod 255 := by
  have h0 := Int.emod_nonneg n (show (255 : Int) ≠ 0 by omega)
  have h1 := Int.emod_lt_of_pos n (show (0 : Int) < 255 by omega)
  rw [Int.tmod_eq_emod]
  split <;> split <;> omega
theorem pow_any (n : Int) (hn : -9223372036854775808 ≤ n ∧ n ≤ 9223372036854775807) (w : World) : Calls Tryz.prog 117 #[.int .i64 n] w fun e w' => e = .returned (.int .u8 ((gpow n : Nat) : Int)) ∧ w' = w := by
  obtain ⟨hn1, hn2⟩ := hn
  have Ht := tmod255 n
  have h0 := Int.emod_nonneg n (show (255 : Int) ≠ 0 by omega)
  have h1 := Int.emod_lt_of_pos n (show (0 : Int) < 255 by omega)
  have hlo : -255 < n.tmod 255 := Int.lt_tmod_of_pos _ (by omega)
  have hhi : n.tmod 255 < 255 := Int.tmod_lt_of_pos _ (by omega)
  obtain ⟨k, hk⟩ := Int.eq_ofNat_of_zero_le h0
  have H : Hid (gpw 2 k = gpow n) := by unfold gpow; rw [gpw_two_n, hk]; exact congrArg gE rfl
  rw [hk] at h1 Ht
  clear hk h0
  by_cases hneg : n.tmod 255 < 0
  · rw [if_pos hneg] at Ht
    have Ht := Lib.hid Ht.symm
    rename_i h; clear h
    go_enter Tryz.func117, Tryz.ntmps117
    go_wp2_with (rw [Ht.out]; go_at_call 138; refine (power_any 2 k (by decide) (by omega) _).mono ?_; rintro e w' ⟨rfl, rfl⟩)
    go_ret
    exact ⟨ret_int (congrArg Nat.cast H.out), rfl⟩
  · rw [if_neg hneg] at Ht
    have Ht := Lib.hid Ht.symm
    go_enter Tryz.func117, Tryz.ntmps117
    go_wp2_with (rw [Ht.out]; go_at_call 138; refine (power_any 2 k (by decide) (by omega) _).mono ?_; rintro e w' ⟨rfl, rfl⟩)
    go_ret
    exact ⟨ret_int (congrArg Nat.cast H.out), rfl⟩
end Go.Proofs.YtenkkdnepmoihaaGreatDoor
end
section
namespace Go.Proofs.YtenkkdnepmoihaaGreatDoor

/-- A byte times f. -/
def mulU (x : UInt8) (f : Nat) : UInt8 := UInt8.ofNat (gmul x.toNat f)
theorem mulU_nat (x : UInt8) (f : Nat) : (mulU x f).toNat = gmul x.toNat f := by
  unfold mulU
  rw [UInt8.toNat_ofNat', Nat.mod_eq_of_lt (gmul_lt x.toNat_lt)]
theorem mulU_zero (f : Nat) : mulU 0 f = 0 := UInt8.toNat_inj.1 (by rw [mulU_nat]; exact gmul_zero_left f)
theorem mulU_xor (x y : UInt8) (f : Nat) : mulU (x ^^^ y) f = mulU x f ^^^ mulU y f :=
  UInt8.toNat_inj.1 (by rw [mulU_nat, UInt8.toNat_xor, UInt8.toNat_xor, mulU_nat, mulU_nat]; exact gmul_xor_left f x.toNat_lt y.toNat_lt)
theorem mulU_mulU (x : UInt8) {f h : Nat} (hf : f < 256) (hh : h < 256) : mulU (mulU x f) h = mulU x (gmul f h) :=
  UInt8.toNat_inj.1 (by rw [mulU_nat, mulU_nat, mulU_nat]; exact (gmul_assoc x.toNat_lt hf hh).symm)
theorem mulU_one (x : UInt8) : mulU x 1 = x := UInt8.toNat_inj.1 (by rw [mulU_nat]; exact gmul_one_right x.toNat_lt)

def xorL (a b : List UInt8) : List UInt8 := List.zipWith (· ^^^ ·) a b
def scaleL (a : List UInt8) (f : Nat) : List UInt8 := a.map fun x => mulU x f
def zeroL (n : Nat) : List UInt8 := List.replicate n 0
theorem xorL_len (a b : List UInt8) : (xorL a b).length = min a.length b.length := by simp [xorL]
theorem scaleL_len (a : List UInt8) (f : Nat) : (scaleL a f).length = a.length := by simp [scaleL]
theorem scaleL_get (a : List UInt8) (f i : Nat) : (scaleL a f).getD i 0 = mulU (a.getD i 0) f := by
  unfold scaleL
  rw [List.getD_eq_getElem?_getD, List.getD_eq_getElem?_getD, List.getElem?_map]
  cases h : a[i]? with
  | none => exact (mulU_zero f).symm
  | some x => rfl
theorem xorL_assoc : ∀ a b c : List UInt8, xorL (xorL a b) c = xorL a (xorL b c)
  | [], _, _ => by simp [xorL]
  | _ :: _, [], _ => by simp [xorL]
  | _ :: _, _ :: _, [] => by simp [xorL]
  | x :: a, y :: b, z :: c => by
    have := xorL_assoc a b c
    unfold xorL at this ⊢
    simp only [List.zipWith_cons_cons, this, UInt8.xor_assoc]
theorem xorL_comm : ∀ a b : List UInt8, xorL a b = xorL b a
  | [], b => by cases b <;> rfl
  | _ :: _, [] => rfl
  | x :: a, y :: b => by
    have := xorL_comm a b
    unfold xorL at this ⊢
    simp only [List.zipWith_cons_cons, this, UInt8.xor_comm x y]
theorem xorL_zero : ∀ (a : List UInt8) (n : Nat), a.length = n → xorL a (zeroL n) = a
  | [], n, h => by simp [xorL]
  | x :: a, n + 1, h => by
    have := xorL_zero a n (by simpa using h)
    unfold xorL zeroL at this ⊢
    rw [List.replicate_succ, List.zipWith_cons_cons, this, UInt8.xor_zero]
theorem scaleL_xorL (a b : List UInt8) (f : Nat) : scaleL (xorL a b) f = xorL (scaleL a f) (scaleL b f) := by
  unfold scaleL xorL
  rw [List.map_zipWith, List.zipWith_map]
  simp only [mulU_xor]
theorem scaleL_scaleL (a : List UInt8) {f h : Nat} (hf : f < 256) (hh : h < 256) : scaleL (scaleL a f) h = scaleL a (gmul f h) := by
  unfold scaleL
  rw [List.map_map]
  exact List.map_congr_left fun x _ => mulU_mulU x hf hh
theorem scaleL_zero (n f : Nat) : scaleL (zeroL n) f = zeroL n := by
  unfold scaleL zeroL
  rw [List.map_replicate, mulU_zero]
theorem scaleL_one (a : List UInt8) : scaleL a 1 = a := by
  unfold scaleL
  rw [List.map_congr_left (fun x _ => mulU_one x), List.map_id']
theorem xorL_self (a : List UInt8) : xorL a a = zeroL a.length := by
  induction a with
  | nil => rfl
  | cons x a ih => unfold xorL zeroL at ih ⊢; rw [List.zipWith_cons_cons, ih, UInt8.xor_self, List.length_cons, List.replicate_succ]

/-- r added to z, its first j bytes so far. -/
def xorTo (z r : List UInt8) (j : Nat) : List UInt8 := xorL (z.take j) (r.take j) ++ z.drop j
theorem xorTo_zero (z r : List UInt8) : xorTo z r 0 = z := by simp [xorTo, xorL]
theorem xorTo_len {z r : List UInt8} (h : r.length = z.length) {j : Nat} (hj : j ≤ z.length) : (xorTo z r j).length = z.length := by
  simp [xorTo, xorL_len]; omega
theorem xorTo_all {z r : List UInt8} (h : r.length = z.length) : xorTo z r z.length = xorL z r := by
  unfold xorTo
  rw [List.take_length, ← h, List.take_length, h, List.drop_length, List.append_nil]
theorem xorTo_get {z r : List UInt8} (h : r.length = z.length) {j : Nat} (hj : j < z.length) : (xorTo z r j).getD j 0 = z.getD j 0 := by
  unfold xorTo
  rw [List.getD_eq_getElem?_getD, List.getElem?_append_right (by rw [xorL_len]; simp; omega), xorL_len]
  simp
  congr 2
  omega
theorem xorTo_succ {z r : List UInt8} (h : r.length = z.length) {j : Nat} (hj : j < z.length) : (xorTo z r j).set j (z.getD j 0 ^^^ r.getD j 0) = xorTo z r (j + 1) := by
  have hl : (xorL (z.take j) (r.take j)).length = j := by rw [xorL_len]; simp; omega
  unfold xorTo
  rw [List.set_append_right _ _ (by omega), hl, Nat.sub_self]
  rw [List.drop_eq_getElem_cons hj, List.set_cons_zero]
  rw [List.take_succ_eq_append_getElem hj, List.take_succ_eq_append_getElem (by omega : j < r.length)]
  have e : xorL (z.take j ++ [z[j]]) (r.take j ++ [r[j]'(by omega)]) = xorL (z.take j) (r.take j) ++ [z[j] ^^^ r[j]'(by omega)] := by
    unfold xorL
    rw [List.zipWith_append (by simp; omega)]
    rfl
  rw [e, List.append_assoc]
  simp [hj, h]

/-- Rows added up, row k by g k. -/
def foldG (g : Nat → List UInt8 → List UInt8) (k : Nat) (z : List UInt8) : List (List UInt8) → List UInt8
  | [] => z
  | r :: rs => foldG g (k + 1) (xorL z (g k r)) rs
def gP : Nat → List UInt8 → List UInt8 := fun _ r => r
def gQ : Nat → List UInt8 → List UInt8 := fun k r => scaleL r (gpow k)
theorem foldG_append (g : Nat → List UInt8 → List UInt8) (a b : List (List UInt8)) : ∀ k z, foldG g k z (a ++ b) = foldG g (k + a.length) (foldG g k z a) b := by
  induction a with
  | nil => intro k z; rfl
  | cons r a ih => intro k z; rw [List.cons_append, foldG, ih, foldG]; congr 1; simp; omega
theorem foldG_snoc (g : Nat → List UInt8 → List UInt8) (z : List UInt8) (rs : List (List UInt8)) (k : Nat) (h : k < rs.length) : foldG g 0 z (rs.take (k + 1)) = xorL (foldG g 0 z (rs.take k)) (g k (rs.getD k [])) := by
  rw [List.take_succ_eq_append_getElem h, foldG_append, Nat.zero_add, List.length_take, Nat.min_eq_left (Nat.le_of_lt h)]
  simp [foldG, h]
theorem foldG_lin (g : Nat → List UInt8 → List UInt8) (rs : List (List UInt8)) : ∀ k z y, foldG g k (xorL z y) rs = xorL z (foldG g k y rs) := by
  induction rs with
  | nil => intro k z y; rfl
  | cons r rs ih => intro k z y; rw [foldG, xorL_assoc, ih, foldG]
theorem foldG_len {g : Nat → List UInt8 → List UInt8} (hg : ∀ k r, (g k r).length = r.length) {N : Nat} (rs : List (List UInt8)) : ∀ k z, z.length = N → (∀ r ∈ rs, r.length = N) → (foldG g k z rs).length = N := by
  induction rs with
  | nil => intro k z hz _; exact hz
  | cons r rs ih =>
    intro k z hz hr
    rw [foldG]
    exact ih _ _ (by rw [xorL_len, hg, hz, hr r (by simp)]; simp) fun r' h' => hr r' (by simp [h'])
theorem gP_len (k : Nat) (r : List UInt8) : (gP k r).length = r.length := rfl
theorem gQ_len (k : Nat) (r : List UInt8) : (gQ k r).length = r.length := scaleL_len _ _

/-- There are rows, all of one length. -/
def alikeB (rs : List (List UInt8)) : Bool := !rs.isEmpty && rs.all fun r => r.length == (rs.getD 0 []).length
def zerosB (rs : List (List UInt8)) : List UInt8 := if alikeB rs then zeroL (rs.getD 0 []).length else []
def sumG (g : Nat → List UInt8 → List UInt8) (rs : List (List UInt8)) : List UInt8 := if alikeB rs then foldG g 0 (zeroL (rs.getD 0 []).length) rs else []
def pB : List (List UInt8) → List UInt8 := sumG gP
def qB : List (List UInt8) → List UInt8 := sumG gQ
theorem alikeB_iff {rs : List (List UInt8)} : alikeB rs = true ↔ 0 < rs.length ∧ ∀ k, k < rs.length → (rs.getD k []).length = (rs.getD 0 []).length := by
  unfold alikeB
  rw [Bool.and_eq_true, List.all_eq_true, Bool.not_eq_eq_eq_not, Bool.not_true]
  constructor
  · rintro ⟨h1, h2⟩
    refine ⟨?_, fun k hk => ?_⟩
    · rcases rs with _ | ⟨r, rs⟩
      · simp at h1
      · simp
    · have := h2 (rs.getD k []) (by simp [hk])
      simpa using this
  · rintro ⟨h1, h2⟩
    refine ⟨?_, fun r hr => ?_⟩
    · rcases rs with _ | ⟨r, rs⟩
      · simp at h1
      · rfl
    · obtain ⟨k, hk, rfl⟩ := List.getElem_of_mem hr
      have := h2 k hk
      simpa [hk] using this
theorem alikeB_mem {rs : List (List UInt8)} (h : alikeB rs = true) : ∀ r ∈ rs, r.length = (rs.getD 0 []).length := fun r hr => by
  obtain ⟨k, hk, rfl⟩ := List.getElem_of_mem hr
  have := (alikeB_iff.1 h).2 k hk
  simpa [hk] using this
theorem alikeB_no {rs : List (List UInt8)} {k : Nat} (hk : k < rs.length) (h : (rs.getD k []).length ≠ (rs.getD 0 []).length) : alikeB rs = false := by
  cases e : alikeB rs with
  | false => rfl
  | true => exact absurd ((alikeB_iff.1 e).2 k hk) h
theorem alikeB_of {rs : List (List UInt8)} {N : Nat} (h0 : 0 < rs.length) (h : ∀ r ∈ rs, r.length = N) : alikeB rs = true ∧ (rs.getD 0 []).length = N := by
  have h1 : ∀ k, k < rs.length → (rs.getD k []).length = N := fun k hk => h _ (by simp [hk])
  exact ⟨alikeB_iff.2 ⟨h0, fun k hk => (h1 k hk).trans (h1 0 h0).symm⟩, h1 0 h0⟩
theorem zeroL_len (n : Nat) : (zeroL n).length = n := by simp [zeroL]
theorem sumG_len {g : Nat → List UInt8 → List UInt8} (hg : ∀ k r, (g k r).length = r.length) {rs : List (List UInt8)} (h : alikeB rs = true) : (sumG g rs).length = (rs.getD 0 []).length := by
  unfold sumG
  rw [if_pos h]
  exact foldG_len hg rs 0 _ (zeroL_len _) (alikeB_mem h)
/-- Where the zeros are none, so are the sums. -/
theorem sumG_nil {g : Nat → List UInt8 → List UInt8} (hg : ∀ k r, (g k r).length = r.length) {rs : List (List UInt8)} (h : zerosB rs = []) : sumG g rs = [] := by
  cases e : alikeB rs with
  | false => unfold sumG; rw [e]; rfl
  | true =>
    unfold zerosB at h
    rw [if_pos e] at h
    have h0 : (rs.getD 0 []).length = 0 := by rw [← zeroL_len (rs.getD 0 []).length, h]; rfl
    exact List.eq_nil_of_length_eq_zero ((sumG_len hg e).trans h0)
/-- Where they are some, all rows are as long, and the sum begins with them. -/
theorem sumG_cons {g : Nat → List UInt8 → List UInt8} {rs : List (List UInt8)} (h : zerosB rs ≠ []) : (∀ k, k < rs.length → (rs.getD k []).length = (zerosB rs).length) ∧ sumG g rs = foldG g 0 (zerosB rs) rs ∧ alikeB rs = true := by
  cases e : alikeB rs with
  | false => unfold zerosB at h; rw [e] at h; exact absurd rfl h
  | true =>
    refine ⟨fun k hk => ?_, ?_, rfl⟩
    · unfold zerosB; rw [if_pos e, zeroL_len]; exact (alikeB_iff.1 e).2 k hk
    · unfold sumG zerosB; rw [if_pos e, if_pos e]
theorem foldG_take_len {g : Nat → List UInt8 → List UInt8} (hg : ∀ k r, (g k r).length = r.length) {rs : List (List UInt8)} {z : List UInt8} (h : ∀ k, k < rs.length → (rs.getD k []).length = z.length) (k : Nat) : (foldG g 0 z (rs.take k)).length = z.length :=
  foldG_len hg _ 0 z rfl fun r hr => by
    obtain ⟨j, hj, rfl⟩ := List.getElem_of_mem hr
    have hj2 : j < rs.length := by simp at hj; omega
    have := h j hj2
    simpa [hj2] using this
/-- Two rows. -/
theorem pB_two {a b : List UInt8} (h : a.length = b.length) : pB [a, b] = xorL a b := by
  have e : alikeB [a, b] = true := by
    refine (alikeB_of (N := a.length) (by simp) fun r hr => ?_).1
    simp at hr
    rcases hr with rfl | rfl
    · rfl
    · exact h.symm
  unfold pB sumG
  rw [if_pos e]
  show xorL (xorL (zeroL a.length) a) b = _
  rw [xorL_comm (zeroL a.length), xorL_zero a _ rfl]
end Go.Proofs.YtenkkdnepmoihaaGreatDoor
end
section
namespace Go.Proofs.YtenkkdnepmoihaaGreatDoor
open Go.RowKit

theorem int_bne_no {a b : Nat} (h : a = b) : ((a : Int) != (b : Int)) = false := by simp [h]
theorem int_bne_yes {a b : Nat} (h : a ≠ b) : ((a : Int) != (b : Int)) = true := by simp; omega
theorem nil_own (w : World) (B : Nat) {bs : List UInt8} (h : bs = []) : OwB 5 w B (.slice none 0 0) bs := by subst h; exact OwB.nil _ _ _
set_option maxHeartbeats 400000 in
theorem zeros_any (A : Option Addr) (rs : List (List UInt8)) (n cp : Nat) (w : World) (hn : rs.length = n) (hr : RdR w w.heap.size A rs) :
    Calls Tryz.prog 116 #[.slice A n cp] w fun e w' => ∃ v, e = .returned v ∧ OwB 5 w' w.heap.size v (zerosB rs) ∧ Below w.heap.size w w' := by
  subst hn
  have hm := hr.1
  by_cases h0 : rs.length = 0
  · have hz : zerosB rs = [] := by rw [List.eq_nil_of_length_eq_zero h0]; rfl
    have hz := Lib.hid hz
    have e0 : ((rs.length : Int) == 0) = true := by rw [h0]; rfl
    clear h0
    go_enter Tryz.func116, Tryz.ntmps116
    go_wp2
    go_ret
    exact ⟨_, rfl, nil_own _ _ hz.out, Below.refl _ _⟩
  · obtain ⟨b, off, rfl, hb, hc⟩ := hr.2 (by omega)
    have Hc := Lib.hid hc
    obtain ⟨A0, c0, k0, r0⟩ := hc 0 (by omega)
    have Hno := Lib.hid (fun k => @alikeB_no rs k)
    have Hyes := Lib.hid (@alikeB_iff rs)
    have Hz : Hid (zerosB rs = if alikeB rs then zeroL (rs.getD 0 []).length else []) := rfl
    have hN := r0.1
    rw [Nat.add_zero] at k0
    have i0 : (0 : Int) < (rs.length : Int) := by omega
    have i1 : 0 < rs.length := by omega
    have e0 : ((rs.length : Int) == 0) = false := by rw [beq_eq_false_iff_ne]; omega
    have km := make_bytes (rs.getD 0 []).length hN
    generalize (rs.getD 0 []).length = N at k0 hN km Hno Hyes Hz
    clear hc h0 hr r0
    go_enter Tryz.func116, Tryz.ntmps116
    go_wp2
    go_loop [15] (fun i => ∃ k : Nat, k ≤ rs.length ∧ i = .int .i64 k ∧ Hid (∀ j, j < k → (rs.getD j []).length = N)) (fun i => rs.length - (intOf i).toNat)
    case atStart => exact ⟨0, Nat.zero_le _, rfl, fun j hj => by omega⟩
    case round =>
      obtain ⟨k, hk, rfl, Hj⟩ := hrel
      by_cases hlt : k < rs.length
      · obtain ⟨A', c', h1, h2⟩ := Hc.out k hlt
        have Hno := Lib.hid (Hno.out k hlt)
        by_cases he : (rs.getD k []).length = N
        · have Hn : Hid (∀ j, j < k + 1 → (rs.getD j []).length = N) := fun j hj => by
            by_cases hjk : j = k
            · subst hjk; exact he
            · exact Hj.out j (by omega)
          rw [he] at h1
          clear h2 he
          go_wp2
          go_round
          case rel => exact ⟨k + 1, by omega, by go_num, Hn⟩
          case measure => simp [intOf]; omega
        · have hz : Hid (zerosB rs = []) := by rw [Hz.out, Hno.out he]; rfl
          have hne := int_bne_yes he
          clear he
          generalize rs.getD k [] = row at h1 h2 hne
          go_wp2
          go_ret
          exact ⟨_, rfl, nil_own _ _ hz.out, Below.refl _ _⟩
      · obtain rfl : k = rs.length := by omega
        have hz := Lib.hid (show zerosB rs = zeroL N by rw [Hz.out, if_pos (Hyes.out.2 ⟨i1, Hj.out⟩)])
        go_wp2
        go_ret
        exact ⟨_, rfl, by rw [hz.out]; exact own_make _ w N hN, below1 _ _⟩

/-- Where the zeros are none: nil, whatever the sum. -/
theorem own_nil_len {w : World} {B : Nat} {v : Value} (h : OwB 5 w B v []) : ∃ A c, v = .slice A 0 c := by
  obtain ⟨A, c, hv, _, _⟩ := h.rd
  exact ⟨A, c, hv⟩

set_option maxHeartbeats 800000 in
theorem p_any (A : Option Addr) (rs : List (List UInt8)) (n cp : Nat) (w : World) (hn : rs.length = n) (hr : RdR w w.heap.size A rs) :
    Calls Tryz.prog 87 #[.slice A n cp] w fun e w' => ∃ v, e = .returned v ∧ OwB 5 w' w.heap.size v (pB rs) ∧ Below w.heap.size w w' := by
  have C := Lib.hid (zeros_any A rs n cp w hn hr)
  subst hn
  have hm := hr.1
  by_cases h0 : zerosB rs = []
  · have Hp : Hid (pB rs = []) := sumG_nil gP_len h0
    rw [h0] at C
    clear h0
    go_enter Tryz.func87, Tryz.ntmps87
    go_wp2_with fail
    refine C.out.mono ?_
    rintro e w1 ⟨v, rfl, ho, hb⟩
    obtain ⟨A1, c1, rfl⟩ := own_nil_len ho
    go_wp2
    go_ret
    exact ⟨_, rfl, nil_own _ _ Hp.out, hb⟩
  · obtain ⟨hall, hs, hal⟩ := sumG_cons (g := gP) h0
    have Hs : Hid (pB rs = foldG gP 0 (zerosB rs) rs) := hs
    have Hall := Lib.hid hall
    have Hf := Lib.hid (foldG_snoc gP (zerosB rs) rs)
    have Hl := Lib.hid (foldG_take_len gP_len hall)
    have hpos : 0 < (zerosB rs).length := by cases hz : zerosB rs with | nil => exact absurd hz h0 | cons a b => simp
    clear hall hs hal h0
    generalize zerosB rs = zs at C Hs Hall Hf Hl hpos
    go_enter Tryz.func87, Tryz.ntmps87
    go_wp2_with fail
    refine C.out.mono ?_
    rintro e w1 ⟨v, rfl, ho, hb⟩
    obtain ⟨g, cap, rfl, hg, hg1, hcap, _, _⟩ := ho.pos hpos
    have hzl := ho.2
    have e0 : ((zs.length : Int) == 0) = false := by rw [beq_eq_false_iff_ne]; omega
    go_wp2
    go_loopw [15] (fun i wr => ∃ k : Nat, k ≤ rs.length ∧ i = .int .i64 k ∧ OwB 5 wr w.heap.size (.slice (some ⟨g, 0, none⟩) zs.length cap) (foldG gP 0 zs (rs.take k)) ∧ Below w.heap.size w wr) (fun i _ => rs.length - (intOf i).toNat)
    case atStart => exact ⟨0, Nat.zero_le _, rfl, ho, hb⟩
    case round =>
      obtain ⟨k, hk, rfl, hown, hbr⟩ := hrel
      have Hy := Lib.hid (Hl.out k)
      by_cases hlt : k < rs.length
      · obtain ⟨b, off, rfl, hbb, hc⟩ := hr.2 (by omega)
        obtain ⟨A', c', h1, h2⟩ := hc k hlt
        have Hsn := Lib.hid (Hf.out k hlt)
        have hln := Hall.out k hlt
        rw [hln] at h1
        have Hln := Lib.hid hln
        clear hln hc
        rw [← hbr.cell (p := ⟨b, off + k, none⟩) hbb] at h1
        generalize rs.getD k [] = row at h1 h2 Hsn Hln
        generalize foldG gP 0 zs (rs.take k) = y at hown Hsn Hy
        have hlen := h2.1
        go_wp2
        go_loopw [21] (fun i wr => ∃ j : Nat, j ≤ zs.length ∧ i = .int .i64 j ∧ OwB 5 wr w.heap.size (.slice (some ⟨g, 0, none⟩) zs.length cap) (xorTo y row j) ∧ Below w.heap.size w wr) (fun i _ => zs.length - (intOf i).toNat)
        case atStart => exact ⟨0, Nat.zero_le _, rfl, by rw [xorTo_zero]; exact hown, hbr⟩
        case round =>
          obtain ⟨j, hj, rfl, hown2, hbr2⟩ := hrel
          have hry : row.length = y.length := Hln.out.trans Hy.out.symm
          have Hry := Lib.hid hry
          clear hry
          by_cases hlt2 : j < zs.length
          · obtain ⟨b2, off2, rfl, hb2, hc2⟩ := h2.2 (by have := Hln.out; omega)
            have h3 := hc2 j (by have := Hln.out; omega)
            rw [← hbr2.cell (p := ⟨b2, off2 + j, none⟩) hb2] at h3
            obtain ⟨h4, h5⟩ := hown2.cell ((xorTo_len Hry.out (by have := Hy.out; omega)).trans Hy.out) j hlt2
            rw [xorTo_get Hry.out (by have := Hy.out; omega)] at h4
            have Hset := Lib.hid (hown2.set ((xorTo_len Hry.out (by have := Hy.out; omega)).trans Hy.out) j (y.getD j 0 ^^^ row.getD j 0)).1
            have Hx := Lib.hid (xorTo_succ Hry.out (show j < y.length by have := Hy.out; omega))
            have ex := xor_u8 (y.getD j 0) (row.getD j 0)
            have i0 : (0 : Int) ≤ (j : Int) := by omega
            have i1 : (j : Int) < (zs.length : Int) := by omega
            generalize row.getD j 0 = c at h3 Hset Hx ex
            generalize y.getD j 0 = d at h4 Hset Hx ex
            generalize d ^^^ c = dc at Hset Hx ex
            clear hc2
            go_wp2
            go_roundw
            case rel => exact ⟨j + 1, by omega, by go_num, by rw [← Hx.out]; exact Hset.out, hbr2.setCell (p := ⟨g, j, none⟩) hg _⟩
            case measure => simp [intOf]; omega
          · obtain rfl : j = zs.length := by omega
            have Hxa : Hid (xorTo y row zs.length = xorL y row) := by rw [← Hy.out]; exact xorTo_all Hry.out
            rw [Hxa.out] at hown2
            go_wp2
            go_roundw
            case rel => exact ⟨k + 1, by omega, by go_num, by rw [Hsn.out]; exact hown2, hbr2⟩
            case measure => simp [intOf]; omega
      · obtain rfl : k = rs.length := by omega
        have Hall2 : Hid (foldG gP 0 zs (rs.take rs.length) = pB rs) := by rw [List.take_length]; exact Hs.out.symm
        have Hyl := Lib.hid (show (pB rs).length = zs.length by rw [← Hall2.out]; exact Hy.out)
        rw [Hall2.out] at hown
        go_wp2
        go_ret
        exact ⟨_, rfl, hown, hbr⟩
end Go.Proofs.YtenkkdnepmoihaaGreatDoor
end
section
set_option maxRecDepth 20000
namespace Go.Proofs.YtenkkdnepmoihaaGreatDoor
open Go.RowKit

theorem OwB.drewI {e : TypeId} {w : World} {B : Nat} {v : Value} {bs : List UInt8} (h : OwB e w B v bs) : OwB e w.drew B v bs := h
theorem mul_u8 (x : UInt8) (f : Nat) (hf : f < 256) (w : World) : Calls Tryz.prog 118 #[.int .u8 (x.toNat : Int), .int .u8 (f : Int)] w fun e w' => e = .returned (.int .u8 ((mulU x f).toNat : Int)) ∧ w' = w := by
  rw [mulU_nat]
  exact mul_any x.toNat f x.toNat_lt hf w

set_option maxHeartbeats 800000 in
theorem q_any (A : Option Addr) (rs : List (List UInt8)) (n cp : Nat) (w : World) (hn : rs.length = n) (hr : RdR w w.heap.size A rs) :
    Calls Tryz.prog 88 #[.slice A n cp] w fun e w' => ∃ v, e = .returned v ∧ OwB 5 w' w.heap.size v (qB rs) ∧ Below w.heap.size w w' := by
  have C := Lib.hid (zeros_any A rs n cp w hn hr)
  subst hn
  have hm := hr.1
  by_cases h0 : zerosB rs = []
  · have Hp : Hid (qB rs = []) := sumG_nil gQ_len h0
    rw [h0] at C
    clear h0
    go_enter Tryz.func88, Tryz.ntmps88
    go_wp2_with fail
    refine C.out.mono ?_
    rintro e w1 ⟨v, rfl, ho, hb⟩
    obtain ⟨A1, c1, rfl⟩ := own_nil_len ho
    go_wp2
    go_ret
    exact ⟨_, rfl, nil_own _ _ Hp.out, hb⟩
  · obtain ⟨hall, hs, hal⟩ := sumG_cons (g := gQ) h0
    have Hs : Hid (qB rs = foldG gQ 0 (zerosB rs) rs) := hs
    have Hall := Lib.hid hall
    have Hf := Lib.hid (foldG_snoc gQ (zerosB rs) rs)
    have Hl := Lib.hid (foldG_take_len gQ_len hall)
    have hpos : 0 < (zerosB rs).length := by cases hz : zerosB rs with | nil => exact absurd hz h0 | cons a b => simp
    clear hall hs hal h0
    generalize zerosB rs = zs at C Hs Hall Hf Hl hpos
    go_enter Tryz.func88, Tryz.ntmps88
    go_wp2_with fail
    refine C.out.mono ?_
    rintro e w1 ⟨v, rfl, ho, hb⟩
    obtain ⟨g, cap, rfl, hg, hg1, hcap, _, _⟩ := ho.pos hpos
    have hzl := ho.2
    have e0 : ((zs.length : Int) == 0) = false := by rw [beq_eq_false_iff_ne]; omega
    go_wp2
    go_loopw [16] (fun i wr => ∃ k : Nat, k ≤ rs.length ∧ i = .int .i64 k ∧ OwB 5 wr w.heap.size (.slice (some ⟨g, 0, none⟩) zs.length cap) (foldG gQ 0 zs (rs.take k)) ∧ Below w.heap.size w wr) (fun i _ => rs.length - (intOf i).toNat)
    case atStart => exact ⟨0, Nat.zero_le _, rfl, ho, hb⟩
    case round =>
      obtain ⟨k, hk, rfl, hown, hbr⟩ := hrel
      have Hy := Lib.hid (Hl.out k)
      by_cases hlt : k < rs.length
      · obtain ⟨b, off, rfl, hbb, hc⟩ := hr.2 (by omega)
        obtain ⟨A', c', h1, h2⟩ := hc k hlt
        have hln := Hall.out k hlt
        rw [hln] at h1
        have Hln := Lib.hid hln
        have Hsn := Lib.hid (show foldG gQ 0 zs (rs.take (k + 1)) = xorL (foldG gQ 0 zs (rs.take k)) (scaleL (rs.getD k []) (gpow (k : Int))) from Hf.out k hlt)
        clear hln hc
        rw [← hbr.cell (p := ⟨b, off + k, none⟩) hbb] at h1
        generalize rs.getD k [] = row at h1 h2 Hsn Hln
        generalize foldG gQ 0 zs (rs.take k) = y at hown Hsn Hy
        have hlen := h2.1
        have CP := Lib.hid (fun W => pow_any (k : Int) (by omega) W)
        have hfp := gpow_lt (k : Int)
        generalize gpow (k : Int) = f at CP Hsn hfp
        go_wp2_with fail
        refine (CP.out _).mono ?_
        rintro e w2 ⟨rfl, rfl⟩
        go_wp2
        go_loopw [25] (fun i wr => ∃ j : Nat, j ≤ zs.length ∧ i = .int .i64 j ∧ OwB 5 wr w.heap.size (.slice (some ⟨g, 0, none⟩) zs.length cap) (xorTo y (scaleL row f) j) ∧ Below w.heap.size w wr) (fun i _ => zs.length - (intOf i).toNat)
        case atStart => exact ⟨0, Nat.zero_le _, rfl, by rw [xorTo_zero]; exact hown, hbr⟩
        case round =>
          obtain ⟨j, hj, rfl, hown2, hbr2⟩ := hrel
          have Hry := Lib.hid (show (scaleL row f).length = y.length from (scaleL_len _ _).trans (Hln.out.trans Hy.out.symm))
          by_cases hlt2 : j < zs.length
          · obtain ⟨b2, off2, rfl, hb2, hc2⟩ := h2.2 (by have := Hln.out; omega)
            have h3 := hc2 j (by have := Hln.out; omega)
            rw [← hbr2.cell (p := ⟨b2, off2 + j, none⟩) hb2] at h3
            have hown3 := hown2.drewI
            have hbr3 := hbr2.drew
            obtain ⟨h4, h5⟩ := hown3.cell ((xorTo_len Hry.out (by have := Hy.out; omega)).trans Hy.out) j hlt2
            rw [xorTo_get Hry.out (by have := Hy.out; omega)] at h4
            have Hset := Lib.hid (hown3.set ((xorTo_len Hry.out (by have := Hy.out; omega)).trans Hy.out) j (y.getD j 0 ^^^ (scaleL row f).getD j 0)).1
            have Hx := Lib.hid (xorTo_succ Hry.out (show j < y.length by have := Hy.out; omega))
            rw [scaleL_get] at Hset Hx
            have i0 : (0 : Int) ≤ (j : Int) := by omega
            have i1 : (j : Int) < (zs.length : Int) := by omega
            generalize row.getD j 0 = c at h3 Hset Hx
            have CM := Lib.hid (fun W => mul_u8 c f hfp W)
            generalize mulU c f = m at CM Hset Hx
            have ex := xor_u8 (y.getD j 0) m
            generalize y.getD j 0 = d at h4 Hset Hx ex
            generalize d ^^^ m = dc at Hset Hx ex
            clear hc2
            go_wp2_with fail
            refine wp_region_still_tail 9 (by kernel_rfl) (by kernel_rfl) ?_
            simp only [List.take_succ_cons, List.take_zero, List.drop_succ_cons, List.drop_zero]
            change wpStill _ _ wr.drew _ _ _
            generalize hwd : wr.drew = wd at h4 h5 Hset hbr3 hown3 ⊢
            have Hwd := Lib.hid hwd
            clear hwd
            repeat (first | still_step | (still_call (CM.out _)))
            refine wpStill_nil ?_
            change wpList _ _ _ _ _ wr.drew
            rw [Hwd.out]
            go_wp2
            go_roundw
            case rel => exact ⟨j + 1, by omega, by go_num, by rw [← Hx.out]; exact Hset.out, hbr3.setCell (p := ⟨g, j, none⟩) hg _⟩
            case measure => simp [intOf]; omega
          · obtain rfl : j = zs.length := by omega
            have Hxa := Lib.hid (show xorTo y (scaleL row f) zs.length = xorL y (scaleL row f) by rw [← Hy.out]; exact xorTo_all Hry.out)
            rw [Hxa.out] at hown2
            go_wp2
            go_roundw
            case rel => exact ⟨k + 1, by omega, by go_num, by rw [Hsn.out]; exact hown2, hbr2⟩
            case measure => simp [intOf]; omega
      · obtain rfl : k = rs.length := by omega
        have Hall2 := Lib.hid (show foldG gQ 0 zs (rs.take rs.length) = qB rs by rw [List.take_length]; exact Hs.out.symm)
        rw [Hall2.out] at hown
        go_wp2
        go_ret
        exact ⟨_, rfl, hown, hbr⟩

theorem add_any (A A' : Option Addr) (a b : List UInt8) (n n' c c' B : Nat) (w : World) (hn : n = a.length) (hn' : n' = b.length) (hr : RdB w B A a) (hr' : RdB w B A' b) (hB : B ≤ w.heap.size) :
    Calls Tryz.prog 142 #[.slice A n c, .slice A' n' c'] w fun e w' => ∃ v, e = .returned v ∧ OwB 5 w' w.heap.size v (pB [a, b]) ∧ Below w.heap.size w w' := by
  subst hn hn'
  have C := Lib.hid (p_any (some ⟨w.heap.size, 0, none⟩) [a, b] 2 2 (w.alloc (.cells #[.slice A a.length c, .slice A' b.length c'] 35)) rfl (by have := rdr_two (c := c) (c' := c') (t := 35) hr hr' hB; exact this.more (by simp)))
  go_enter Tryz.func142, Tryz.ntmps142
  go_wp2_with fail
  refine C.out.mono ?_
  rintro e w1 ⟨v, rfl, ho, hb⟩
  go_wp2
  go_ret
  exact ⟨v, rfl, ho.le (by simp), (below1 w _).trans (hb.mono (by simp))⟩

/-- a times f, its first j bytes so far. -/
def scTo (a : List UInt8) (f j : Nat) : List UInt8 := scaleL (a.take j) f ++ zeroL (a.length - j)
theorem scTo_len (a : List UInt8) (f : Nat) {j : Nat} (hj : j ≤ a.length) : (scTo a f j).length = a.length := by
  simp [scTo, scaleL_len, zeroL_len]; omega
theorem scTo_zero (a : List UInt8) (f : Nat) : scTo a f 0 = List.replicate a.length 0 := by simp [scTo, scaleL, zeroL]
theorem scTo_all (a : List UInt8) (f : Nat) : scTo a f a.length = scaleL a f := by simp [scTo, zeroL]
theorem scTo_succ (a : List UInt8) (f : Nat) {j : Nat} (hj : j < a.length) : (scTo a f j).set j (mulU (a.getD j 0) f) = scTo a f (j + 1) := by
  have hl : (scaleL (a.take j) f).length = j := by rw [scaleL_len]; simp; omega
  unfold scTo
  rw [List.set_append_right _ _ (by omega), hl, Nat.sub_self]
  rw [show a.length - j = (a.length - (j + 1)) + 1 from by omega]
  unfold zeroL
  rw [List.replicate_succ, List.set_cons_zero, List.take_succ_eq_append_getElem hj]
  unfold scaleL
  rw [List.map_append, List.append_assoc]
  simp [hj]
set_option maxHeartbeats 400000 in
theorem scale_any (A : Option Addr) (a : List UInt8) (n c f : Nat) (w : World) (hn : n = a.length) (hf : f < 256) (hr : RdB w w.heap.size A a) :
    Calls Tryz.prog 143 #[.slice A n c, .int .u8 (f : Int)] w fun e w' => ∃ v, e = .returned v ∧ OwB 5 w' w.heap.size v (scaleL a f) ∧ Below w.heap.size w w' := by
  subst hn
  have hm := hr.1
  have km := make_bytes a.length hm
  have own0 := own_make 5 w a.length hm
  rw [← scTo_zero a f] at own0
  go_enter Tryz.func143, Tryz.ntmps143
  go_wp2
  go_loopw [13] (fun i wr => ∃ j : Nat, j ≤ a.length ∧ i = .int .i64 j ∧ OwB 5 wr w.heap.size (.slice (some ⟨w.heap.size, 0, none⟩) a.length a.length) (scTo a f j) ∧ Below w.heap.size w wr) (fun i _ => a.length - (intOf i).toNat)
  case atStart => exact ⟨0, Nat.zero_le _, rfl, own0, below1 _ _⟩
  case round =>
    obtain ⟨j, hj, rfl, hown, hbr⟩ := hrel
    by_cases hlt : j < a.length
    · obtain ⟨b2, off2, rfl, hb2, hc2⟩ := hr.2 (by omega)
      have h3 := hc2 j hlt
      rw [← hbr.cell (p := ⟨b2, off2 + j, none⟩) hb2] at h3
      obtain ⟨h4, h5⟩ := hown.cell (scTo_len a f (by omega)) j hlt
      have Hset := Lib.hid (hown.set (scTo_len a f (by omega)) j (mulU (a.getD j 0) f)).1
      rw [scTo_succ a f hlt] at Hset
      have i0 : (0 : Int) ≤ (j : Int) := by omega
      have i1 : (j : Int) < (a.length : Int) := by omega
      have CM := Lib.hid (fun W => mul_u8 (a.getD j 0) f hf W)
      generalize mulU (a.getD j 0) f = m at CM Hset
      generalize a.getD j 0 = x at h3 CM
      generalize (scTo a f j).getD j 0 = d at h4
      clear hc2
      go_wp2_with fail
      refine (CM.out _).mono ?_
      rintro e w2 ⟨rfl, rfl⟩
      go_wp2
      go_roundw
      case rel => exact ⟨j + 1, by omega, by go_num, Hset.out, hbr.setCell (p := ⟨w.heap.size, j, none⟩) (Nat.le_refl _) _⟩
      case measure => simp [intOf]; omega
    · obtain rfl : j = a.length := by omega
      rw [scTo_all] at hown
      go_wp2
      go_ret
      exact ⟨_, rfl, hown, hbr⟩
end Go.Proofs.YtenkkdnepmoihaaGreatDoor
end
section
namespace Go.Proofs.YtenkkdnepmoihaaGreatDoor
open Go.RowKit

theorem zeroCells_u8 (n : Nat) : (Builtin.zeroCells (Value.int .u8 0).cells n).toList = List.replicate n (.int .u8 0) := by
  rw [← toList_madeCells_one]
  rw [show Builtin.zeroCells (Value.int .u8 0).cells n = madeCells #[.int .u8 0] (n * 1) from rfl, Nat.mul_one]
theorem zeroCells_size (n : Nat) : (Builtin.zeroCells (Value.int .u8 0).cells n).size = n := by
  rw [← Array.length_toList, zeroCells_u8, List.length_replicate]
section
variable {P : Program} (w : World)
end
end Go.Proofs.YtenkkdnepmoihaaGreatDoor
end
section
namespace Go.Proofs.YtenkkdnepmoihaaGreatDoor
open Go.ChangeShapes Go.WideShapes Go.ChangeAt Go.RowKit

section
variable {H : Type} {enc : TypeId × Value → H} {P : Program}
end

/-- A block of bytes that a literal made. -/
theorem rdb_lit {w : World} {g : Nat} {cs : Array Value} {t : TypeId} {f : Nat × Nat} {bs : List UInt8} (hg : w.heap[g]? = some (.cells cs t f)) (hl : bs.length ≤ 140737488355328) (hcs : cs.toList = bs.map bv) : RdB w w.heap.size (some ⟨g, 0, none⟩) bs :=
  rdb_block hg (Array.getElem?_eq_some_iff.1 hg).1 hl fun k hk => by
    rw [← Array.getElem?_toList, hcs, List.getElem?_map, List.getElem?_eq_getElem hk, List.getD_eq_getElem?_getD, List.getElem?_eq_getElem hk]
    rfl
end Go.Proofs.YtenkkdnepmoihaaGreatDoor
end
section
namespace Go.Proofs.YtenkkdnepmoihaaGreatDoor
open Go.RowKit

theorem info_row : (Tryz.prog.info? 35).map (fun i => (i.zero, i.size, i.bytes)) = some (some (.slice none 0 0), 1, 24) := by kernel_rfl
theorem OwB.addr_ob {e : TypeId} {w : World} {B : Nat} {A : Option Addr} {n c : Nat} {bs : List UInt8} (h : OwB e w B (.slice A n c) bs) (hp : 0 < bs.length) : ∀ a, A = some a → B ≤ a.block := fun a ha => by
  obtain ⟨g, cap, hv, hB, _⟩ := h.pos hp
  injection hv with h1 _ _
  rw [ha] at h1
  injection h1 with h1
  subst h1
  exact hB
end Go.Proofs.YtenkkdnepmoihaaGreatDoor
end
