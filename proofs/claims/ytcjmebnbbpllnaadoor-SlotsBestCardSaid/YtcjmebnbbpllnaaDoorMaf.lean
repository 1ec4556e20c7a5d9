/- Texts put together: Within, BchQ, GeoMath, CrcMath, CrcFind, SupMath, SlotMath. -/
import Derived.Test.YtcjmebnbbpllnaaDoorMac
import Derived.Test.YtcjmebnbbpllnaaDoorMae
import Derived.WalkKit
import Derived.Test.YtcjmebnbbpllnaaDoorMad
section
namespace Go.Proofs.YtcjmebnbbpllnaaDoor
open Go.RowKit

/-- Up to a length. -/
theorem within_upto (v : Int) (n : Nat) (hn : n ≤ 9223372036854775807) : 0 ≤ withinI v (IntKind.i64.wrap ((n : Int) + 1)) ∧ withinI v (IntKind.i64.wrap ((n : Int) + 1)) ≤ (n : Int) := by
  by_cases h : n ≤ 9223372036854775806
  · rw [show IntKind.i64.wrap ((n : Int) + 1) = (n : Int) + 1 by rw [IntKind.wrap_i64]; omega]
    have := withinI_bd v ((n : Int) + 1) (by omega)
    omega
  · obtain rfl : n = 9223372036854775807 := by omega
    have : withinI v (IntKind.i64.wrap (((9223372036854775807 : Nat) : Int) + 1)) = 0 := by
      unfold withinI; rw [if_pos (by rw [IntKind.wrap_i64]; omega)]
    omega
end Go.Proofs.YtcjmebnbbpllnaaDoor
end
section
set_option maxRecDepth 8000
namespace Go.Proofs.YtcjmebnbbpllnaaDoor
open Go.RowKit

/-- The bench N, made since W. -/
structure BP (W w : World) (b : Nat) (H : BH) (N : Bch) : Prop where
  at' : BAt w W.heap.size b H N
  bel : Below W.heap.size W w
/-- New memory alone came to the blocks of a bench. -/
def BNew (w : World) (b : Nat) (H H' : BH) (n : Nat) : Prop := ∀ k, BF b H' n k → BF b H n k ∨ w.heap.size ≤ k
section
variable {W w w' : World} {b : Nat} {H : BH} {N : Bch}
theorem BP.to (h : BP W w b H N) {N' : Bch} (ht : BTo w w' W.heap.size b H N.n N') : ∃ H', BP W w' b H' N' ∧ Chg (BF b H N.n) w w' ∧ BNew w b H H' N.n := by
  obtain ⟨H', a, c, _, m⟩ := ht
  exact ⟨H', ⟨a, h.bel.trans (c.below (fun k hk => (h.at'.flt hk).1) h.bel.size)⟩, c, m⟩
theorem BP.grow (h : BP W w b H N) (hb : Below w.heap.size w w') : BP W w' b H N := ⟨h.at'.below hb, h.bel.trans (hb.mono h.bel.size)⟩
theorem BP.drew (h : BP W w b H N) : BP W w.drew b H N := h.grow (Below.refl _ _).drew
theorem BP.alloc (h : BP W w b H N) (o : Obj) : BP W (w.alloc o) b H N := h.grow (below1 w o)
theorem BP.chg {F : Nat → Prop} (h : BP W w b H N) (hc : Chg F w w') (hF : ∀ k, F k → W.heap.size ≤ k) (hn : ∀ k, BF b H N.n k → ¬ F k) : BP W w' b H N :=
  ⟨h.at'.chg hc hn, h.bel.trans (hc.below hF h.bel.size)⟩
end
/-- What came of a call: the bench, what was written, what came to it. -/
def BC (W w w' : World) (b : Nat) (H : BH) (n : Nat) (N' : Bch) : Prop := ∃ H', BP W w' b H' N' ∧ Chg (BF b H n) w w' ∧ BNew w b H H' n
theorem bp_new (n : Nat) (W w : World) (hb : Below W.heap.size W w) (hn : 1 ≤ n ∧ n ≤ 8) : Calls Tryd.prog 7 #[.int .i64 (n : Int)] w fun e w' => ∃ b H, e = .returned (.tuple #[ptr b, .int .i64 0]) ∧ BP W w' b H (Bch.new n) ∧ Below w.heap.size w w' ∧ ∀ k, BF b H n k → w.heap.size ≤ k := by
  refine (bch_new_ok n w hn).mono ?_
  rintro e w' ⟨b, H, rfl, a, hb'⟩
  exact ⟨b, H, rfl, ⟨a.mono hb.size, hb.trans (hb'.mono hb.size)⟩, hb', fun k hk => (a.flt hk).1⟩
section
variable (W w : World) (b : Nat) (H : BH) (N : Bch) (h : BP W w b H N)
include h
theorem bp_len : Calls Tryd.prog 36 #[.pointer (some ⟨b, 0, none⟩)] w fun e w' => e = .returned (.int .i64 (N.n : Int)) ∧ w' = w := bch_len_any _ _ _ _ _ h.at'
theorem bp_writes : Calls Tryd.prog 15 #[.pointer (some ⟨b, 0, none⟩)] w fun e w' => e = .returned (.int .i64 (N.done : Int)) ∧ w' = w := bch_writes_any _ _ _ _ _ h.at'
theorem bp_pending (hps : ∀ i, i < N.n → (N.D i).ps.length ≤ 2000000) : Calls Tryd.prog 25 #[.pointer (some ⟨b, 0, none⟩)] w fun e w' => e = .returned (.int .i64 (N.pend : Int)) ∧ Below w.heap.size w w' := bch_pending_any _ _ _ _ _ h.at' hps
theorem bp_pending_eq (hps : ∀ i, i < N.n → (N.D i).ps.length ≤ 2000000) : Calls Tryd.prog 25 #[.pointer (some ⟨b, 0, none⟩)] w fun e w' => e = .returned (.int .i64 (N.pend : Int)) ∧ w' = w := bch_pending_eq _ _ _ _ _ h.at' hps
theorem bp_failed (d : Int) (hd : i64B d) : Calls Tryd.prog 22 #[.pointer (some ⟨b, 0, none⟩), .int .i64 d] w fun e w' => e = .returned (.bool (N.failed d)) ∧ w' = w := bch_failed_any _ _ _ _ _ h.at' d hd
theorem bp_read (d k : Int) (hd : i64B d) (hk : i64B k) : Calls Tryd.prog 21 #[.pointer (some ⟨b, 0, none⟩), .int .i64 d, .int .i64 k] w fun e w' => ∃ v, e = .returned (.tuple #[v, .int .i64 (N.readE d k)]) ∧ OwB 5 w' w.heap.size v (N.read d k) ∧ Below w.heap.size w w' := bch_read_any _ _ _ _ _ h.at' d k hd hk
theorem bp_limit (v : Int) (hv : i64B v) : Calls Tryd.prog 17 #[.pointer (some ⟨b, 0, none⟩), .int .i64 v] w fun e w' => e = .returned (.tuple #[]) ∧ BC W w w' b H N.n (N.limit v) := by
  refine (bch_limit_any _ _ _ _ _ h.at' v hv).mono ?_
  rintro e w' ⟨rfl, ht⟩
  exact ⟨rfl, h.to ht⟩
theorem bp_write (d k : Int) (x : List UInt8) (A : Option Addr) (n c : Nat) (hn : n = x.length) (hd : i64B d) (hk : i64B k) (hr : RdB w w.heap.size A x) (hps : ∀ i, i < N.n → (N.D i).ps.length ≤ 2000000) (hdn : N.done ≤ 2000000) :
    Calls Tryd.prog 18 #[.pointer (some ⟨b, 0, none⟩), .int .i64 d, .int .i64 k, .slice A n c] w fun e w' => e = .returned (.int .i64 (N.writeE d k n)) ∧ BC W w w' b H N.n (N.write d k x) := by
  refine (bch_write_any _ _ _ _ _ h.at' d k x A n c hn hd hk hr hps hdn).mono ?_
  rintro e w' ⟨rfl, ht⟩
  exact ⟨rfl, h.to ht⟩
theorem bp_flush (d : Int) (hd : i64B d) : Calls Tryd.prog 34 #[.pointer (some ⟨b, 0, none⟩), .int .i64 d] w fun e w' => e = .returned (.int .i64 (N.flushE d)) ∧ BC W w w' b H N.n (N.flush d) := by
  refine (bch_flush_any _ _ _ _ _ h.at' d hd).mono ?_
  rintro e w' ⟨rfl, ht⟩
  exact ⟨rfl, h.to ht⟩
theorem bp_fail (d : Int) (hd : i64B d) : Calls Tryd.prog 16 #[.pointer (some ⟨b, 0, none⟩), .int .i64 d] w fun e w' => e = .returned (.int .i64 (N.pickE d)) ∧ BC W w w' b H N.n (N.fail d) := by
  refine (bch_fail_any _ _ _ _ _ h.at' d hd).mono ?_
  rintro e w' ⟨rfl, ht⟩
  exact ⟨rfl, h.to ht⟩
theorem bp_replace (d : Int) (hd : i64B d) : Calls Tryd.prog 24 #[.pointer (some ⟨b, 0, none⟩), .int .i64 d] w fun e w' => e = .returned (.int .i64 (N.replaceE d)) ∧ BC W w w' b H N.n (N.replace d) := by
  refine (bch_replace_any _ _ _ _ _ h.at' d hd).mono ?_
  rintro e w' ⟨rfl, ht⟩
  exact ⟨rfl, h.to ht⟩
end
theorem ptr_ne (b : Nat) (w : World) : (binOp .neq 22 (.pointer (some ⟨b, 0, none⟩)) (.pointer none)).run Tryd.prog w = .ok (.bool true) w := rfl
theorem ptr_eq (b : Nat) (w : World) : (binOp .eql 22 (.pointer (some ⟨b, 0, none⟩)) (.pointer none)).run Tryd.prog w = .ok (.bool false) w := rfl
theorem i64n {n : Nat} (h : n ≤ 2000000) : i64B (n : Int) := ⟨by omega, by omega⟩
namespace Bch
/-- A write that is done. -/
theorem write_ok {N : Bch} {d k : Nat} {x : List UInt8} (hd : d < N.n) (hk : k < 52) (hx : x.length = 32) (hf : (N.D d).f = false) (hdn : N.down = false) (hl : N.left ≠ 0) :
    N.writeE (d : Int) (k : Int) x.length = 0 ∧ N.write (d : Int) (k : Int) x = (N.set d ((N.D d).write k x)).count := by
  have hp : N.powE (d : Int) = 0 := powE_ok (pickE_ok (by omega) (by omega)) hdn
  have ht : takeE (N.at_ (d : Int)).f (k : Int) x.length = 0 := by
    rw [hx, show (N.at_ (d : Int)).f = false from hf]; exact takeE_ok (by omega) (by omega)
  constructor
  · unfold writeE countE
    rw [if_neg (show ¬ N.powE (d : Int) ≠ 0 by simp [hp]), if_neg (fun e => e ht), if_neg hl]
  · unfold write
    rw [if_neg (show ¬ N.powE (d : Int) ≠ 0 by simp [hp]), if_neg (fun e => e ht), if_neg hl]
    rfl
theorem count_free {N : Bch} (h : N.left = -1) : N.count = { N with done := N.done + 1 } := by
  unfold count
  rw [if_neg (by omega), if_pos h]
  cases N
  simp only at h
  subst h
  rfl
theorem read_ok {N : Bch} {d k : Nat} (hd : d < N.n) (hk : k < 52) (hf : (N.D d).f = false) (hdn : N.down = false) : N.readE (d : Int) (k : Int) = 0 ∧ N.read (d : Int) (k : Int) = secAt (N.D d).now k := by
  have hp : N.powE (d : Int) = 0 := powE_ok (pickE_ok (by omega) (by omega)) hdn
  have he : N.readE (d : Int) (k : Int) = 0 := by
    unfold readE
    rw [if_neg (show ¬ N.powE (d : Int) ≠ 0 by simp [hp]), show (N.at_ (d : Int)).f = false from hf]
    exact reachE_ok (by omega) (by omega)
  refine ⟨he, ?_⟩
  unfold read
  rw [if_neg (fun e => e he)]
  rfl
end Bch
end Go.Proofs.YtcjmebnbbpllnaaDoor
end
section
namespace Go.Proofs.YtcjmebnbbpllnaaDoor

/-- A geometry (level, disks, chunk) that may be. -/
def lvB (l d : Int) : Bool := decide (((l = 5 ∧ 3 ≤ d) ∨ (l = 6 ∧ 4 ≤ d)) ∧ d ≤ 8)
def chB (c : Int) : Bool := decide (c = 1 ∨ c = 2 ∨ c = 4)
def gOk (l d c : Int) : Bool := lvB l d && chB c
def gBud (l d c : Int) : Int := if gOk l d c = true then l - 4 else 0
def gWid (l d c : Int) : Int := if gOk l d c = true then d - (l - 4) else 0
def gCap (l d c : Int) : Int := gWid l d c * 16
def gEq (l d c l' d' c' : Int) : Bool := decide (l = l' ∧ d = d' ∧ c = c')
def gGe (l d c l' d' c' : Int) : Bool := decide (d ≤ d' ∧ l ≤ l' ∧ gWid l d c ≤ gWid l' d' c')
def gCan (l d c l' d' c' : Int) : Bool := gOk l d c && gOk l' d' c' && !gEq l d c l' d' c' && gGe l d c l' d' c'

def gErr (l d c : Int) : Int := if gOk l d c = true then 0 else 1
theorem gErr_yes {l d c : Int} (h : gOk l d c = true) : gErr l d c = 0 := if_pos h
theorem gErr_no {l d c : Int} (h : gOk l d c = false) : gErr l d c = 1 := if_neg (by rw [h]; decide)
theorem lvB_no {l d : Int} (h : ¬ (((l = 5 ∧ 3 ≤ d) ∨ (l = 6 ∧ 4 ≤ d)) ∧ d ≤ 8)) : lvB l d = false := decide_eq_false h
theorem lvB_5 {d : Int} (h : ¬ 8 < d) : lvB 5 d = decide (3 ≤ d) := by simp [lvB]; omega
theorem lvB_6 {d : Int} (h : ¬ 8 < d) : lvB 6 d = decide (4 ≤ d) := by simp [lvB]; omega
theorem chB_no {c : Int} (h : ¬ (c = 1 ∨ c = 2 ∨ c = 4)) : chB c = false := decide_eq_false h
theorem chB_yes {c : Int} (h : c = 1 ∨ c = 2 ∨ c = 4) : chB c = true := decide_eq_true h
theorem gGe_eq (l d c l' d' c' : Int) : gGe l d c l' d' c' = decide (d ≤ d' ∧ l ≤ l' ∧ gWid l d c ≤ gWid l' d' c') := rfl
theorem gOk_yes {l d c : Int} (h : gOk l d c = true) : ((l = 5 ∧ 3 ≤ d) ∨ (l = 6 ∧ 4 ≤ d)) ∧ d ≤ 8 ∧ (c = 1 ∨ c = 2 ∨ c = 4) := by
  simp [gOk, lvB, chB] at h
  omega
theorem gOk_mk {l d c : Int} (h : ((l = 5 ∧ 3 ≤ d) ∨ (l = 6 ∧ 4 ≤ d)) ∧ d ≤ 8 ∧ (c = 1 ∨ c = 2 ∨ c = 4)) : gOk l d c = true := by
  simp [gOk, lvB, chB]
  omega
theorem gOk_no {l d c : Int} (h : ¬ (((l = 5 ∧ 3 ≤ d) ∨ (l = 6 ∧ 4 ≤ d)) ∧ d ≤ 8 ∧ (c = 1 ∨ c = 2 ∨ c = 4))) : gOk l d c = false := by
  rw [← Bool.not_eq_true]; intro h'; exact h (gOk_yes h')
theorem gOk_bd {l d c : Int} (h : gOk l d c = true) : 5 ≤ l ∧ l ≤ 6 ∧ 3 ≤ d ∧ d ≤ 8 ∧ 1 ≤ c ∧ c ≤ 4 := by
  have := gOk_yes h
  omega
theorem gBud_yes {l d c : Int} (h : gOk l d c = true) : gBud l d c = l - 4 := if_pos h
theorem gBud_no {l d c : Int} (h : gOk l d c = false) : gBud l d c = 0 := if_neg (by rw [h]; decide)
theorem gWid_yes {l d c : Int} (h : gOk l d c = true) : gWid l d c = d - (l - 4) := if_pos h
theorem gWid_no {l d c : Int} (h : gOk l d c = false) : gWid l d c = 0 := if_neg (by rw [h]; decide)
theorem gBud_bd (l d c : Int) : 0 ≤ gBud l d c ∧ gBud l d c ≤ 2 := by
  cases h : gOk l d c
  · rw [gBud_no h]; omega
  · have := gOk_bd h; rw [gBud_yes h]; omega
theorem gWid_bd (l d c : Int) : 0 ≤ gWid l d c ∧ gWid l d c ≤ 7 := by
  cases h : gOk l d c
  · rw [gWid_no h]; omega
  · have := gOk_yes h; rw [gWid_yes h]; omega
theorem gEq_yes {l d c l' d' c' : Int} (h : gEq l d c l' d' c' = true) : l = l' ∧ d = d' ∧ c = c' := by simpa [gEq] using h
theorem gEq_no {l d c l' d' c' : Int} (h : gEq l d c l' d' c' = false) : ¬ (l = l' ∧ d = d' ∧ c = c') := by simpa [gEq] using h
theorem gEq_refl (l d c : Int) : gEq l d c l d c = true := by simp [gEq]
theorem gCan_parts {l d c l' d' c' : Int} (h : gCan l d c l' d' c' = true) : gOk l d c = true ∧ gOk l' d' c' = true ∧ gEq l d c l' d' c' = false ∧ d ≤ d' ∧ l ≤ l' ∧ gWid l d c ≤ gWid l' d' c' := by
  simp [gCan, gGe] at h
  exact ⟨h.1.1.1, h.1.1.2, h.1.2, h.2.1, h.2.2.1, h.2.2.2⟩
theorem gCan_mk {l d c l' d' c' : Int} (h : gOk l d c = true ∧ gOk l' d' c' = true ∧ gEq l d c l' d' c' = false ∧ d ≤ d' ∧ l ≤ l' ∧ gWid l d c ≤ gWid l' d' c') : gCan l d c l' d' c' = true := by
  simp [gCan, gGe]
  exact ⟨⟨⟨h.1, h.2.1⟩, h.2.2.1⟩, h.2.2.2.1, h.2.2.2.2.1, h.2.2.2.2.2⟩
theorem gCan_ok {l d c l' d' c' : Int} (h : gOk l d c = true) (h' : gOk l' d' c' = true) (hn : gEq l d c l' d' c' = false) : gCan l d c l' d' c' = gGe l d c l' d' c' := by
  simp [gCan, h, h', hn]
end Go.Proofs.YtcjmebnbbpllnaaDoor
end
section
namespace Go.Proofs.YtcjmebnbbpllnaaDoor

def nibs : List Nat := [0, 274646895, 549293790, 820201905, 1098587580, 1361435347, 1640403810, 1905808397, 2197175160, 2460548119, 2722870694, 2987750089, 3280807620, 3553878443, 3811616794, 4084100981]
/-- Four digits taken out of a sum, by the table. -/
def half (x : Nat) : Nat := (x / 16) ^^^ nibs.getD (x % 16) 0
def stepB (x : Nat) (c : UInt8) : Nat := half (half (x ^^^ c.toNat))
def feedB (x : Nat) (bs : List UInt8) : Nat := bs.foldl stepB x
def feedR (x : Nat) (rs : List (List UInt8)) : Nat := rs.foldl feedB x
def sumR (rs : List (List UInt8)) : Nat := feedR 4294967295 rs ^^^ 4294967295

theorem nibs_lt (i : Nat) : nibs.getD i 0 < 4294967296 := by
  by_cases h : i < 16
  · exact (show ∀ i, i < 16 → nibs.getD i 0 < 4294967296 by decide) i h
  · rw [List.getD_eq_getElem?_getD, List.getElem?_eq_none (by simp [nibs]; omega)]; decide
theorem xor_lt32 {a b : Nat} (ha : a < 4294967296) (hb : b < 4294967296) : a ^^^ b < 4294967296 := Nat.xor_lt_two_pow (n := 32) ha hb
theorem half_lt {x : Nat} (h : x < 4294967296) : half x < 4294967296 := xor_lt32 (by omega) (nibs_lt _)
theorem stepB_lt {x : Nat} (c : UInt8) (h : x < 4294967296) : stepB x c < 4294967296 := half_lt (half_lt (xor_lt32 h (by have := c.toNat_lt; omega)))
theorem feedB_lt {x : Nat} (bs : List UInt8) (h : x < 4294967296) : feedB x bs < 4294967296 := by
  unfold feedB
  induction bs generalizing x with
  | nil => exact h
  | cons c r ih => exact ih (stepB_lt c h)
theorem feedR_lt {x : Nat} (rs : List (List UInt8)) (h : x < 4294967296) : feedR x rs < 4294967296 := by
  unfold feedR
  induction rs generalizing x with
  | nil => exact h
  | cons c r ih => exact ih (feedB_lt c h)
theorem foldl_snoc {α β : Type} (f : β → α → β) (x : β) (l : List α) (d : α) (j : Nat) (h : j < l.length) : (l.take (j + 1)).foldl f x = f ((l.take j).foldl f x) (l.getD j d) := by
  rw [List.take_succ_eq_append_getElem h, List.foldl_append]
  simp [h]
theorem feedB_snoc (x : Nat) (bs : List UInt8) (j : Nat) (h : j < bs.length) : feedB x (bs.take (j + 1)) = stepB (feedB x (bs.take j)) (bs.getD j 0) := foldl_snoc stepB x bs 0 j h
theorem feedR_snoc (x : Nat) (rs : List (List UInt8)) (j : Nat) (h : j < rs.length) : feedR x (rs.take (j + 1)) = feedB (feedR x (rs.take j)) (rs.getD j []) := foldl_snoc feedB x rs [] j h
theorem feedR_flat (x : Nat) (rs : List (List UInt8)) : feedR x rs = feedB x rs.flatten := by
  induction rs generalizing x with
  | nil => rfl
  | cons r rs ih => simp only [feedR, List.foldl_cons, List.flatten_cons]; rw [show feedB x (r ++ rs.flatten) = feedB (feedB x r) rs.flatten from List.foldl_append]; exact ih _
/-- Byte k of a sum, the greatest first. -/
def beB (x k : Nat) : UInt8 := UInt8.ofNat (x / 2 ^ (24 - 8 * k))
def be4 (x : Nat) : List UInt8 := [beB x 0, beB x 1, beB x 2, beB x 3]
/-- The first k bytes of a stamp set in a sector. -/
def stampK (bs : List UInt8) (x k : Nat) : List UInt8 := (List.range k).foldl (fun l i => l.set (28 + i) (beB x i)) bs
/-- A sector, stamped. -/
def stamped (bs : List UInt8) (rs : List (List UInt8)) : List UInt8 := bs.take 28 ++ be4 (sumR (bs.take 28 :: rs))
/-- Is it a sector with a right stamp? -/
def rightB (bs : List UInt8) (rs : List (List UInt8)) : Bool := decide (bs.length = 32) && decide (bs.drop 28 = be4 (sumR (bs.take 28 :: rs)))
theorem stampK_succ (bs : List UInt8) (x k : Nat) : stampK bs x (k + 1) = (stampK bs x k).set (28 + k) (beB x k) := by
  simp [stampK, List.range_succ, List.foldl_append]
theorem stampK_len (bs : List UInt8) (x k : Nat) : (stampK bs x k).length = bs.length := by
  induction k with
  | zero => rfl
  | succ k ih => rw [stampK_succ]; simp [ih]
theorem stampK_four (bs : List UInt8) (x : Nat) (h : bs.length = 32) : stampK bs x 4 = bs.take 28 ++ be4 x := by
  apply List.ext_getElem?
  intro i
  simp only [stampK, List.range_succ, List.range_zero, List.nil_append, List.cons_append, List.foldl_cons, List.foldl_nil, be4, Nat.add_zero]
  simp only [List.getElem?_set, List.length_set, h, List.getElem?_append, List.length_take]
  have hm : min 28 bs.length = 28 := by omega
  rw [h] at hm
  rw [hm]
  by_cases h1 : i < 28
  · rw [if_pos h1, if_neg (by omega), if_neg (by omega), if_neg (by omega), if_neg (by omega), List.getElem?_take, if_pos h1]
  · rw [if_neg h1]
    by_cases h2 : i = 28
    · subst h2; simp
    · by_cases h3 : i = 29
      · subst h3; simp
      · by_cases h4 : i = 30
        · subst h4; simp
        · by_cases h5 : i = 31
          · subst h5; simp
          · rw [if_neg (by omega), if_neg (by omega), if_neg (by omega), if_neg (by omega), List.getElem?_eq_none (by omega), List.getElem?_eq_none (by simp; omega)]
theorem stamped_len (bs : List UInt8) (rs : List (List UInt8)) (h : bs.length = 32) : (stamped bs rs).length = 32 := by simp [stamped, be4, h]
theorem sumR_lt (rs : List (List UInt8)) : sumR rs < 4294967296 := xor_lt32 (feedR_lt rs (by decide)) (by decide)
theorem sumR_cons (a : List UInt8) (rs : List (List UInt8)) : sumR (a :: rs) = feedR (feedR 4294967295 [a]) rs ^^^ 4294967295 := rfl
theorem be4_get (x k : Nat) (h : k < 4) : (be4 x).getD k 0 = beB x k := by
  match k, h with
  | 0, _ | 1, _ | 2, _ | 3, _ => rfl
theorem rightB_no {bs : List UInt8} {rs : List (List UInt8)} (k : Nat) (hk : k < 4) (h : bs.getD (28 + k) 0 ≠ beB (sumR (bs.take 28 :: rs)) k) : rightB bs rs = false := by
  unfold rightB
  have : ¬ bs.drop 28 = be4 (sumR (bs.take 28 :: rs)) := fun e => h (by
    rw [← be4_get _ k hk, ← e]
    simp)
  simp [this]
theorem rightB_yes {bs : List UInt8} {rs : List (List UInt8)} (hl : bs.length = 32) (h : ∀ k, k < 4 → bs.getD (28 + k) 0 = beB (sumR (bs.take 28 :: rs)) k) : rightB bs rs = true := by
  unfold rightB
  have : bs.drop 28 = be4 (sumR (bs.take 28 :: rs)) := by
    apply List.ext_getElem
    · simp [hl, be4]
    · intro i h1 h2
      have hi : i < 4 := by simpa [be4] using h2
      have h3 := h i hi
      rw [← be4_get _ i hi] at h3
      have h4 : 28 + i < bs.length := by omega
      simpa [h4, h2] using h3
  simp [this, hl]
end Go.Proofs.YtcjmebnbbpllnaaDoor
end
section
namespace Go.Proofs.YtcjmebnbbpllnaaDoor

theorem xor_cancel {a b c : Nat} (h : a ^^^ b = a ^^^ c) : b = c := by
  have : a ^^^ (a ^^^ b) = a ^^^ (a ^^^ c) := by rw [h]
  simpa [← Nat.xor_assoc] using this
theorem xor_cancel' {a b c : Nat} (h : b ^^^ a = c ^^^ a) : b = c := xor_cancel (a := a) (by rw [Nat.xor_comm a b, Nat.xor_comm a c]; exact h)
theorem xor_div (a b i : Nat) : (a ^^^ b) / 2 ^ i = a / 2 ^ i ^^^ b / 2 ^ i := by
  rw [← Nat.shiftRight_eq_div_pow, ← Nat.shiftRight_eq_div_pow, ← Nat.shiftRight_eq_div_pow, Nat.shiftRight_xor_distrib]
theorem half_top {x : Nat} (h : x < 4294967296) : half x / 2 ^ 28 = x % 16 := by
  unfold half
  rw [xor_div]
  have h1 : x / 16 / 2 ^ 28 = 0 := by omega
  rw [h1, Nat.zero_xor]
  exact (show ∀ i, i < 16 → nibs.getD i 0 / 2 ^ 28 = i by decide) (x % 16) (by omega)
theorem half_inj {x y : Nat} (hx : x < 4294967296) (hy : y < 4294967296) (h : half x = half y) : x = y := by
  have h1 : x % 16 = y % 16 := by rw [← half_top hx, ← half_top hy, h]
  have h2 : x / 16 = y / 16 := by
    unfold half at h
    rw [h1] at h
    exact xor_cancel' h
  omega
theorem c_lt (c : UInt8) : c.toNat < 4294967296 := by have := c.toNat_lt; omega
theorem stepB_inj {x y : Nat} (c d : UInt8) (hx : x < 4294967296) (hy : y < 4294967296) (h : stepB x c = stepB y d) : x ^^^ c.toNat = y ^^^ d.toNat :=
  half_inj (xor_lt32 hx (c_lt c)) (xor_lt32 hy (c_lt d)) (half_inj (half_lt (xor_lt32 hx (c_lt c))) (half_lt (xor_lt32 hy (c_lt d))) h)
theorem feedB_inj {x y : Nat} (bs : List UInt8) (hx : x < 4294967296) (hy : y < 4294967296) (h : feedB x bs = feedB y bs) : x = y := by
  induction bs generalizing x y with
  | nil => exact h
  | cons c r ih => exact xor_cancel' (stepB_inj c c hx hy (ih (stepB_lt c hx) (stepB_lt c hy) h))
theorem feedB_app (x : Nat) (a b : List UInt8) : feedB x (a ++ b) = feedB (feedB x a) b := List.foldl_append
theorem feedB_one {x : Nat} (a b : List UInt8) (c d : UInt8) (hx : x < 4294967296) (h : feedB x (a ++ c :: b) = feedB x (a ++ d :: b)) : c = d := by
  rw [feedB_app, feedB_app] at h
  have hl := feedB_lt a hx
  have h2 := stepB_inj c d hl hl (feedB_inj b (stepB_lt c hl) (stepB_lt d hl) h)
  exact UInt8.toNat_inj.1 (xor_cancel h2)
/-- One byte turned: another sum. -/
theorem feedB_set {x : Nat} (bs : List UInt8) (i : Nat) (hi : i < bs.length) (d : UInt8) (hx : x < 4294967296) (h : feedB x (bs.set i d) = feedB x bs) : d = bs.getD i 0 := by
  have e1 : bs = bs.take i ++ bs.getD i 0 :: bs.drop (i + 1) := by
    rw [show bs.getD i 0 = bs[i] by simp [hi]]
    simp
  have e2 : bs.set i d = bs.take i ++ d :: bs.drop (i + 1) := List.set_eq_take_append_cons_drop.trans (by rw [if_pos hi])
  rw [e2] at h
  rw [show feedB x bs = feedB x (bs.take i ++ bs.getD i 0 :: bs.drop (i + 1)) by rw [← e1]] at h
  exact feedB_one _ _ _ _ hx h
theorem sumR_flat (rs : List (List UInt8)) : sumR rs = feedB 4294967295 rs.flatten ^^^ 4294967295 := by unfold sumR; rw [feedR_flat]
theorem sumR_eq {rs qs : List (List UInt8)} (h : rs.flatten = qs.flatten) : sumR rs = sumR qs := by rw [sumR_flat, sumR_flat, h]
theorem sumR_ne {rs qs : List (List UInt8)} (i : Nat) (hi : i < rs.flatten.length) (d : UInt8) (hq : qs.flatten = rs.flatten.set i d) (h : sumR qs = sumR rs) : d = rs.flatten.getD i 0 := by
  rw [sumR_flat, sumR_flat, hq] at h
  exact feedB_set _ i hi d (by decide) (xor_cancel' h)
theorem be4_inj {x y : Nat} (hx : x < 4294967296) (hy : y < 4294967296) (h : be4 x = be4 y) : x = y := by
  simp only [be4, List.cons.injEq, and_true] at h
  obtain ⟨h0, h1, h2, h3⟩ := h
  have f : ∀ k, beB x k = beB y k → x / 2 ^ (24 - 8 * k) % 256 = y / 2 ^ (24 - 8 * k) % 256 := fun k hk => by
    have := congrArg UInt8.toNat hk
    simpa [beB, UInt8.toNat_ofNat'] using this
  have g0 := f 0 h0
  have g1 := f 1 h1
  have g2 := f 2 h2
  have g3 := f 3 h3
  simp at g0 g1 g2 g3
  omega

/-- One digit taken out of a sum. -/
def bit1 (x : Nat) : Nat := if x % 2 = 1 then (x / 2) ^^^ 2197175160 else x / 2
theorem xor_mod2 (a b : Nat) : (a ^^^ b) % 2 = (a + b) % 2 := by
  have h := @Nat.xor_mod_two_eq_one a b
  rcases Nat.mod_two_eq_zero_or_one (a ^^^ b) with hc | hc <;> rcases Nat.mod_two_eq_zero_or_one a with ha | ha <;> rcases Nat.mod_two_eq_zero_or_one b with hb | hb <;> rw [hc, ha, hb] at h <;> first | omega | (exfalso; revert h; decide)
theorem bit1_xor (a b : Nat) : bit1 (a ^^^ b) = bit1 a ^^^ bit1 b := by
  unfold bit1
  have h1 := xor_mod2 a b
  have h2 : (a ^^^ b) / 2 = a / 2 ^^^ b / 2 := by simpa using xor_div a b 1
  rw [h2]
  rcases Nat.mod_two_eq_zero_or_one a with ha | ha <;> rcases Nat.mod_two_eq_zero_or_one b with hb | hb
  · rw [if_neg (by omega), if_neg (by omega), if_neg (by omega)]
  · rw [if_pos (by omega), if_neg (by omega), if_pos (by omega), Nat.xor_assoc]
  · rw [if_pos (by omega), if_pos (by omega), if_neg (by omega), Nat.xor_assoc, Nat.xor_comm (b / 2), ← Nat.xor_assoc]
  · rw [if_neg (by omega), if_pos (by omega), if_pos (by omega)]
    rw [show (a / 2 ^^^ 2197175160) ^^^ (b / 2 ^^^ 2197175160) = (a / 2 ^^^ b / 2) ^^^ (2197175160 ^^^ 2197175160) by ac_rfl]
    simp
theorem split16 (x : Nat) : x = 16 * (x / 16) ^^^ x % 16 := by
  have h := Nat.two_pow_add_eq_or_of_lt (i := 4) (b := x % 16) (by omega) (x / 16)
  have h3 : 2 ^ 4 * (x / 16) ^^^ x % 16 = 2 ^ 4 * (x / 16) ||| x % 16 := by
    apply Nat.eq_of_testBit_eq
    intro j
    rw [Nat.testBit_xor, Nat.testBit_or]
    by_cases hj : j < 4
    · have : (2 ^ 4 * (x / 16)).testBit j = false := by rw [Nat.testBit_two_pow_mul]; simp [Nat.not_le.2 hj]
      simp [this]
    · have : (x % 16).testBit j = false := Nat.testBit_lt_two_pow (Nat.lt_of_lt_of_le (by omega) (Nat.pow_le_pow_right (by decide) (Nat.le_of_not_lt hj)))
      simp [this]
  have h4 : x = 2 ^ 4 * (x / 16) + x % 16 := by omega
  rw [h, ← h3] at h4
  exact h4
theorem bit1_even (q : Nat) : bit1 (2 * q) = q := by unfold bit1; rw [if_neg (by omega)]; omega
theorem half_bits (x : Nat) : half x = bit1 (bit1 (bit1 (bit1 x))) := by
  have hr := (show ∀ i, i < 16 → bit1 (bit1 (bit1 (bit1 i))) = nibs.getD i 0 by decide) (x % 16) (by omega)
  rw [show bit1 (bit1 (bit1 (bit1 x))) = bit1 (bit1 (bit1 (bit1 (16 * (x / 16) ^^^ x % 16)))) by rw [← split16 x]]
  rw [bit1_xor, bit1_xor, bit1_xor, bit1_xor, hr]
  rw [show 16 * (x / 16) = 2 * (2 * (2 * (2 * (x / 16)))) by omega, bit1_even, bit1_even, bit1_even, bit1_even]
  rfl
/-- k digits taken out. -/
def bitN : Nat → Nat → Nat
  | 0, x => x
  | k + 1, x => bit1 (bitN k x)
theorem stepB_bits (x : Nat) (c : UInt8) : stepB x c = bitN 8 (x ^^^ c.toNat) := by
  unfold stepB
  rw [half_bits, half_bits]
  rfl
theorem bit1_lt {x : Nat} (h : x < 4294967296) : bit1 x < 4294967296 := by
  unfold bit1
  split
  · exact xor_lt32 (by omega) (by decide)
  · omega
theorem bitN_lt {x : Nat} (k : Nat) (h : x < 4294967296) : bitN k x < 4294967296 := by
  induction k with
  | zero => exact h
  | succ k ih => exact bit1_lt ih
theorem stamped_take (bs : List UInt8) (rs : List (List UInt8)) (h : bs.length = 32) : (stamped bs rs).take 28 = bs.take 28 := by
  unfold stamped
  rw [List.take_append_of_le_length (by simp; omega), List.take_take, Nat.min_self]
theorem restamped (bs : List UInt8) (rs qs : List (List UInt8)) (h : bs.length = 32) : stamped (stamped bs rs) qs = stamped bs qs := by
  rw [show stamped (stamped bs rs) qs = (stamped bs rs).take 28 ++ be4 (sumR ((stamped bs rs).take 28 :: qs)) from rfl, stamped_take bs rs h]
  rfl
theorem xor_zero {a c : UInt8} (h : a ^^^ c = a) : c = 0 := by
  have : a ^^^ (a ^^^ c) = a ^^^ a := by rw [h]
  simpa [← UInt8.xor_assoc] using this
/-- Another part makes another stamp. -/
theorem seal_other (bs q : List UInt8) (i : Nat) (c : UInt8) (h : bs.length = 32) (hi : i < q.length) :
    decide (stamped (stamped bs [q]) [q.set i (q.getD i 0 ^^^ c)] = stamped bs [q]) = ((c.toNat : Int) == 0) := by
  rw [restamped bs _ _ h]
  by_cases hc : c = 0
  · subst hc
    have : q.set i (q.getD i 0 ^^^ 0) = q := by
      rw [show q.getD i 0 ^^^ 0 = q[i] by simp [hi]]
      exact List.set_getElem_self hi
    rw [this]
    simp
  · have hne : ¬ stamped bs [q.set i (q.getD i 0 ^^^ c)] = stamped bs [q] := fun e => by
      have e2 := List.append_cancel_left e
      have e3 := be4_inj (sumR_lt _) (sumR_lt _) e2
      have hl : (bs.take 28).length = 28 := by simp [h]
      have e4 := sumR_ne (rs := [bs.take 28, q]) (qs := [bs.take 28, q.set i (q.getD i 0 ^^^ c)]) (28 + i) (by simp [h]; omega) (q.getD i 0 ^^^ c) (by
        simp only [List.flatten_cons, List.flatten_nil, List.append_nil]
        rw [List.set_append_right _ _ (by omega), hl]
        simp) e3
      have e5 : [bs.take 28, q].flatten.getD (28 + i) 0 = q.getD i 0 := by
        simp only [List.flatten_cons, List.flatten_nil, List.append_nil]
        rw [List.getD_eq_getElem?_getD, List.getElem?_append_right (by omega), hl, List.getD_eq_getElem?_getD]
        simp
      rw [e5] at e4
      exact hc (xor_zero e4)
    have : ¬ c.toNat = 0 := fun e => hc (UInt8.toNat_inj.1 (by simpa using e))
    rw [decide_eq_false hne]
    symm
    rw [beq_eq_false_iff_ne]
    omega
theorem byte_eq0 (c : UInt8) : ((c.toNat : Int) == 0) = decide (c = 0) := by
  by_cases hc : c = 0
  · subst hc; rfl
  · have : ¬ c.toNat = 0 := fun e => hc (UInt8.toNat_inj.1 (by simpa using e))
    rw [decide_eq_false hc, beq_eq_false_iff_ne]
    omega
theorem right_iff (bs : List UInt8) (rs : List (List UInt8)) : rightB bs rs = true ↔ bs.length = 32 ∧ bs.drop 28 = be4 (sumR (bs.take 28 :: rs)) := by simp [rightB]
theorem right_stamped (bs : List UInt8) (rs : List (List UInt8)) (h : bs.length = 32) : rightB (stamped bs rs) rs = true := by
  rw [right_iff, stamped_take bs rs h]
  refine ⟨stamped_len bs rs h, ?_⟩
  unfold stamped
  rw [List.drop_append_of_le_length (by simp; omega)]
  simp
theorem right_parts {bs : List UInt8} {rs qs : List (List UInt8)} (h : rightB bs rs = true) (he : rs.flatten = qs.flatten) : rightB bs qs = true := by
  rw [right_iff] at h ⊢
  exact ⟨h.1, by rw [h.2]; exact congrArg be4 (sumR_eq (by simp [he]))⟩
/-- One byte of a stamped sector turned: no longer right. -/
theorem right_set {bs : List UInt8} {rs : List (List UInt8)} (h : rightB bs rs = true) (i : Nat) (hi : i < 32) (c : UInt8) : rightB (bs.set i (bs.getD i 0 ^^^ c)) rs = ((c.toNat : Int) == 0) := by
  rw [byte_eq0]
  have hr := (right_iff bs rs).1 h
  by_cases hc : c = 0
  · subst hc
    rw [decide_eq_true rfl, show bs.getD i 0 ^^^ 0 = bs[i]'(by omega) by simp [hr.1, hi], List.set_getElem_self]
    exact h
  · rw [decide_eq_false hc, ← Bool.not_eq_true]
    intro h2
    have h3 := (right_iff _ _).1 h2
    obtain ⟨hl, hd⟩ := hr
    have hd2 := h3.2
    by_cases hi2 : i < 28
    · rw [List.drop_set_of_lt (by omega), hd, List.take_set] at hd2
      have e := be4_inj (sumR_lt _) (sumR_lt _) hd2
      have e4 := sumR_ne (rs := bs.take 28 :: rs) (qs := (bs.take 28).set i (bs.getD i 0 ^^^ c) :: rs) i (by simp; omega) (bs.getD i 0 ^^^ c) (by
        simp only [List.flatten_cons]
        rw [List.set_append_left _ _ (by simp; omega)]) e.symm
      have e5 : (bs.take 28 :: rs).flatten.getD i 0 = bs.getD i 0 := by
        simp only [List.flatten_cons]
        rw [List.getD_eq_getElem?_getD, List.getElem?_append_left (by simp; omega), List.getElem?_take, if_pos hi2, List.getD_eq_getElem?_getD]
      rw [e5] at e4
      exact hc (xor_zero e4)
    · have ht : (bs.set i (bs.getD i 0 ^^^ c)).take 28 = bs.take 28 := by rw [List.take_set_of_le (by omega)]
      rw [ht, ← hd] at hd2
      have e := congrArg (fun l => l[i - 28]?) hd2
      simp only [List.getElem?_drop] at e
      rw [show 28 + (i - 28) = i by omega, List.getElem?_set_self (by omega)] at e
      have e6 : bs.getD i 0 = bs[i]'(by omega) := by simp [hl, hi]
      rw [List.getElem?_eq_getElem (by omega)] at e
      injection e with e
      rw [← e6] at e
      exact hc (xor_zero e)
/-- One byte of a part turned: no longer right. -/
theorem right_part {bs q : List UInt8} (h : rightB bs [q] = true) (i : Nat) (hi : i < q.length) (c : UInt8) : rightB bs [q.set i (q.getD i 0 ^^^ c)] = ((c.toNat : Int) == 0) := by
  rw [byte_eq0]
  have hr := (right_iff bs [q]).1 h
  by_cases hc : c = 0
  · subst hc
    rw [decide_eq_true rfl, show q.getD i 0 ^^^ 0 = q[i] by simp [hi], List.set_getElem_self]
    exact h
  · rw [decide_eq_false hc, ← Bool.not_eq_true]
    intro h2
    have h3 := ((right_iff _ _).1 h2).2
    rw [hr.2] at h3
    have hl : (bs.take 28).length = 28 := by simp [hr.1]
    have e := be4_inj (sumR_lt _) (sumR_lt _) h3
    have e4 := sumR_ne (rs := [bs.take 28, q]) (qs := [bs.take 28, q.set i (q.getD i 0 ^^^ c)]) (28 + i) (by simp [hr.1]; omega) (q.getD i 0 ^^^ c) (by
      simp only [List.flatten_cons, List.flatten_nil, List.append_nil]
      rw [List.set_append_right _ _ (by omega), hl]
      simp) e.symm
    have e5 : [bs.take 28, q].flatten.getD (28 + i) 0 = q.getD i 0 := by
      simp only [List.flatten_cons, List.flatten_nil, List.append_nil]
      rw [List.getD_eq_getElem?_getD, List.getElem?_append_right (by omega), hl, List.getD_eq_getElem?_getD]
      simp
    rw [e5] at e4
    exact hc (xor_zero e4)
end Go.Proofs.YtcjmebnbbpllnaaDoor
end
section
namespace Go.Proofs.YtcjmebnbbpllnaaDoor

/-- A Super's fields: generation, its geometry, the one it goes to, whether it does, window, epoch, what is out. -/
structure Su where
  g : Int
  al : Int
  ad : Int
  ac : Int
  bl : Int
  bd : Int
  bc : Int
  r : Bool
  wi : Int
  ep : Int
  ou : Int
/-- All numbers are whole numbers of 64 digits. -/
structure Su64 (s : Su) : Prop where
  g : (-9223372036854775808 ≤ s.g ∧ s.g ≤ 9223372036854775807)
  al : (-9223372036854775808 ≤ s.al ∧ s.al ≤ 9223372036854775807)
  ad : (-9223372036854775808 ≤ s.ad ∧ s.ad ≤ 9223372036854775807)
  ac : (-9223372036854775808 ≤ s.ac ∧ s.ac ≤ 9223372036854775807)
  bl : (-9223372036854775808 ≤ s.bl ∧ s.bl ≤ 9223372036854775807)
  bd : (-9223372036854775808 ≤ s.bd ∧ s.bd ≤ 9223372036854775807)
  bc : (-9223372036854775808 ≤ s.bc ∧ s.bc ≤ 9223372036854775807)
  wi : (-9223372036854775808 ≤ s.wi ∧ s.wi ≤ 9223372036854775807)
  ep : (-9223372036854775808 ≤ s.ep ∧ s.ep ≤ 9223372036854775807)
  ou : (-9223372036854775808 ≤ s.ou ∧ s.ou ≤ 9223372036854775807)
def suZ : Su := ⟨0, 0, 0, 0, 0, 0, 0, false, 0, 0, 0⟩
def suEq (s t : Su) : Bool := decide (s.g = t.g ∧ s.al = t.al ∧ s.ad = t.ad ∧ s.ac = t.ac ∧ s.bl = t.bl ∧ s.bd = t.bd ∧ s.bc = t.bc ∧ s.r = t.r ∧ s.wi = t.wi ∧ s.ep = t.ep ∧ s.ou = t.ou)
theorem suEq_iff (s t : Su) : suEq s t = true ↔ s = t := by
  obtain ⟨a1, a2, a3, a4, a5, a6, a7, a8, a9, a10, a11⟩ := s
  obtain ⟨b1, b2, b3, b4, b5, b6, b7, b8, b9, b10, b11⟩ := t
  simp [suEq]
theorem suEq_refl (s : Su) : suEq s s = true := (suEq_iff s s).2 rfl
theorem suEq_no {s t : Su} (h : s ≠ t) : suEq s t = false := by
  rw [← Bool.not_eq_true]; exact fun h' => h ((suEq_iff s t).1 h')
def aimB (s : Su) : Bool := if s.r = true then gCan s.al s.ad s.ac s.bl s.bd s.bc && decide (0 ≤ s.wi ∧ s.wi ≤ 16) else decide (s.bl = 0 ∧ s.bd = 0 ∧ s.bc = 0 ∧ s.wi = 0)
def genB (s : Su) : Bool := decide (1 ≤ s.g ∧ s.g ≤ 2147483647)
def epB (s : Su) : Bool := decide (0 ≤ s.ep ∧ s.ep ≤ 65535)
def ouB (s : Su) : Bool := decide (0 ≤ s.ou ∧ s.ou ≤ 255)
def suOk (s : Su) : Bool := genB s && gOk s.al s.ad s.ac && aimB s && epB s && ouB s
def suErr (s : Su) : Int := if suOk s = true then 0 else 1
theorem suErr_yes {s : Su} (h : suOk s = true) : suErr s = 0 := if_pos h
theorem suErr_no {s : Su} (h : suOk s = false) : suErr s = 1 := if_neg (by rw [h]; decide)
theorem suOk_parts {s : Su} (h : suOk s = true) : genB s = true ∧ gOk s.al s.ad s.ac = true ∧ aimB s = true ∧ epB s = true ∧ ouB s = true := by
  simp [suOk] at h
  exact ⟨h.1.1.1.1, h.1.1.1.2, h.1.1.2, h.1.2, h.2⟩
/-- What holds of the fields of a Super that may be. -/
structure SuIn (s : Su) : Prop where
  g : 1 ≤ s.g ∧ s.g ≤ 2147483647
  al : 0 ≤ s.al ∧ s.al ≤ 255
  ad : 0 ≤ s.ad ∧ s.ad ≤ 255
  ac : 0 ≤ s.ac ∧ s.ac ≤ 255
  bl : 0 ≤ s.bl ∧ s.bl ≤ 255
  bd : 0 ≤ s.bd ∧ s.bd ≤ 255
  bc : 0 ≤ s.bc ∧ s.bc ≤ 255
  wi : 0 ≤ s.wi ∧ s.wi ≤ 255
  ep : 0 ≤ s.ep ∧ s.ep ≤ 65535
  ou : 0 ≤ s.ou ∧ s.ou ≤ 255
theorem suIn {s : Su} (h : suOk s = true) : SuIn s := by
  obtain ⟨h1, h2, h3, h4, h5⟩ := suOk_parts h
  have a := gOk_bd h2
  have q1 : 1 ≤ s.g ∧ s.g ≤ 2147483647 := by simpa [genB] using h1
  have q4 : 0 ≤ s.ep ∧ s.ep ≤ 65535 := by simpa [epB] using h4
  have q5 : 0 ≤ s.ou ∧ s.ou ≤ 255 := by simpa [ouB] using h5
  have b : (0 ≤ s.bl ∧ s.bl ≤ 255) ∧ (0 ≤ s.bd ∧ s.bd ≤ 255) ∧ (0 ≤ s.bc ∧ s.bc ≤ 255) ∧ (0 ≤ s.wi ∧ s.wi ≤ 255) := by
    unfold aimB at h3
    split at h3
    · simp only [Bool.and_eq_true, decide_eq_true_eq] at h3
      have := gOk_bd (gCan_parts h3.1).2.1
      omega
    · have := of_decide_eq_true h3
      omega
  exact ⟨q1, by omega, by omega, by omega, b.1, b.2.1, b.2.2.1, b.2.2.2, q4, q5⟩
/-- Byte k of a number, from its low end. -/
def byN (n : Int) (k : Nat) : UInt8 := UInt8.ofNat (n.toNat / 256 ^ k)
def rnB (r : Bool) : UInt8 := if r = true then 1 else 0
def suBody (s : Su) : List UInt8 := [87, 83, 85, 80, byN s.g 3, byN s.g 2, byN s.g 1, byN s.g 0, byN s.al 0, byN s.ad 0, byN s.ac 0, byN s.bl 0, byN s.bd 0, byN s.bc 0, rnB s.r, byN s.wi 0, byN s.ep 1, byN s.ep 0, byN s.ou 0, 0, 0, 0, 0, 0, 0, 0, 0, 0]
def suFull (s : Su) : List UInt8 := suBody s ++ [0, 0, 0, 0]
def suB (s : Su) : List UInt8 := stamped (suFull s) []
theorem suFull_len (s : Su) : (suFull s).length = 32 := rfl
theorem suB_eq (s : Su) : suB s = suBody s ++ be4 (sumR [suBody s]) := rfl
theorem suB_len (s : Su) : (suB s).length = 32 := rfl
theorem suB_right (s : Su) : rightB (suB s) [] = true := right_stamped _ _ (suFull_len s)
/-- The number that bytes tell, the greatest first. -/
def numB (bs : List UInt8) : Nat := bs.foldl (fun n x => n * 256 + x.toNat) 0
def flds (bs : List UInt8) : Su :=
  ⟨numB [bs.getD 4 0, bs.getD 5 0, bs.getD 6 0, bs.getD 7 0], numB [bs.getD 8 0], numB [bs.getD 9 0], numB [bs.getD 10 0], numB [bs.getD 11 0], numB [bs.getD 12 0], numB [bs.getD 13 0],
    (((bs.getD 14 0).toNat : Int) == 1), numB [bs.getD 15 0], numB [bs.getD 16 0, bs.getD 17 0], numB [bs.getD 18 0]⟩
theorem numB_one (a : UInt8) : numB [a] = a.toNat := by simp [numB]
theorem numB_two (a b : UInt8) : numB [a, b] = a.toNat * 256 + b.toNat := by simp [numB]
theorem numB_four (a b c d : UInt8) : numB [a, b, c, d] = ((a.toNat * 256 + b.toNat) * 256 + c.toNat) * 256 + d.toNat := by simp [numB]
theorem byN_one {n : Int} (h : 0 ≤ n ∧ n ≤ 255) : ((numB [byN n 0] : Nat) : Int) = n := by
  rw [numB_one]; simp only [byN, UInt8.toNat_ofNat']; omega
theorem byN_two {n : Int} (h : 0 ≤ n ∧ n ≤ 65535) : ((numB [byN n 1, byN n 0] : Nat) : Int) = n := by
  rw [numB_two]; simp only [byN, UInt8.toNat_ofNat']; omega
theorem byN_four {n : Int} (h : 1 ≤ n ∧ n ≤ 2147483647) : ((numB [byN n 3, byN n 2, byN n 1, byN n 0] : Nat) : Int) = n := by
  rw [numB_four]; simp only [byN, UInt8.toNat_ofNat']; omega
theorem suB_get (s : Su) (k : Nat) (hk : k < 28) : (suB s).getD k 0 = (suBody s).getD k 0 := by
  rw [suB_eq, List.getD_eq_getElem?_getD, List.getElem?_append_left (by show k < 28; exact hk), List.getD_eq_getElem?_getD]
theorem flds_of {bs : List UInt8} {s : Su} (h : ∀ k, k < 28 → bs.getD k 0 = (suBody s).getD k 0) (hi : SuIn s) : flds bs = s := by
  have hr : ((((rnB s.r).toNat : Nat) : Int) == 1) = s.r := by cases s.r <;> rfl
  unfold flds
  rw [h 4 (by omega), h 5 (by omega), h 6 (by omega), h 7 (by omega), h 8 (by omega), h 9 (by omega), h 10 (by omega), h 11 (by omega), h 12 (by omega), h 13 (by omega), h 14 (by omega), h 15 (by omega), h 16 (by omega), h 17 (by omega), h 18 (by omega)]
  have e : (⟨numB [byN s.g 3, byN s.g 2, byN s.g 1, byN s.g 0], numB [byN s.al 0], numB [byN s.ad 0], numB [byN s.ac 0], numB [byN s.bl 0], numB [byN s.bd 0], numB [byN s.bc 0], (((rnB s.r).toNat : Nat) : Int) == 1, numB [byN s.wi 0], numB [byN s.ep 1, byN s.ep 0], numB [byN s.ou 0]⟩ : Su) = s := by
    rw [byN_four hi.g, byN_one hi.al, byN_one hi.ad, byN_one hi.ac, byN_one hi.bl, byN_one hi.bd, byN_one hi.bc, hr, byN_one hi.wi, byN_two hi.ep, byN_one hi.ou]
  exact e
theorem flds_suB {s : Su} (h : suOk s = true) : flds (suB s) = s := flds_of (suB_get s) (suIn h)
/-- A sector is that of a Super. -/
def decO (bs : List UInt8) : Bool := decide (bs.length = 32) && suOk (flds bs) && decide (suB (flds bs) = bs)
def decS (bs : List UInt8) : Su := if decO bs = true then flds bs else suZ
def decE (bs : List UInt8) : Int := if decO bs = true then 0 else 2
theorem decE_yes {bs : List UInt8} (h : decO bs = true) : decE bs = 0 := if_pos h
theorem decE_no {bs : List UInt8} (h : decO bs = false) : decE bs = 2 := if_neg (by rw [h]; decide)
theorem decS_yes {bs : List UInt8} (h : decO bs = true) : decS bs = flds bs := if_pos h
theorem decS_no {bs : List UInt8} (h : decO bs = false) : decS bs = suZ := if_neg (by rw [h]; decide)
theorem decO_iff (bs : List UInt8) : decO bs = true ↔ bs.length = 32 ∧ suOk (flds bs) = true ∧ suB (flds bs) = bs := by
  simp [decO, and_assoc]
theorem decO_mk {bs : List UInt8} (h1 : bs.length = 32) (h2 : suOk (flds bs) = true) (h3 : suB (flds bs) = bs) : decO bs = true := (decO_iff bs).2 ⟨h1, h2, h3⟩
theorem decO_not {bs : List UInt8} (h : ¬ (bs.length = 32 ∧ suOk (flds bs) = true ∧ suB (flds bs) = bs)) : decO bs = false := by
  rw [← Bool.not_eq_true]; exact fun h' => h ((decO_iff bs).1 h')
theorem decO_right {bs : List UInt8} (h : decO bs = true) : rightB bs [] = true := by
  rw [← ((decO_iff bs).1 h).2.2]; exact suB_right _
theorem decO_suB {s : Su} (h : suOk s = true) : decO (suB s) = true := by
  have e := flds_suB h
  exact decO_mk (suB_len s) (by rw [e]; exact h) (by rw [e])
theorem decS_suB {s : Su} (h : suOk s = true) : decS (suB s) = s := (decS_yes (decO_suB h)).trans (flds_suB h)
theorem suB_inj {s t : Su} (hs : suOk s = true) (ht : suOk t = true) (h : suB s = suB t) : s = t := by
  rw [← flds_suB hs, h, flds_suB ht]
/-- One byte turned: it is a Super's no more, unless by nothing. -/
theorem dec_turned {s : Su} (h : suOk s = true) (i : Nat) (hi : i < 32) (c : UInt8) : decO ((suB s).set i ((suB s).getD i 0 ^^^ c)) = ((c.toNat : Int) == 0) := by
  have hr := right_set (suB_right s) i hi c
  by_cases hc : c = 0
  · subst hc
    have e : (suB s).set i ((suB s).getD i 0 ^^^ 0) = suB s := by
      rw [UInt8.xor_zero]
      apply List.ext_getElem (by simp)
      intro n h1 h2
      rw [List.getElem_set]
      split
      · subst_vars; simp [List.getD_eq_getElem?_getD, h2]
      · rfl
    rw [e, decO_suB h]; rfl
  · have h0 : ((c.toNat : Int) == 0) = false := by rw [byte_eq0]; exact decide_eq_false hc
    rw [h0] at hr ⊢
    rw [← Bool.not_eq_true]
    intro h'
    rw [decO_right h'] at hr
    cases hr
end Go.Proofs.YtcjmebnbbpllnaaDoor
end
section
set_option linter.unusedVariables false
set_option linter.unusedSimpArgs false
namespace Go.Proofs.YtcjmebnbbpllnaaDoor

/-- The Super in a slot, if there is one. -/
def slotL (D : Dsk) (k : Nat) : List Su := if D.f = true then [] else if decO (secAt D.now k) = true then [decS (secAt D.now k)] else []
def dskSu (D : Dsk) : List Su := slotL D 0 ++ slotL D 1
def pickS (b x : Su) : Su := if b.g < x.g then x else b
def bestTo (N : Bch) : Nat → Su
  | 0 => suZ
  | i + 1 => (dskSu (N.D i)).foldl pickS (bestTo N i)
def bestE (N : Bch) : Int := if N.down = true then 6 else if (bestTo N N.n).g = 0 then 3 else 0
def bestS (N : Bch) : Su := if bestE N = 0 then bestTo N N.n else suZ
def hasB (N : Bch) (b : Su) (i : Nat) : Bool := (dskSu (N.D i)).any fun x => decide (b.g - 1 ≤ x.g)
def hasL (N : Bch) : List Bool := if bestE N = 0 then (List.range N.n).map (hasB N (bestTo N N.n)) else []
theorem hasL_none {N : Bch} (h : bestE N ≠ 0) : hasL N = [] := if_neg h
theorem hasL_some {N : Bch} (h : bestE N = 0) : hasL N = (List.range N.n).map (hasB N (bestTo N N.n)) := if_pos h
theorem bestS_none {N : Bch} (h : bestE N ≠ 0) : bestS N = suZ := if_neg h
theorem bestS_some {N : Bch} (h : bestE N = 0) : bestS N = bestTo N N.n := if_pos h
/-- What is done on each live disk, up to the first error. -/
def onTo (f : Bch → Nat → Int × Bch) (lv : List Bool) (N : Bch) : Nat → Int × Bch
  | 0 => (0, N)
  | i + 1 => if (onTo f lv N i).1 ≠ 0 then onTo f lv N i else if lv.getD i false = false then onTo f lv N i else
      if (f (onTo f lv N i).2 i).1 = 5 then (0, (f (onTo f lv N i).2 i).2) else f (onTo f lv N i).2 i
def wrF (at' : Nat) (x : List UInt8) (N : Bch) (i : Nat) : Int × Bch := (N.writeE (i : Int) (at' : Int) x.length, N.write (i : Int) (at' : Int) x)
def flF (N : Bch) (i : Nat) : Int × Bch := (N.flushE (i : Int), N.flush (i : Int))
def slotI (g : Int) : Nat := if g % 2 = 0 then 0 else 1
theorem slotI_lt (g : Int) : slotI g < 2 := by unfold slotI; split <;> omega
def wroteS (N : Bch) (lv : List Bool) (s : Su) : Int × Bch := onTo (wrF (slotI s.g) (suB s)) lv N (min N.n lv.length)
def storeS (N : Bch) (lv : List Bool) (s : Su) : Int × Bch :=
  if suOk s = false then (1, N) else if (wroteS N lv s).1 ≠ 0 then wroteS N lv s else onTo flF lv (wroteS N lv s).2 (min N.n lv.length)
section
variable {f : Bch → Nat → Int × Bch} {lv : List Bool} {N : Bch}
theorem onTo_skip {i : Nat} (h : (onTo f lv N i).1 = 0) (hl : lv.getD i false = false) : onTo f lv N (i + 1) = onTo f lv N i := by
  rw [onTo, if_neg (by simp [h]), if_pos hl]
theorem onTo_pass {i : Nat} (h : (onTo f lv N i).1 = 0) (hl : lv.getD i false = true) (hq : (f (onTo f lv N i).2 i).1 = 5) : onTo f lv N (i + 1) = (0, (f (onTo f lv N i).2 i).2) := by
  rw [onTo, if_neg (by simp [h]), if_neg (by simp only [hl]; decide), if_pos hq]
theorem onTo_goes {i : Nat} (h : (onTo f lv N i).1 = 0) (hl : lv.getD i false = true) (hq : (f (onTo f lv N i).2 i).1 ≠ 5) : onTo f lv N (i + 1) = f (onTo f lv N i).2 i := by
  rw [onTo, if_neg (by simp [h]), if_neg (by simp only [hl]; decide), if_neg hq]
theorem onTo_stop {i : Nat} (h : (onTo f lv N i).1 ≠ 0) : ∀ m, i ≤ m → onTo f lv N m = onTo f lv N i
  | 0, hm => by obtain rfl : i = 0 := by omega
                rfl
  | m + 1, hm => by
    by_cases e : i = m + 1
    · rw [e]
    · have ih := onTo_stop h m (by omega)
      rw [onTo, if_pos (by rw [ih]; exact h), ih]
theorem onTo_any (P : Bch → Prop) (h0 : P N) (hs : ∀ M i, P M → P (f M i).2) : ∀ i, P (onTo f lv N i).2
  | 0 => h0
  | i + 1 => by
    have ih := onTo_any P h0 hs i
    rw [onTo]
    repeat' split
    · exact ih
    · exact ih
    · exact hs _ _ ih
    · exact hs _ _ ih
end
theorem set_n (N : Bch) (i : Nat) (X : Dsk) : (N.set i X).n = N.n := rfl
theorem write_left (N : Bch) (d k : Int) (x : List UInt8) (h : N.left = -1) : (N.write d k x).left = -1 ∧ (N.write d k x).down = N.down := by
  unfold Bch.write
  repeat' split
  · exact ⟨h, rfl⟩
  · exact ⟨h, rfl⟩
  · omega
  · unfold Bch.count
    rw [if_neg (by show ¬ N.left = 0; omega)]
    exact ⟨by show (if N.left = -1 then (-1 : Int) else N.left - 1) = -1; rw [if_pos h], rfl⟩
theorem wrote_n {at' : Nat} {x : List UInt8} {lv : List Bool} {N : Bch} (i : Nat) : (onTo (wrF at' x) lv N i).2.n = N.n :=
  onTo_any (fun M => M.n = N.n) rfl (fun M i h => (Bch.write_n M _ _ _).trans h) i
theorem flush_n (N : Bch) (d : Int) : (N.flush d).n = N.n := by unfold Bch.flush; split <;> rfl
theorem flushed_n {lv : List Bool} {N : Bch} (i : Nat) : (onTo flF lv N i).2.n = N.n :=
  onTo_any (fun M => M.n = N.n) rfl (fun M i h => (flush_n M _).trans h) i
theorem count_done (N : Bch) : N.count.done ≤ N.done + 1 := by unfold Bch.count; split <;> simp
theorem write_done (N : Bch) (d k : Int) (x : List UInt8) : (N.write d k x).done ≤ N.done + 1 := by
  unfold Bch.write
  repeat' split
  · omega
  · omega
  · exact count_done N
  · exact count_done (N.set d.toNat ((N.at_ d).write k.toNat x))
theorem write_len (N : Bch) (d k : Int) (x : List UInt8) (j : Nat) : ((N.write d k x).D j).ps.length ≤ (N.D j).ps.length + 1 := by
  unfold Bch.write
  repeat' split
  · omega
  · omega
  · rw [Bch.count_D]; omega
  · rw [Bch.count_D]
    show ((upd N.D d.toNat _) j).ps.length ≤ _
    by_cases e : j = d.toNat
    · subst e; rw [upd_same]; simp [Bch.at_, Dsk.write]
    · rw [upd_other _ _ e]; omega
theorem wrote_done {at' : Nat} {x : List UInt8} {lv : List Bool} {N : Bch} : ∀ i, (onTo (wrF at' x) lv N i).2.done ≤ N.done + i
  | 0 => Nat.le_refl _
  | i + 1 => by
    have ih := wrote_done (at' := at') (x := x) (lv := lv) (N := N) i
    have h := write_done (onTo (wrF at' x) lv N i).2 (i : Int) (at' : Int) x
    rw [onTo]
    repeat' split
    · omega
    · omega
    · exact Nat.le_trans h (by omega)
    · exact Nat.le_trans h (by omega)
theorem wrote_len {at' : Nat} {x : List UInt8} {lv : List Bool} {N : Bch} (j : Nat) : ∀ i, ((onTo (wrF at' x) lv N i).2.D j).ps.length ≤ (N.D j).ps.length + i
  | 0 => Nat.le_refl _
  | i + 1 => by
    have ih := wrote_len (at' := at') (x := x) (lv := lv) (N := N) j i
    have h := write_len (onTo (wrF at' x) lv N i).2 (i : Int) (at' : Int) x j
    rw [onTo]
    repeat' split
    · omega
    · omega
    · exact Nat.le_trans h (by omega)
    · exact Nat.le_trans h (by omega)
theorem decS_in (bs : List UInt8) : decO bs = true → SuIn (decS bs) := fun h => by rw [decS_yes h]; exact suIn ((decO_iff bs).1 h).2.1
theorem dskSu_in {D : Dsk} {x : Su} (h : x ∈ dskSu D) : SuIn x := by
  have one : ∀ k, x ∈ slotL D k → SuIn x := fun k hk => by
    unfold slotL at hk
    repeat' split at hk
    · cases hk
    · rw [List.mem_singleton.1 hk]; exact decS_in _ (by assumption)
    · cases hk
  rcases List.mem_append.1 h with h | h
  · exact one 0 h
  · exact one 1 h
theorem dskSu_len (D : Dsk) : (dskSu D).length ≤ 2 := by
  have one : ∀ k, (slotL D k).length ≤ 1 := fun k => by unfold slotL; (repeat' split) <;> simp
  have := one 0; have := one 1
  unfold dskSu; rw [List.length_append]; omega
theorem pickS_in {b x : Su} (hb : b = suZ ∨ SuIn b) (hx : SuIn x) : pickS b x = suZ ∨ SuIn (pickS b x) := by
  unfold pickS; split
  · exact .inr hx
  · exact hb
theorem fold_in : ∀ (l : List Su) (b : Su), (b = suZ ∨ SuIn b) → (∀ x ∈ l, SuIn x) → l.foldl pickS b = suZ ∨ SuIn (l.foldl pickS b)
  | [], _, hb, _ => hb
  | x :: l, b, hb, hl => fold_in l _ (pickS_in hb (hl x (List.mem_cons_self ..))) fun y hy => hl y (List.mem_cons_of_mem _ hy)
theorem bestTo_in (N : Bch) : ∀ i, bestTo N i = suZ ∨ SuIn (bestTo N i)
  | 0 => .inl rfl
  | i + 1 => fold_in _ _ (bestTo_in N i) fun _ h => dskSu_in h
theorem su64_in {s : Su} (h : s = suZ ∨ SuIn s) : (0 ≤ s.g ∧ s.g ≤ 2147483647) ∧ Su64 s := by
  rcases h with rfl | h
  · exact ⟨by show (0 : Int) ≤ 0 ∧ (0 : Int) ≤ _; omega, by constructor <;> (show _ ∧ _; decide)⟩
  · obtain ⟨a1, a2, a3, a4, a5, a6, a7, a8, a9, a10⟩ := h
    exact ⟨by omega, ⟨by omega, by omega, by omega, by omega, by omega, by omega, by omega, by omega, by omega, by omega⟩⟩
end Go.Proofs.YtcjmebnbbpllnaaDoor
end
