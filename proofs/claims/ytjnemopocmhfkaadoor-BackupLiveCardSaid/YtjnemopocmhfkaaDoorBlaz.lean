/- Texts put together: BchQ. -/
import Derived.Test.YtjnemopocmhfkaaDoorBlay
import Derived.Test.YtjnemopocmhfkaaDoorBlag
import Derived.Test.YtjnemopocmhfkaaDoorBlah
section
set_option maxRecDepth 8000
namespace Go.Proofs.YtjnemopocmhfkaaDoor
open Go.RowKit

/-- The bench N, made since W. -/
structure BP (W w : World) (b : Nat) (H : BH) (N : Bch) : Prop where
  at' : BAt w W.heap.size b H N
  bel : Below W.heap.size W w
/-- New memory alone came to the blocks of a bench. -/
def BNew (w : World) (b : Nat) (H H' : BH) (n : Nat) : Prop := ∀ k, BF b H' n k → BF b H n k ∨ w.heap.size ≤ k
section
variable {W w w' : World} {b : Nat} {H : BH} {N : Bch}
theorem BP.to (h : BP W w b H N) {N' : Bch} (ht : BTo w w' W.heap.size b H N.n N') : ∃ H', BP W w' b H' N' ∧ Chg (BF b H N.n) w w' ∧ BNew w b H H' N.n := by
  obtain ⟨H', a, c, _, m⟩ := ht
  exact ⟨H', ⟨a, h.bel.trans (c.below (fun k hk => (h.at'.flt hk).1) h.bel.size)⟩, c, m⟩
theorem BP.grow (h : BP W w b H N) (hb : Below w.heap.size w w') : BP W w' b H N := ⟨h.at'.below hb, h.bel.trans (hb.mono h.bel.size)⟩
theorem BP.alloc (h : BP W w b H N) (o : Obj) : BP W (w.alloc o) b H N := h.grow (below1 w o)
end
/-- What came of a call: the bench, what was written, what came to it. -/
def BC (W w w' : World) (b : Nat) (H : BH) (n : Nat) (N' : Bch) : Prop := ∃ H', BP W w' b H' N' ∧ Chg (BF b H n) w w' ∧ BNew w b H H' n
theorem bp_new (n : Nat) (W w : World) (hb : Below W.heap.size W w) (hn : 1 ≤ n ∧ n ≤ 8) : Calls Tryd.prog 7 #[.int .i64 (n : Int)] w fun e w' => ∃ b H, e = .returned (.tuple #[ptr b, .int .i64 0]) ∧ BP W w' b H (Bch.new n) ∧ Below w.heap.size w w' ∧ ∀ k, BF b H n k → w.heap.size ≤ k := by
  refine (bch_new_ok n w hn).mono ?_
  rintro e w' ⟨b, H, rfl, a, hb'⟩
  exact ⟨b, H, rfl, ⟨a.mono hb.size, hb.trans (hb'.mono hb.size)⟩, hb', fun k hk => (a.flt hk).1⟩
section
variable (W w : World) (b : Nat) (H : BH) (N : Bch) (h : BP W w b H N)
include h
theorem bp_len : Calls Tryd.prog 33 #[.pointer (some ⟨b, 0, none⟩)] w fun e w' => e = .returned (.int .i64 (N.n : Int)) ∧ w' = w := bch_len_any _ _ _ _ _ h.at'
theorem bp_writes : Calls Tryd.prog 15 #[.pointer (some ⟨b, 0, none⟩)] w fun e w' => e = .returned (.int .i64 (N.done : Int)) ∧ w' = w := bch_writes_any _ _ _ _ _ h.at'
theorem bp_write (d k : Int) (x : List UInt8) (A : Option Addr) (n c : Nat) (hn : n = x.length) (hd : i64B d) (hk : i64B k) (hr : RdB w w.heap.size A x) (hps : ∀ i, i < N.n → (N.D i).ps.length ≤ 2000000) (hdn : N.done ≤ 2000000) :
    Calls Tryd.prog 45 #[.pointer (some ⟨b, 0, none⟩), .int .i64 d, .int .i64 k, .slice A n c] w fun e w' => e = .returned (.int .i64 (N.writeE d k n)) ∧ BC W w w' b H N.n (N.write d k x) := by
  refine (bch_write_any _ _ _ _ _ h.at' d k x A n c hn hd hk hr hps hdn).mono ?_
  rintro e w' ⟨rfl, ht⟩
  exact ⟨rfl, h.to ht⟩
theorem bp_flush (d : Int) (hd : i64B d) : Calls Tryd.prog 31 #[.pointer (some ⟨b, 0, none⟩), .int .i64 d] w fun e w' => e = .returned (.int .i64 (N.flushE d)) ∧ BC W w w' b H N.n (N.flush d) := by
  refine (bch_flush_any _ _ _ _ _ h.at' d hd).mono ?_
  rintro e w' ⟨rfl, ht⟩
  exact ⟨rfl, h.to ht⟩
theorem bp_fail (d : Int) (hd : i64B d) : Calls Tryd.prog 16 #[.pointer (some ⟨b, 0, none⟩), .int .i64 d] w fun e w' => e = .returned (.int .i64 (N.pickE d)) ∧ BC W w w' b H N.n (N.fail d) := by
  refine (bch_fail_any _ _ _ _ _ h.at' d hd).mono ?_
  rintro e w' ⟨rfl, ht⟩
  exact ⟨rfl, h.to ht⟩
end
theorem ptr_eq (b : Nat) (w : World) : (binOp .eql 23 (.pointer (some ⟨b, 0, none⟩)) (.pointer none)).run Tryd.prog w = .ok (.bool false) w := rfl
theorem i64n {n : Nat} (h : n ≤ 2000000) : i64B (n : Int) := ⟨by omega, by omega⟩
namespace Bch
/-- A write that is done. -/
theorem write_ok {N : Bch} {d k : Nat} {x : List UInt8} (hd : d < N.n) (hk : k < 52) (hx : x.length = 32) (hf : (N.D d).f = false) (hdn : N.down = false) (hl : N.left ≠ 0) :
    N.writeE (d : Int) (k : Int) x.length = 0 ∧ N.write (d : Int) (k : Int) x = (N.set d ((N.D d).write k x)).count := by
  have hp : N.powE (d : Int) = 0 := powE_ok (pickE_ok (by omega) (by omega)) hdn
  have ht : takeE (N.at_ (d : Int)).f (k : Int) x.length = 0 := by
    rw [hx, show (N.at_ (d : Int)).f = false from hf]; exact takeE_ok (by omega) (by omega)
  constructor
  · unfold writeE countE
    rw [if_neg (show ¬ N.powE (d : Int) ≠ 0 by simp [hp]), if_neg (fun e => e ht), if_neg hl]
  · unfold write
    rw [if_neg (show ¬ N.powE (d : Int) ≠ 0 by simp [hp]), if_neg (fun e => e ht), if_neg hl]
    rfl
theorem count_free {N : Bch} (h : N.left = -1) : N.count = { N with done := N.done + 1 } := by
  unfold count
  rw [if_neg (by omega), if_pos h]
  cases N
  simp only at h
  subst h
  rfl
theorem read_ok {N : Bch} {d k : Nat} (hd : d < N.n) (hk : k < 52) (hf : (N.D d).f = false) (hdn : N.down = false) : N.readE (d : Int) (k : Int) = 0 ∧ N.read (d : Int) (k : Int) = secAt (N.D d).now k := by
  have hp : N.powE (d : Int) = 0 := powE_ok (pickE_ok (by omega) (by omega)) hdn
  have he : N.readE (d : Int) (k : Int) = 0 := by
    unfold readE
    rw [if_neg (show ¬ N.powE (d : Int) ≠ 0 by simp [hp]), show (N.at_ (d : Int)).f = false from hf]
    exact reachE_ok (by omega) (by omega)
  refine ⟨he, ?_⟩
  unfold read
  rw [if_neg (fun e => e he)]
  rfl
end Bch
end Go.Proofs.YtjnemopocmhfkaaDoor
end
