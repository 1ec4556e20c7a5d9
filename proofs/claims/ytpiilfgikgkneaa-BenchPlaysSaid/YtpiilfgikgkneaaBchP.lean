/- A bench that a law made, call by call. -/
import Derived.Test.YtpiilfgikgkneaaBchClone
import Derived.Test.YtpiilfgikgkneaaPlaySec
import Derived.Test.YtpiilfgikgkneaaMakeS
import Derived.Test.YtpiilfgikgkneaaWithin
import Derived.Test.YtpiilfgikgkneaaBchCrash
namespace Go.Proofs.Ytpiilfgikgkneaa
open Go.RowKit

/-- The bench N, made since W. -/
structure BP (W w : World) (b : Nat) (H : BH) (N : Bch) : Prop where
  at' : BAt w W.heap.size b H N
  bel : Below W.heap.size W w
/-- New memory alone came to the blocks of a bench. -/
def BNew (w : World) (b : Nat) (H H' : BH) (n : Nat) : Prop := ∀ k, BF b H' n k → BF b H n k ∨ w.heap.size ≤ k
section
variable {W w w' : World} {b : Nat} {H : BH} {N : Bch}
theorem BP.to (h : BP W w b H N) {N' : Bch} (ht : BTo w w' W.heap.size b H N.n N') : ∃ H', BP W w' b H' N' ∧ Chg (BF b H N.n) w w' ∧ BNew w b H H' N.n := by
  obtain ⟨H', a, c, _, m⟩ := ht
  exact ⟨H', ⟨a, h.bel.trans (c.below (fun k hk => (h.at'.flt hk).1) h.bel.size)⟩, c, m⟩
theorem BP.grow (h : BP W w b H N) (hb : Below w.heap.size w w') : BP W w' b H N := ⟨h.at'.below hb, h.bel.trans (hb.mono h.bel.size)⟩
theorem BP.drew (h : BP W w b H N) : BP W w.drew b H N := h.grow (Below.refl _ _).drew
theorem BP.alloc (h : BP W w b H N) (o : Obj) : BP W (w.alloc o) b H N := h.grow (below1 w o)
theorem BP.chg {F : Nat → Prop} (h : BP W w b H N) (hc : Chg F w w') (hF : ∀ k, F k → W.heap.size ≤ k) (hn : ∀ k, BF b H N.n k → ¬ F k) : BP W w' b H N :=
  ⟨h.at'.chg hc hn, h.bel.trans (hc.below hF h.bel.size)⟩
end
/-- What came of a call: the bench, what was written, what came to it. -/
def BC (W w w' : World) (b : Nat) (H : BH) (n : Nat) (N' : Bch) : Prop := ∃ H', BP W w' b H' N' ∧ Chg (BF b H n) w w' ∧ BNew w b H H' n
theorem bp_new (n : Nat) (W w : World) (hb : Below W.heap.size W w) (hn : 1 ≤ n ∧ n ≤ 8) : Calls Try.prog 8 #[.int .i64 (n : Int)] w fun e w' => ∃ b H, e = .returned (.tuple #[ptr b, .int .i64 0]) ∧ BP W w' b H (Bch.new n) ∧ Below w.heap.size w w' ∧ ∀ k, BF b H n k → w.heap.size ≤ k := by
  refine (bch_new_ok n w hn).mono ?_
  rintro e w' ⟨b, H, rfl, a, hb'⟩
  exact ⟨b, H, rfl, ⟨a.mono hb.size, hb.trans (hb'.mono hb.size)⟩, hb', fun k hk => (a.flt hk).1⟩
section
variable (W w : World) (b : Nat) (H : BH) (N : Bch) (h : BP W w b H N)
include h
theorem bp_down : Calls Try.prog 34 #[.pointer (some ⟨b, 0, none⟩)] w fun e w' => e = .returned (.bool N.down) ∧ w' = w := bch_down_any _ _ _ _ _ h.at'
theorem bp_len : Calls Try.prog 21 #[.pointer (some ⟨b, 0, none⟩)] w fun e w' => e = .returned (.int .i64 (N.n : Int)) ∧ w' = w := bch_len_any _ _ _ _ _ h.at'
theorem bp_writes : Calls Try.prog 15 #[.pointer (some ⟨b, 0, none⟩)] w fun e w' => e = .returned (.int .i64 (N.done : Int)) ∧ w' = w := bch_writes_any _ _ _ _ _ h.at'
theorem bp_pending (hps : ∀ i, i < N.n → (N.D i).ps.length ≤ 2000000) : Calls Try.prog 16 #[.pointer (some ⟨b, 0, none⟩)] w fun e w' => e = .returned (.int .i64 (N.pend : Int)) ∧ Below w.heap.size w w' := bch_pending_any _ _ _ _ _ h.at' hps
theorem bp_pending_eq (hps : ∀ i, i < N.n → (N.D i).ps.length ≤ 2000000) : Calls Try.prog 16 #[.pointer (some ⟨b, 0, none⟩)] w fun e w' => e = .returned (.int .i64 (N.pend : Int)) ∧ w' = w := bch_pending_eq _ _ _ _ _ h.at' hps
theorem bp_failed (d : Int) (hd : i64B d) : Calls Try.prog 19 #[.pointer (some ⟨b, 0, none⟩), .int .i64 d] w fun e w' => e = .returned (.bool (N.failed d)) ∧ w' = w := bch_failed_any _ _ _ _ _ h.at' d hd
theorem bp_read (d k : Int) (hd : i64B d) (hk : i64B k) : Calls Try.prog 13 #[.pointer (some ⟨b, 0, none⟩), .int .i64 d, .int .i64 k] w fun e w' => ∃ v, e = .returned (.tuple #[v, .int .i64 (N.readE d k)]) ∧ OwB 5 w' w.heap.size v (N.read d k) ∧ Below w.heap.size w w' := bch_read_any _ _ _ _ _ h.at' d k hd hk
theorem bp_limit (v : Int) (hv : i64B v) : Calls Try.prog 27 #[.pointer (some ⟨b, 0, none⟩), .int .i64 v] w fun e w' => e = .returned (.tuple #[]) ∧ BC W w w' b H N.n (N.limit v) := by
  refine (bch_limit_any _ _ _ _ _ h.at' v hv).mono ?_
  rintro e w' ⟨rfl, ht⟩
  exact ⟨rfl, h.to ht⟩
theorem bp_write (d k : Int) (x : List UInt8) (A : Option Addr) (n c : Nat) (hn : n = x.length) (hd : i64B d) (hk : i64B k) (hr : RdB w w.heap.size A x) (hps : ∀ i, i < N.n → (N.D i).ps.length ≤ 2000000) (hdn : N.done ≤ 2000000) :
    Calls Try.prog 10 #[.pointer (some ⟨b, 0, none⟩), .int .i64 d, .int .i64 k, .slice A n c] w fun e w' => e = .returned (.int .i64 (N.writeE d k n)) ∧ BC W w w' b H N.n (N.write d k x) := by
  refine (bch_write_any _ _ _ _ _ h.at' d k x A n c hn hd hk hr hps hdn).mono ?_
  rintro e w' ⟨rfl, ht⟩
  exact ⟨rfl, h.to ht⟩
theorem bp_flush (d : Int) (hd : i64B d) : Calls Try.prog 25 #[.pointer (some ⟨b, 0, none⟩), .int .i64 d] w fun e w' => e = .returned (.int .i64 (N.flushE d)) ∧ BC W w w' b H N.n (N.flush d) := by
  refine (bch_flush_any _ _ _ _ _ h.at' d hd).mono ?_
  rintro e w' ⟨rfl, ht⟩
  exact ⟨rfl, h.to ht⟩
theorem bp_fail (d : Int) (hd : i64B d) : Calls Try.prog 18 #[.pointer (some ⟨b, 0, none⟩), .int .i64 d] w fun e w' => e = .returned (.int .i64 (N.pickE d)) ∧ BC W w w' b H N.n (N.fail d) := by
  refine (bch_fail_any _ _ _ _ _ h.at' d hd).mono ?_
  rintro e w' ⟨rfl, ht⟩
  exact ⟨rfl, h.to ht⟩
theorem bp_replace (d : Int) (hd : i64B d) : Calls Try.prog 20 #[.pointer (some ⟨b, 0, none⟩), .int .i64 d] w fun e w' => e = .returned (.int .i64 (N.replaceE d)) ∧ BC W w w' b H N.n (N.replace d) := by
  refine (bch_replace_any _ _ _ _ _ h.at' d hd).mono ?_
  rintro e w' ⟨rfl, ht⟩
  exact ⟨rfl, h.to ht⟩
theorem bp_crash (ks : List Bool) (A : Option Addr) (n c : Nat) (hn : n = ks.length) (hc : ks.length ≤ c) (hk : RdO w w.heap.size A ks) (q : Nat) (hq : 0 < ks.length → ∀ a, A = some a → a.block = q) (hqn : ¬ BF b H N.n q) (hps : ∀ i, i < N.n → (N.D i).ps.length ≤ 2000000) :
    Calls Try.prog 12 #[.pointer (some ⟨b, 0, none⟩), .slice A n c] w fun e w' => e = .returned (.tuple #[]) ∧ BC W w w' b H N.n (N.crash ks) := by
  refine (bch_crash_any _ _ _ _ _ h.at' ks A n c hn hc hk q hq hqn hps).mono ?_
  rintro e w' ⟨rfl, ht⟩
  exact ⟨rfl, h.to ht⟩
end
/-- A slice of yes and no that lay there before is none of a bench's. -/
theorem keep_q {W w : World} {b : Nat} {H : BH} {N : Bch} (h : BP W w b H N) {A : Option Addr} {ks : List Bool} (hk : RdO W W.heap.size A ks) : ∃ q, (0 < ks.length → ∀ a, A = some a → a.block = q) ∧ ¬ BF b H N.n q := by
  by_cases h0 : 0 < ks.length
  · obtain ⟨lb, off, rfl, hlb, _⟩ := hk.2 h0
    exact ⟨lb, fun _ a e => by injection e with e; rw [← e], fun hb => by have := (h.at'.flt hb).1; omega⟩
  · exact ⟨w.heap.size, fun h => absurd h h0, fun hb => by have := (h.at'.flt hb).2; omega⟩
theorem bp_crash_arg {W w : World} {b : Nat} {H : BH} {N : Bch} (h : BP W w b H N) (ks : List Bool) (A : Option Addr) (n c : Nat) (hn : n = ks.length) (hc : ks.length ≤ c) (hk : RdO W W.heap.size A ks) (hps : ∀ i, i < N.n → (N.D i).ps.length ≤ 2000000) :
    Calls Try.prog 12 #[.pointer (some ⟨b, 0, none⟩), .slice A n c] w fun e w' => e = .returned (.tuple #[]) ∧ BC W w w' b H N.n (N.crash ks) := by
  obtain ⟨q, hq, hqn⟩ := keep_q h hk
  exact bp_crash W w b H N h ks A n c hn hc ((hk.below h.bel (Nat.le_refl _)).more h.bel.size) q hq hqn hps
theorem ptr_ne (b : Nat) (w : World) : (binOp .neq 24 (.pointer (some ⟨b, 0, none⟩)) (.pointer none)).run Try.prog w = .ok (.bool true) w := rfl
theorem ptr_eq (b : Nat) (w : World) : (binOp .eql 24 (.pointer (some ⟨b, 0, none⟩)) (.pointer none)).run Try.prog w = .ok (.bool false) w := rfl
theorem i64n {n : Nat} (h : n ≤ 2000000) : i64B (n : Int) := ⟨by omega, by omega⟩
namespace Bch
/-- A write that is done. -/
theorem write_ok {N : Bch} {d k : Nat} {x : List UInt8} (hd : d < N.n) (hk : k < 52) (hx : x.length = 32) (hf : (N.D d).f = false) (hdn : N.down = false) (hl : N.left ≠ 0) :
    N.writeE (d : Int) (k : Int) x.length = 0 ∧ N.write (d : Int) (k : Int) x = (N.set d ((N.D d).write k x)).count := by
  have hp : N.powE (d : Int) = 0 := powE_ok (pickE_ok (by omega) (by omega)) hdn
  have ht : takeE (N.at_ (d : Int)).f (k : Int) x.length = 0 := by
    rw [hx, show (N.at_ (d : Int)).f = false from hf]; exact takeE_ok (by omega) (by omega)
  constructor
  · unfold writeE countE
    rw [if_neg (show ¬ N.powE (d : Int) ≠ 0 by simp [hp]), if_neg (fun e => e ht), if_neg hl]
  · unfold write
    rw [if_neg (show ¬ N.powE (d : Int) ≠ 0 by simp [hp]), if_neg (fun e => e ht), if_neg hl]
    rfl
theorem count_free {N : Bch} (h : N.left = -1) : N.count = { N with done := N.done + 1 } := by
  unfold count
  rw [if_neg (by omega), if_pos h]
  cases N
  simp only at h
  subst h
  rfl
theorem read_ok {N : Bch} {d k : Nat} (hd : d < N.n) (hk : k < 52) (hf : (N.D d).f = false) (hdn : N.down = false) : N.readE (d : Int) (k : Int) = 0 ∧ N.read (d : Int) (k : Int) = secAt (N.D d).now k := by
  have hp : N.powE (d : Int) = 0 := powE_ok (pickE_ok (by omega) (by omega)) hdn
  have he : N.readE (d : Int) (k : Int) = 0 := by
    unfold readE
    rw [if_neg (show ¬ N.powE (d : Int) ≠ 0 by simp [hp]), show (N.at_ (d : Int)).f = false from hf]
    exact reachE_ok (by omega) (by omega)
  refine ⟨he, ?_⟩
  unfold read
  rw [if_neg (fun e => e he)]
  rfl
end Bch
set_option maxHeartbeats 400000 in
theorem bwakes_any (W : World) : Calls Try.prog 17 #[] W fun e w' => e = .returned (.bool true) ∧ Below W.heap.size W w' := by
  have hpn := ptr_ne
  have CN := Lib.hid (bp_new 3 W W (Below.refl _ _) (by omega))
  have HW := Lib.hid (show (Bch.new 3).writeE 0 1 32 = 0 ∧ (Bch.new 3).write 0 1 (sectorB 3) = { (Bch.new 3).set 0 (Dsk.new.write 1 (sectorB 3)) with done := 1 } by
    have h := Bch.write_ok (N := Bch.new 3) (d := 0) (k := 1) (x := sectorB 3) (by decide) (by decide) (sectorB_len 3) rfl rfl (by decide)
    rw [Bch.count_free rfl, sectorB_len] at h
    exact h)
  have hdn : (Bch.new 3).down = false := rfl
  have hn3 : ((Bch.new 3).n : Int) = 3 := rfl
  go_enter Try.func17, Try.ntmps17
  go_wp2_with fail
  refine CN.out.mono ?_
  rintro e w ⟨b, H, rfl, hp, _, _⟩
  unfold ptr
  have hbl := hp.bel.size
  go_wp2_with (first
    | (go_at_call 34; refine (bp_down _ _ _ _ _ hp).mono ?_; rintro e w2 ⟨rfl, rfl⟩)
    | (go_at_call 21; refine (bp_len _ _ _ _ _ hp).mono ?_; rintro e w3 ⟨rfl, rfl⟩)
    | (go_at_call 11; refine (sector_any 3 _ (by omega)).mono ?_; rintro e w4 ⟨g, rfl, ho, hb4⟩; have hp4 := hp.grow hb4; have hr4 := ho.rdS.1; have hl4 := ho.lt g rfl; clear ho hb4)
    | (go_at_call 10; refine (bp_write _ _ _ _ _ hp4 0 1 (sectorB 3) _ 32 32 (sectorB_len 3).symm ⟨by omega, by omega⟩ ⟨by omega, by omega⟩ hr4 (fun i _ => by show (0 : Nat) ≤ _; omega) (by show (0 : Nat) ≤ _; omega)).mono ?_; rintro e w5 ⟨rfl, H5, hp5, _, _⟩; rw [HW.out.2] at hp5; rw [HW.out.1])
    | (go_at_call 15; refine (bp_writes _ _ _ _ _ hp5).mono ?_; rintro e w6 ⟨rfl, rfl⟩))
  go_ret
  exact ⟨rfl, hp5.bel⟩
end Go.Proofs.Ytpiilfgikgkneaa
