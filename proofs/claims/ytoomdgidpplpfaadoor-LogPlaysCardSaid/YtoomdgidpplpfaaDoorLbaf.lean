/- Texts put together: Within, BchQ, BcSeq, Kx. -/
import Derived.Test.YtoomdgidpplpfaaDoorLbac
import Derived.Test.YtoomdgidpplpfaaDoorLbae
section
namespace Go.Proofs.YtoomdgidpplpfaaDoor
open Go.RowKit

/-- Up to a length. -/
theorem within_upto (v : Int) (n : Nat) (hn : n ≤ 9223372036854775807) : 0 ≤ withinI v (IntKind.i64.wrap ((n : Int) + 1)) ∧ withinI v (IntKind.i64.wrap ((n : Int) + 1)) ≤ (n : Int) := by
  by_cases h : n ≤ 9223372036854775806
  · rw [show IntKind.i64.wrap ((n : Int) + 1) = (n : Int) + 1 by rw [IntKind.wrap_i64]; omega]
    have := withinI_bd v ((n : Int) + 1) (by omega)
    omega
  · obtain rfl : n = 9223372036854775807 := by omega
    have : withinI v (IntKind.i64.wrap (((9223372036854775807 : Nat) : Int) + 1)) = 0 := by
      unfold withinI; rw [if_pos (by rw [IntKind.wrap_i64]; omega)]
    omega
end Go.Proofs.YtoomdgidpplpfaaDoor
end
section
set_option maxRecDepth 8000
namespace Go.Proofs.YtoomdgidpplpfaaDoor
open Go.RowKit

/-- The bench N, made since W. -/
structure BP (W w : World) (b : Nat) (H : BH) (N : Bch) : Prop where
  at' : BAt w W.heap.size b H N
  bel : Below W.heap.size W w
/-- New memory alone came to the blocks of a bench. -/
def BNew (w : World) (b : Nat) (H H' : BH) (n : Nat) : Prop := ∀ k, BF b H' n k → BF b H n k ∨ w.heap.size ≤ k
section
variable {W w w' : World} {b : Nat} {H : BH} {N : Bch}
theorem BP.to (h : BP W w b H N) {N' : Bch} (ht : BTo w w' W.heap.size b H N.n N') : ∃ H', BP W w' b H' N' ∧ Chg (BF b H N.n) w w' ∧ BNew w b H H' N.n := by
  obtain ⟨H', a, c, _, m⟩ := ht
  exact ⟨H', ⟨a, h.bel.trans (c.below (fun k hk => (h.at'.flt hk).1) h.bel.size)⟩, c, m⟩
theorem BP.grow (h : BP W w b H N) (hb : Below w.heap.size w w') : BP W w' b H N := ⟨h.at'.below hb, h.bel.trans (hb.mono h.bel.size)⟩
theorem BP.drew (h : BP W w b H N) : BP W w.drew b H N := h.grow (Below.refl _ _).drew
theorem BP.alloc (h : BP W w b H N) (o : Obj) : BP W (w.alloc o) b H N := h.grow (below1 w o)
theorem BP.chg {F : Nat → Prop} (h : BP W w b H N) (hc : Chg F w w') (hF : ∀ k, F k → W.heap.size ≤ k) (hn : ∀ k, BF b H N.n k → ¬ F k) : BP W w' b H N :=
  ⟨h.at'.chg hc hn, h.bel.trans (hc.below hF h.bel.size)⟩
end
/-- What came of a call: the bench, what was written, what came to it. -/
def BC (W w w' : World) (b : Nat) (H : BH) (n : Nat) (N' : Bch) : Prop := ∃ H', BP W w' b H' N' ∧ Chg (BF b H n) w w' ∧ BNew w b H H' n
theorem bp_new (n : Nat) (W w : World) (hb : Below W.heap.size W w) (hn : 1 ≤ n ∧ n ≤ 8) : Calls Tryd.prog 7 #[.int .i64 (n : Int)] w fun e w' => ∃ b H, e = .returned (.tuple #[ptr b, .int .i64 0]) ∧ BP W w' b H (Bch.new n) ∧ Below w.heap.size w w' ∧ ∀ k, BF b H n k → w.heap.size ≤ k := by
  refine (bch_new_ok n w hn).mono ?_
  rintro e w' ⟨b, H, rfl, a, hb'⟩
  exact ⟨b, H, rfl, ⟨a.mono hb.size, hb.trans (hb'.mono hb.size)⟩, hb', fun k hk => (a.flt hk).1⟩
section
variable (W w : World) (b : Nat) (H : BH) (N : Bch) (h : BP W w b H N)
include h
theorem bp_len : Calls Tryd.prog 33 #[.pointer (some ⟨b, 0, none⟩)] w fun e w' => e = .returned (.int .i64 (N.n : Int)) ∧ w' = w := bch_len_any _ _ _ _ _ h.at'
theorem bp_pending (hps : ∀ i, i < N.n → (N.D i).ps.length ≤ 2000000) : Calls Tryd.prog 20 #[.pointer (some ⟨b, 0, none⟩)] w fun e w' => e = .returned (.int .i64 (N.pend : Int)) ∧ Below w.heap.size w w' := bch_pending_any _ _ _ _ _ h.at' hps
theorem bp_pending_eq (hps : ∀ i, i < N.n → (N.D i).ps.length ≤ 2000000) : Calls Tryd.prog 20 #[.pointer (some ⟨b, 0, none⟩)] w fun e w' => e = .returned (.int .i64 (N.pend : Int)) ∧ w' = w := bch_pending_eq _ _ _ _ _ h.at' hps
theorem bp_failed (d : Int) (hd : i64B d) : Calls Tryd.prog 25 #[.pointer (some ⟨b, 0, none⟩), .int .i64 d] w fun e w' => e = .returned (.bool (N.failed d)) ∧ w' = w := bch_failed_any _ _ _ _ _ h.at' d hd
theorem bp_read (d k : Int) (hd : i64B d) (hk : i64B k) : Calls Tryd.prog 21 #[.pointer (some ⟨b, 0, none⟩), .int .i64 d, .int .i64 k] w fun e w' => ∃ v, e = .returned (.tuple #[v, .int .i64 (N.readE d k)]) ∧ OwB 5 w' w.heap.size v (N.read d k) ∧ Below w.heap.size w w' := bch_read_any _ _ _ _ _ h.at' d k hd hk
theorem bp_write (d k : Int) (x : List UInt8) (A : Option Addr) (n c : Nat) (hn : n = x.length) (hd : i64B d) (hk : i64B k) (hr : RdB w w.heap.size A x) (hps : ∀ i, i < N.n → (N.D i).ps.length ≤ 2000000) (hdn : N.done ≤ 2000000) :
    Calls Tryd.prog 50 #[.pointer (some ⟨b, 0, none⟩), .int .i64 d, .int .i64 k, .slice A n c] w fun e w' => e = .returned (.int .i64 (N.writeE d k n)) ∧ BC W w w' b H N.n (N.write d k x) := by
  refine (bch_write_any _ _ _ _ _ h.at' d k x A n c hn hd hk hr hps hdn).mono ?_
  rintro e w' ⟨rfl, ht⟩
  exact ⟨rfl, h.to ht⟩
theorem bp_flush (d : Int) (hd : i64B d) : Calls Tryd.prog 52 #[.pointer (some ⟨b, 0, none⟩), .int .i64 d] w fun e w' => e = .returned (.int .i64 (N.flushE d)) ∧ BC W w w' b H N.n (N.flush d) := by
  refine (bch_flush_any _ _ _ _ _ h.at' d hd).mono ?_
  rintro e w' ⟨rfl, ht⟩
  exact ⟨rfl, h.to ht⟩
theorem bp_fail (d : Int) (hd : i64B d) : Calls Tryd.prog 15 #[.pointer (some ⟨b, 0, none⟩), .int .i64 d] w fun e w' => e = .returned (.int .i64 (N.pickE d)) ∧ BC W w w' b H N.n (N.fail d) := by
  refine (bch_fail_any _ _ _ _ _ h.at' d hd).mono ?_
  rintro e w' ⟨rfl, ht⟩
  exact ⟨rfl, h.to ht⟩
end
theorem ptr_ne (b : Nat) (w : World) : (binOp .neq 23 (.pointer (some ⟨b, 0, none⟩)) (.pointer none)).run Tryd.prog w = .ok (.bool true) w := rfl
theorem ptr_eq (b : Nat) (w : World) : (binOp .eql 23 (.pointer (some ⟨b, 0, none⟩)) (.pointer none)).run Tryd.prog w = .ok (.bool false) w := rfl
theorem i64n {n : Nat} (h : n ≤ 2000000) : i64B (n : Int) := ⟨by omega, by omega⟩
namespace Bch
/-- A write that is done. -/
theorem write_ok {N : Bch} {d k : Nat} {x : List UInt8} (hd : d < N.n) (hk : k < 52) (hx : x.length = 32) (hf : (N.D d).f = false) (hdn : N.down = false) (hl : N.left ≠ 0) :
    N.writeE (d : Int) (k : Int) x.length = 0 ∧ N.write (d : Int) (k : Int) x = (N.set d ((N.D d).write k x)).count := by
  have hp : N.powE (d : Int) = 0 := powE_ok (pickE_ok (by omega) (by omega)) hdn
  have ht : takeE (N.at_ (d : Int)).f (k : Int) x.length = 0 := by
    rw [hx, show (N.at_ (d : Int)).f = false from hf]; exact takeE_ok (by omega) (by omega)
  constructor
  · unfold writeE countE
    rw [if_neg (show ¬ N.powE (d : Int) ≠ 0 by simp [hp]), if_neg (fun e => e ht), if_neg hl]
  · unfold write
    rw [if_neg (show ¬ N.powE (d : Int) ≠ 0 by simp [hp]), if_neg (fun e => e ht), if_neg hl]
    rfl
theorem count_free {N : Bch} (h : N.left = -1) : N.count = { N with done := N.done + 1 } := by
  unfold count
  rw [if_neg (by omega), if_pos h]
  cases N
  simp only at h
  subst h
  rfl
theorem read_ok {N : Bch} {d k : Nat} (hd : d < N.n) (hk : k < 52) (hf : (N.D d).f = false) (hdn : N.down = false) : N.readE (d : Int) (k : Int) = 0 ∧ N.read (d : Int) (k : Int) = secAt (N.D d).now k := by
  have hp : N.powE (d : Int) = 0 := powE_ok (pickE_ok (by omega) (by omega)) hdn
  have he : N.readE (d : Int) (k : Int) = 0 := by
    unfold readE
    rw [if_neg (show ¬ N.powE (d : Int) ≠ 0 by simp [hp]), show (N.at_ (d : Int)).f = false from hf]
    exact reachE_ok (by omega) (by omega)
  refine ⟨he, ?_⟩
  unfold read
  rw [if_neg (fun e => e he)]
  rfl
end Bch
end Go.Proofs.YtoomdgidpplpfaaDoor
end
section
set_option linter.unusedVariables false
set_option linter.unusedSimpArgs false
namespace Go.Proofs.YtoomdgidpplpfaaDoor
open Go.RowKit

section
variable {W w w1 w2 : World} {b n : Nat} {H H1 : BH} {N2 : Bch}
theorem BC.seq (c1 : Chg (BF b H n) w w1) (n1 : BNew w b H H1 n) (h2 : BC W w1 w2 b H1 n N2) : BC W w w2 b H n N2 := by
  obtain ⟨H2, a2, c2, m2⟩ := h2
  refine ⟨H2, a2, c1.trans c2 fun k hk e => ?_, fun k hk => ?_⟩
  · rcases n1 k e with h | h
    · exact h
    · omega
  · rcases m2 k hk with h | h
    · exact n1 k h
    · exact .inr (Nat.le_trans c1.size h)
theorem BC.below (hb : Below w.heap.size w w1) (h2 : BC W w1 w2 b H n N2) : BC W w w2 b H n N2 := h2.seq (chg_below _ hb) fun _ h => .inl h
theorem BC.then (h1 : BC W w w1 b H n N2) (hb : Below w1.heap.size w1 w2) : BC W w w2 b H n N2 := by
  obtain ⟨H1, a1, c1, m1⟩ := h1
  exact ⟨H1, a1.grow hb, c1.ofBelow hb c1.size, m1⟩
theorem BP.self {N : Bch} (h : BP W w b H N) : BC W w w b H N.n N := ⟨H, h, Chg.refl _ _, fun _ h => .inl h⟩
/-- What no call on the bench touches: blocks that were there, and are none of its own. -/
theorem BC.off {k : Nat} (h1 : BNew w b H H1 n) (hk : k < w.heap.size) (o : ¬ BF b H n k) : ¬ BF b H1 n k := fun e => by
  rcases h1 k e with h | h
  · exact o h
  · omega
end
theorem cell_chg {F : Nat → Prop} {w w' : World} {p o : Nat} {v : Value} (h : w.cell? ⟨p, o, none⟩ = some v) (hc : Chg F w w') (ho : ¬ F p) : w'.cell? ⟨p, o, none⟩ = some v :=
  (World.cell?_of_block (a := ⟨p, o, none⟩) (hc.block p (World.block_lt_of_cell? _ _ h) ho)).trans h
theorem RdB.chg {F : Nat → Prop} {w w' : World} {g : Nat} {x : List UInt8} (h : RdB w w.heap.size (some ⟨g, 0, none⟩) x) (hc : Chg F w w') (ho : ¬ F g) : RdB w' w'.heap.size (some ⟨g, 0, none⟩) x :=
  ⟨h.1, fun hn => by
    obtain ⟨b, off, e, hb, hk⟩ := h.2 hn
    injection e with e
    injection e with e1 e2 _
    subst e1 e2
    exact ⟨g, 0, rfl, Nat.lt_of_lt_of_le hb hc.size, fun k hk' => (World.cell?_of_block (a := ⟨g, 0 + k, none⟩) (hc.block g hb ho)).trans (hk k hk')⟩⟩
theorem RdO.chgq {F : Nat → Prop} {w w' : World} {A : Option Addr} {lv : List Bool} {q : Nat} (h : RdO w w.heap.size A lv) (hq : 0 < lv.length → ∀ a, A = some a → a.block = q) (hc : Chg F w w') (ho : ¬ F q) : RdO w' w'.heap.size A lv :=
  ⟨h.1, fun hn => by
    obtain ⟨b, off, rfl, hb, hk⟩ := h.2 hn
    obtain rfl : b = q := hq hn _ rfl
    exact ⟨b, off, rfl, Nat.lt_of_lt_of_le hb hc.size, fun k hk' => (World.cell?_of_block (a := ⟨b, off + k, none⟩) (hc.block b hb ho)).trans (hk k hk')⟩⟩
end Go.Proofs.YtoomdgidpplpfaaDoor
end
section
set_option maxRecDepth 8000
set_option linter.unusedVariables false
set_option linter.unusedSimpArgs false
namespace Go.Proofs.YtoomdgidpplpfaaDoor
open Go.RowKit

structure KX (W w : World) (b : Nat) (H : BH) (N : Bch) (K : List (Nat × Obj)) : Prop where
  bp : BP W w b H N
  kp : ∀ p ∈ K, w.heap[p.1]? = some p.2 ∧ ¬ BF b H N.n p.1 ∧ W.heap.size ≤ p.1
section
variable {W w w' : World} {b : Nat} {H : BH} {N : Bch} {K : List (Nat × Obj)}
theorem KX.below (h : KX W w b H N K) (hb : Below w.heap.size w w') : KX W w' b H N K :=
  ⟨h.bp.grow hb, fun p hp => ⟨(hb.block _ (Array.getElem?_eq_some_iff.1 (h.kp p hp).1).1).trans (h.kp p hp).1, (h.kp p hp).2⟩⟩
theorem KX.bc (h : KX W w b H N K) {N' : Bch} (hc : BC W w w' b H N.n N') (hn : N'.n = N.n) : ∃ H', KX W w' b H' N' K := by
  obtain ⟨H', a, c, m⟩ := hc
  refine ⟨H', a, fun p hp => ?_⟩
  obtain ⟨h1, h2, h3⟩ := h.kp p hp
  have hl := (Array.getElem?_eq_some_iff.1 h1).1
  exact ⟨(c.block _ hl h2).trans h1, by rw [hn]; exact BC.off m hl h2, h3⟩
theorem KX.add (h : KX W w b H N K) (o : Obj) : KX W (w.alloc o) b H N ((w.heap.size, o) :: K) := by
  refine ⟨h.bp.alloc o, fun p hp => ?_⟩
  rcases List.mem_cons.1 hp with rfl | hp
  · exact ⟨heap_alloc_new _ _, (fun e => by have h9 : w.heap.size < w.heap.size := (h.bp.at'.flt e).2; omega), h.bp.bel.size⟩
  · exact (h.below (below1 w o)).kp p hp
theorem KX.box (h : KX W w b H N K) (o : Obj) {o' : Obj} (hg : (w.alloc o).grownBy w' (some w.heap.size)) (hb : w'.heap[w.heap.size]? = some o') : KX W w' b H N ((w.heap.size, o') :: K) := by
  have hB : Below w.heap.size w w' := (below1 w o).grown hg (by simp) (fun j e => by injection e with e; omega)
  refine ⟨h.bp.grow hB, fun p hp => ?_⟩
  rcases List.mem_cons.1 hp with rfl | hp
  · exact ⟨hb, (fun e => by have h9 : w.heap.size < w.heap.size := (h.bp.at'.flt e).2; omega), h.bp.bel.size⟩
  · exact (h.below hB).kp p hp
/-- A kept block is written. -/
theorem KX.put (h : KX W w b H N K) {p : Nat} {o o' : Obj} {K1 K2 : List (Nat × Obj)} (hK : K = K1 ++ (p, o) :: K2) (hg : w.grownBy w' (some p)) (hb : w'.heap[p]? = some o') (hne : ∀ r ∈ K1 ++ K2, r.1 ≠ p) : KX W w' b H N (K1 ++ (p, o') :: K2) := by
  subst hK
  have hp := h.kp (p, o) (by simp)
  have hch := chg_grown hg
  refine ⟨h.bp.chg hch (fun k e => by injection e with e; subst e; exact hp.2.2) (fun k hk e => by injection e with e; subst e; exact hp.2.1 hk), fun r hr => ?_⟩
  rcases List.mem_append.1 hr with h1 | h1
  · have h2 := h.kp r (by simp [h1])
    exact ⟨(hg.block _ (Array.getElem?_eq_some_iff.1 h2.1).1 (fun e => by injection e with e; exact hne r (by simp [h1]) e)).trans h2.1, h2.2⟩
  · rcases List.mem_cons.1 h1 with rfl | h1
    · exact ⟨hb, hp.2⟩
    · have h2 := h.kp r (by simp [h1])
      exact ⟨(hg.block _ (Array.getElem?_eq_some_iff.1 h2.1).1 (fun e => by injection e with e; exact hne r (by simp [h1]) e)).trans h2.1, h2.2⟩
end
theorem rdo_row {w : World} {g : Nat} {l : List Bool} {cs : Array Value} {t : TypeId} {f : Nat × Nat} (h : w.heap[g]? = some (.cells cs t f)) (hcs : cs = (l.map Value.bool).toArray) (hl : l.length ≤ 1000000) : RdO w w.heap.size (some ⟨g, 0, none⟩) l := by
  subst hcs
  refine ⟨by omega, fun hn => ⟨g, 0, rfl, (Array.getElem?_eq_some_iff.1 h).1, fun k hk => ?_⟩⟩
  rw [Nat.zero_add, cell_of_row w g k _ t f h, List.getElem?_toArray, List.getElem?_map, List.getElem?_eq_getElem hk]
  simp [List.getD_eq_getElem?_getD, hk]
theorem damage_n (N : Bch) (d k : Int) (x : List UInt8) : (N.damage d k x).n = N.n := by unfold Bch.damage; split <;> rfl
theorem fail_n (N : Bch) (d : Int) : (N.fail d).n = N.n := by unfold Bch.fail; split <;> rfl
theorem limit_n (N : Bch) (v : Int) : (N.limit v).n = N.n := by unfold Bch.limit; split <;> rfl
/-- Three of yes and no. -/
theorem KX.old {W w : World} {b : Nat} {H : BH} {N : Bch} {K : List (Nat × Obj)} (h : KX W w b H N K) {g : Nat} {o : Obj} (hg : w.heap[g]? = some o) (off : ¬ BF b H N.n g) (hW : W.heap.size ≤ g) : KX W w b H N ((g, o) :: K) :=
  ⟨h.bp, fun p hp => by
    rcases List.mem_cons.1 hp with rfl | hp
    · exact ⟨hg, off, hW⟩
    · exact h.kp p hp⟩
theorem KX.off {W w : World} {b : Nat} {H : BH} {N : Bch} {K : List (Nat × Obj)} (h : KX W w b H N K) {g : Nat} (hg : w.heap.size ≤ g) : ¬ BF b H N.n g := fun e => by have := (h.bp.at'.flt e).2; omega
section
variable {W w : World} {b : Nat} {H : BH} {N : Bch} {K : List (Nat × Obj)} (h : KX W w b H N K)
include h
theorem kx_damage (d k : Int) (x : List UInt8) (A : Option Addr) (n c : Nat) (hn : n = x.length) (hd : i64B d) (hk : i64B k) (hr : RdB w w.heap.size A x) (hps : ∀ i, i < N.n → (N.D i).ps.length ≤ 1999990) :
    Calls Tryd.prog 17 #[.pointer (some ⟨b, 0, none⟩), .int .i64 d, .int .i64 k, .slice A n c] w fun e w' => e = .returned (.int .i64 (N.damageE d k n)) ∧ ∃ H', KX W w' b H' (N.damage d k x) K := by
  refine (bch_damage_any _ b H N w h.bp.at' d k x A n c hn hd hk hr (fun i hi => Nat.le_trans (hps i hi) (by omega))).mono ?_
  rintro e w' ⟨rfl, ht⟩
  obtain ⟨H', k'⟩ := h.bc (h.bp.to ht) (damage_n _ _ _ _)
  exact ⟨rfl, H', k'⟩
end
end Go.Proofs.YtoomdgidpplpfaaDoor
end
