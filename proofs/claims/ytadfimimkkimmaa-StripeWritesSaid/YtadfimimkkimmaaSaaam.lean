/- Texts put together: Within, BchQ, OwnInt, StpSmall, StpRead, StpSame, BcSeq. -/
import Derived.Test.YtadfimimkkimmaaSaaaa
import Derived.Test.YtadfimimkkimmaaSaaal
import Derived.Test.YtadfimimkkimmaaSaaaf
import Derived.Test.YtadfimimkkimmaaSaaaj
import Derived.Test.YtadfimimkkimmaaProg
import Derived.Test.YtadfimimkkimmaaSaaak
import Derived.Test.YtadfimimkkimmaaSaaag
import Derived.Test.YtadfimimkkimmaaSaaai
section
namespace Go.Proofs.Ytadfimimkkimmaa
open Go.RowKit

/-- Up to a length. -/
theorem within_upto (v : Int) (n : Nat) (hn : n ≤ 9223372036854775807) : 0 ≤ withinI v (IntKind.i64.wrap ((n : Int) + 1)) ∧ withinI v (IntKind.i64.wrap ((n : Int) + 1)) ≤ (n : Int) := by
  by_cases h : n ≤ 9223372036854775806
  · rw [show IntKind.i64.wrap ((n : Int) + 1) = (n : Int) + 1 by rw [IntKind.wrap_i64]; omega]
    have := withinI_bd v ((n : Int) + 1) (by omega)
    omega
  · obtain rfl : n = 9223372036854775807 := by omega
    have : withinI v (IntKind.i64.wrap (((9223372036854775807 : Nat) : Int) + 1)) = 0 := by
      unfold withinI; rw [if_pos (by rw [IntKind.wrap_i64]; omega)]
    omega
end Go.Proofs.Ytadfimimkkimmaa
end
section
set_option maxRecDepth 8000
namespace Go.Proofs.Ytadfimimkkimmaa
open Go.RowKit

/-- The bench N, made since W. -/
structure BP (W w : World) (b : Nat) (H : BH) (N : Bch) : Prop where
  at' : BAt w W.heap.size b H N
  bel : Below W.heap.size W w
/-- New memory alone came to the blocks of a bench. -/
def BNew (w : World) (b : Nat) (H H' : BH) (n : Nat) : Prop := ∀ k, BF b H' n k → BF b H n k ∨ w.heap.size ≤ k
section
variable {W w w' : World} {b : Nat} {H : BH} {N : Bch}
theorem BP.to (h : BP W w b H N) {N' : Bch} (ht : BTo w w' W.heap.size b H N.n N') : ∃ H', BP W w' b H' N' ∧ Chg (BF b H N.n) w w' ∧ BNew w b H H' N.n := by
  obtain ⟨H', a, c, _, m⟩ := ht
  exact ⟨H', ⟨a, h.bel.trans (c.below (fun k hk => (h.at'.flt hk).1) h.bel.size)⟩, c, m⟩
theorem BP.grow (h : BP W w b H N) (hb : Below w.heap.size w w') : BP W w' b H N := ⟨h.at'.below hb, h.bel.trans (hb.mono h.bel.size)⟩
theorem BP.drew (h : BP W w b H N) : BP W w.drew b H N := h.grow (Below.refl _ _).drew
theorem BP.alloc (h : BP W w b H N) (o : Obj) : BP W (w.alloc o) b H N := h.grow (below1 w o)
theorem BP.chg {F : Nat → Prop} (h : BP W w b H N) (hc : Chg F w w') (hF : ∀ k, F k → W.heap.size ≤ k) (hn : ∀ k, BF b H N.n k → ¬ F k) : BP W w' b H N :=
  ⟨h.at'.chg hc hn, h.bel.trans (hc.below hF h.bel.size)⟩
end
/-- What came of a call: the bench, what was written, what came to it. -/
def BC (W w w' : World) (b : Nat) (H : BH) (n : Nat) (N' : Bch) : Prop := ∃ H', BP W w' b H' N' ∧ Chg (BF b H n) w w' ∧ BNew w b H H' n
theorem bp_new (n : Nat) (W w : World) (hb : Below W.heap.size W w) (hn : 1 ≤ n ∧ n ≤ 8) : Calls Try.prog 21 #[.int .i64 (n : Int)] w fun e w' => ∃ b H, e = .returned (.tuple #[ptr b, .int .i64 0]) ∧ BP W w' b H (Bch.new n) ∧ Below w.heap.size w w' ∧ ∀ k, BF b H n k → w.heap.size ≤ k := by
  refine (bch_new_ok n w hn).mono ?_
  rintro e w' ⟨b, H, rfl, a, hb'⟩
  exact ⟨b, H, rfl, ⟨a.mono hb.size, hb.trans (hb'.mono hb.size)⟩, hb', fun k hk => (a.flt hk).1⟩
section
variable (W w : World) (b : Nat) (H : BH) (N : Bch) (h : BP W w b H N)
include h
theorem bp_len : Calls Try.prog 44 #[.pointer (some ⟨b, 0, none⟩)] w fun e w' => e = .returned (.int .i64 (N.n : Int)) ∧ w' = w := bch_len_any _ _ _ _ _ h.at'
theorem bp_writes : Calls Try.prog 24 #[.pointer (some ⟨b, 0, none⟩)] w fun e w' => e = .returned (.int .i64 (N.done : Int)) ∧ w' = w := bch_writes_any _ _ _ _ _ h.at'
theorem bp_pending (hps : ∀ i, i < N.n → (N.D i).ps.length ≤ 2000000) : Calls Try.prog 33 #[.pointer (some ⟨b, 0, none⟩)] w fun e w' => e = .returned (.int .i64 (N.pend : Int)) ∧ Below w.heap.size w w' := bch_pending_any _ _ _ _ _ h.at' hps
theorem bp_pending_eq (hps : ∀ i, i < N.n → (N.D i).ps.length ≤ 2000000) : Calls Try.prog 33 #[.pointer (some ⟨b, 0, none⟩)] w fun e w' => e = .returned (.int .i64 (N.pend : Int)) ∧ w' = w := bch_pending_eq _ _ _ _ _ h.at' hps
theorem bp_failed (d : Int) (hd : i64B d) : Calls Try.prog 34 #[.pointer (some ⟨b, 0, none⟩), .int .i64 d] w fun e w' => e = .returned (.bool (N.failed d)) ∧ w' = w := bch_failed_any _ _ _ _ _ h.at' d hd
theorem bp_read (d k : Int) (hd : i64B d) (hk : i64B k) : Calls Try.prog 35 #[.pointer (some ⟨b, 0, none⟩), .int .i64 d, .int .i64 k] w fun e w' => ∃ v, e = .returned (.tuple #[v, .int .i64 (N.readE d k)]) ∧ OwB 5 w' w.heap.size v (N.read d k) ∧ Below w.heap.size w w' := bch_read_any _ _ _ _ _ h.at' d k hd hk
theorem bp_limit (v : Int) (hv : i64B v) : Calls Try.prog 25 #[.pointer (some ⟨b, 0, none⟩), .int .i64 v] w fun e w' => e = .returned (.tuple #[]) ∧ BC W w w' b H N.n (N.limit v) := by
  refine (bch_limit_any _ _ _ _ _ h.at' v hv).mono ?_
  rintro e w' ⟨rfl, ht⟩
  exact ⟨rfl, h.to ht⟩
theorem bp_write (d k : Int) (x : List UInt8) (A : Option Addr) (n c : Nat) (hn : n = x.length) (hd : i64B d) (hk : i64B k) (hr : RdB w w.heap.size A x) (hps : ∀ i, i < N.n → (N.D i).ps.length ≤ 2000000) (hdn : N.done ≤ 2000000) :
    Calls Try.prog 43 #[.pointer (some ⟨b, 0, none⟩), .int .i64 d, .int .i64 k, .slice A n c] w fun e w' => e = .returned (.int .i64 (N.writeE d k n)) ∧ BC W w w' b H N.n (N.write d k x) := by
  refine (bch_write_any _ _ _ _ _ h.at' d k x A n c hn hd hk hr hps hdn).mono ?_
  rintro e w' ⟨rfl, ht⟩
  exact ⟨rfl, h.to ht⟩
theorem bp_flush (d : Int) (hd : i64B d) : Calls Try.prog 46 #[.pointer (some ⟨b, 0, none⟩), .int .i64 d] w fun e w' => e = .returned (.int .i64 (N.flushE d)) ∧ BC W w w' b H N.n (N.flush d) := by
  refine (bch_flush_any _ _ _ _ _ h.at' d hd).mono ?_
  rintro e w' ⟨rfl, ht⟩
  exact ⟨rfl, h.to ht⟩
theorem bp_fail (d : Int) (hd : i64B d) : Calls Try.prog 16 #[.pointer (some ⟨b, 0, none⟩), .int .i64 d] w fun e w' => e = .returned (.int .i64 (N.pickE d)) ∧ BC W w w' b H N.n (N.fail d) := by
  refine (bch_fail_any _ _ _ _ _ h.at' d hd).mono ?_
  rintro e w' ⟨rfl, ht⟩
  exact ⟨rfl, h.to ht⟩
end
theorem ptr_ne (b : Nat) (w : World) : (binOp .neq 26 (.pointer (some ⟨b, 0, none⟩)) (.pointer none)).run Try.prog w = .ok (.bool true) w := rfl
theorem ptr_eq (b : Nat) (w : World) : (binOp .eql 26 (.pointer (some ⟨b, 0, none⟩)) (.pointer none)).run Try.prog w = .ok (.bool false) w := rfl
theorem i64n {n : Nat} (h : n ≤ 2000000) : i64B (n : Int) := ⟨by omega, by omega⟩
namespace Bch
/-- A write that is done. -/
theorem write_ok {N : Bch} {d k : Nat} {x : List UInt8} (hd : d < N.n) (hk : k < 52) (hx : x.length = 32) (hf : (N.D d).f = false) (hdn : N.down = false) (hl : N.left ≠ 0) :
    N.writeE (d : Int) (k : Int) x.length = 0 ∧ N.write (d : Int) (k : Int) x = (N.set d ((N.D d).write k x)).count := by
  have hp : N.powE (d : Int) = 0 := powE_ok (pickE_ok (by omega) (by omega)) hdn
  have ht : takeE (N.at_ (d : Int)).f (k : Int) x.length = 0 := by
    rw [hx, show (N.at_ (d : Int)).f = false from hf]; exact takeE_ok (by omega) (by omega)
  constructor
  · unfold writeE countE
    rw [if_neg (show ¬ N.powE (d : Int) ≠ 0 by simp [hp]), if_neg (fun e => e ht), if_neg hl]
  · unfold write
    rw [if_neg (show ¬ N.powE (d : Int) ≠ 0 by simp [hp]), if_neg (fun e => e ht), if_neg hl]
    rfl
theorem count_free {N : Bch} (h : N.left = -1) : N.count = { N with done := N.done + 1 } := by
  unfold count
  rw [if_neg (by omega), if_pos h]
  cases N
  simp only at h
  subst h
  rfl
theorem read_ok {N : Bch} {d k : Nat} (hd : d < N.n) (hk : k < 52) (hf : (N.D d).f = false) (hdn : N.down = false) : N.readE (d : Int) (k : Int) = 0 ∧ N.read (d : Int) (k : Int) = secAt (N.D d).now k := by
  have hp : N.powE (d : Int) = 0 := powE_ok (pickE_ok (by omega) (by omega)) hdn
  have he : N.readE (d : Int) (k : Int) = 0 := by
    unfold readE
    rw [if_neg (show ¬ N.powE (d : Int) ≠ 0 by simp [hp]), show (N.at_ (d : Int)).f = false from hf]
    exact reachE_ok (by omega) (by omega)
  refine ⟨he, ?_⟩
  unfold read
  rw [if_neg (fun e => e he)]
  rfl
end Bch
end Go.Proofs.Ytadfimimkkimmaa
end
section
set_option linter.unusedVariables false
set_option linter.unusedSimpArgs false
namespace Go.Proofs.Ytadfimimkkimmaa
open Go.RowKit

def zv (z : Int) : Value := .int .i64 z
/-- The slice value v owns these numbers, in a block from B on. -/
def OwJ (w : World) (B : Nat) (v : Value) (zs : List Int) : Prop := w.ownsRow B 3 1 v zs.length (zs.map zv)
/-- The slice reads as these numbers; its cells lie below block B. -/
def RdJ (w : World) (B : Nat) (A : Option Addr) (zs : List Int) : Prop :=
  zs.length ≤ 140737488355328 ∧ (0 < zs.length → ∃ b off, A = some ⟨b, off, none⟩ ∧ b < B ∧ ∀ j, j < zs.length → w.cell? ⟨b, off + j, none⟩ = some (.int .i64 (zs.getD j 0)))
theorem RdJ.below {w w' : World} {B B' : Nat} {A : Option Addr} {zs : List Int} (h : RdJ w B A zs) (hb : Below B' w w') (hB : B ≤ B') : RdJ w' B A zs :=
  ⟨h.1, fun h0 => by
    obtain ⟨b, off, e, hlt, hc⟩ := h.2 h0
    exact ⟨b, off, e, hlt, fun j hj => (hb.cell (p := ⟨b, off + j, none⟩) (by show b < B'; omega)).trans (hc j hj)⟩⟩
theorem RdJ.more {w : World} {B B' : Nat} {A : Option Addr} {zs : List Int} (h : RdJ w B A zs) (hB : B ≤ B') : RdJ w B' A zs :=
  ⟨h.1, fun h0 => by
    obtain ⟨b, off, e, hlt, hc⟩ := h.2 h0
    exact ⟨b, off, e, by omega, hc⟩⟩
theorem RdJ.nil (w : World) (B : Nat) (A : Option Addr) : RdJ w B A [] := ⟨by simp, fun h => by simp at h⟩
theorem OwJ.below {w w' : World} {B : Nat} {v : Value} {zs : List Int} (h : OwJ w B v zs) (hb : Below w.heap.size w w') : OwJ w' B v zs := World.ownsRow.kept h (grown_none hb) (Classical.em _)
theorem OwJ.rd {w : World} {B : Nat} {v : Value} {zs : List Int} (h : OwJ w B v zs) (hl : zs.length ≤ 140737488355328) : ∃ A c, v = .slice A zs.length c ∧ RdJ w w.heap.size A zs := by
  rcases h.2 with ⟨rfl, h0⟩ | ⟨g, cap, cur, rfl, hB, hg, _⟩
  · exact ⟨none, 0, by rw [h0], hl, fun h => by omega⟩
  · refine ⟨_, cap, rfl, hl, fun _ => ⟨g, 0, rfl, (Array.getElem?_eq_some_iff.1 hg).1, fun j hj => ?_⟩⟩
    rw [Nat.zero_add, World.ownsRow.cellAt h j (by omega)]
    simp [hj, zv]
theorem OwJ.le {w : World} {B B' : Nat} {v : Value} {zs : List Int} (h : OwJ w B v zs) (hB : B' ≤ B) : OwJ w B' v zs := by
  refine ⟨h.1, ?_⟩
  rcases h.2 with h1 | ⟨g, cap, cur, h1, h2, r⟩
  · exact .inl h1
  · exact .inr ⟨g, cap, cur, h1, by omega, r⟩
theorem info_z : (Try.prog.info? 3).map (fun i => (i.zero, i.size, i.bytes)) = some (some (.int .i64 0), 1, 8) := by kernel_rfl
theorem make_ints (n : Nat) (hn : n ≤ 1000000) (w : World) :
    (Instr.makeSlice 22 (.int .i64 (n : Int)) (.int .i64 (n : Int))).run Try.prog w = .ok (.slice (some ⟨w.heap.size, 0, none⟩) n n) (w.alloc (.cells (madeCells #[.int .i64 0] n) 3)) :=
  run_make_row' _ _ _ 8 Try.underlying22 info_z rfl _ _ n (by omega) (by omega) w
theorem ownJ_make (w : World) (n : Nat) (hn : n ≤ 1000000) : OwJ (w.alloc (.cells (madeCells #[.int .i64 0] n) 3)) w.heap.size (.slice (some ⟨w.heap.size, 0, none⟩) n n) (List.replicate n 0) := by
  have h := World.ownsRow_lit (base := w.heap.size) (e := 3) (size := 1) w (madeCells #[.int .i64 0] n) n (Nat.le_refl _) (by unfold maxLen; omega) (by simp [size_madeCells])
  rw [toList_madeCells_one] at h
  unfold OwJ
  simpa [zv] using h
theorem OwJ.set {w : World} {B g n c : Nat} {zs : List Int} (h : OwJ w B (.slice (some ⟨g, 0, none⟩) n c) zs) (hn : n = zs.length) (j : Nat) (z : Int) : OwJ (w.setCell ⟨g, j, none⟩ (.int .i64 z)) B (.slice (some ⟨g, 0, none⟩) n c) (zs.set j z) := by
  subst hn
  have h1 := (World.ownsRow.stored h j (.int .i64 z)).1
  unfold OwJ
  rw [List.length_set, List.map_set]
  exact h1
theorem OwJ.cellF {w : World} {B g n c : Nat} {zs : List Int} (h : OwJ w B (.slice (some ⟨g, 0, none⟩) n c) zs) (hn : n = zs.length) (j : Nat) (hj : j < n) : w.cell? ⟨g, j, none⟩ = some (.int .i64 (zs.getD j 0)) ∧ w.frozen? ⟨g, j, none⟩ = false := by
  subst hn
  refine ⟨?_, World.ownsRow.frozenAt h j⟩
  rw [World.ownsRow.cellAt h j (by omega)]
  simp [hj, zv]
theorem ints_take_snoc {ra rb : List Int} {j : Nat} (h : ra.take j = rb.take j) (hj : j < ra.length) (hj' : j < rb.length) (he : ra.getD j 0 = rb.getD j 0) : ra.take (j + 1) = rb.take (j + 1) := by
  rw [List.take_succ_eq_append_getElem hj, List.take_succ_eq_append_getElem hj', h]
  have e : ra[j] = rb[j] := by simpa [hj, hj'] using he
  rw [e]
end Go.Proofs.Ytadfimimkkimmaa
end
section
set_option maxRecDepth 20000
set_option linter.unusedVariables false
set_option linter.unusedSimpArgs false
namespace Go.Proofs.Ytadfimimkkimmaa
open Go.RowKit

theorem stpLive_any (B b : Nat) (H : BH) (N : Bch) (w : World) (h : BAt w B b H N) (lv : List Bool) (A : Option Addr) (n c : Nat) (hn : n = lv.length) (hv : RdO w w.heap.size A lv) (j : Nat) (h1 : j ≤ 1000000) :
    Calls Try.prog 45 #[.pointer (some ⟨b, 0, none⟩), .slice A n c, .int .i64 (j : Int)] w fun e w' => e = .returned (.bool (livD N lv j)) ∧ w' = w := by
  subst hn
  have CL := Lib.hid (bch_len_any B b H N w h)
  have hn8 := h.ok.n
  have hlv := hv.1
  clear h
  unfold ptr at CL
  by_cases c1 : j < N.n
  · have i1 : (j : Int) < (N.n : Int) := by omega
    by_cases c2 : j < lv.length
    · have i2 : (j : Int) < (lv.length : Int) := by omega
      obtain ⟨lb, off, rfl, hlb, hcv⟩ := hv.2 (by omega)
      have hcl := hcv j c2
      have R := Lib.hid (show livD N lv j = lv.getD j false by unfold livD; rw [decide_eq_true c1]; rfl)
      clear hcv hv c1 c2
      generalize lv.getD j false = x at hcl R
      go_enter Try.func45, Try.ntmps45
      go_wp2_with (refine CL.out.mono ?_; rintro e w' ⟨rfl, rfl⟩)
      go_ret
      exact ⟨by rw [R.out]; rfl, rfl⟩
    · have i2 : ¬ ((j : Int) < (lv.length : Int)) := by omega
      have R := Lib.hid (show livD N lv j = false by
        unfold livD; rw [decide_eq_true c1]
        show lv.getD j false = false
        rw [List.getD_eq_getElem?_getD, List.getElem?_eq_none (by omega)]; rfl)
      clear hv c1 c2
      go_enter Try.func45, Try.ntmps45
      go_wp2_with (refine CL.out.mono ?_; rintro e w' ⟨rfl, rfl⟩)
      go_ret
      exact ⟨by rw [R.out]; rfl, rfl⟩
  · have i1 : ¬ ((j : Int) < (N.n : Int)) := by omega
    have R := Lib.hid (show livD N lv j = false by unfold livD; rw [decide_eq_false c1]; rfl)
    clear hv c1
    go_enter Try.func45, Try.ntmps45
    go_wp2_with (refine CL.out.mono ?_; rintro e w' ⟨rfl, rfl⟩)
    go_ret
    exact ⟨by rw [R.out]; rfl, rfl⟩
theorem failed_D {N : Bch} {j : Nat} (h : j < N.n) : N.failed (j : Int) = (N.D j).f := by
  unfold Bch.failed
  rw [if_neg (by rw [Bch.pickE_ok (by omega) (by omega)]; simp)]
  rfl
theorem stpServes_any (B b : Nat) (H : BH) (N : Bch) (w : World) (h : BAt w B b H N) (lv : List Bool) (A : Option Addr) (n c : Nat) (hn : n = lv.length) (hv : RdO w w.heap.size A lv) (j : Nat) (h1 : j ≤ 1000000) :
    Calls Try.prog 42 #[.pointer (some ⟨b, 0, none⟩), .slice A n c, .int .i64 (j : Int)] w fun e w' => e = .returned (.bool (srvD N lv j)) ∧ w' = w := by
  have CL := Lib.hid (stpLive_any B b H N w h lv A n c hn hv j h1)
  have CF := Lib.hid (bch_failed_any B b H N w h (j : Int) (by constructor <;> omega))
  have R : Hid (srvD N lv j = (livD N lv j && !(N.D j).f)) := rfl
  have RF := Lib.hid (show livD N lv j = true → N.failed (j : Int) = (N.D j).f from fun h => failed_D (livD_yes h).1)
  clear hv h hn
  unfold ptr at CF
  cases hx : livD N lv j with
  | false =>
    rw [hx] at CL R
    clear CF RF hx
    go_enter Try.func42, Try.ntmps42
    go_wp2_with (refine CL.out.mono ?_; rintro e w' ⟨rfl, rfl⟩)
    go_ret
    exact ⟨by rw [R.out]; rfl, rfl⟩
  | true =>
    rw [RF.out hx] at CF
    rw [hx] at CL R
    clear RF hx
    generalize (N.D j).f = y at CF R
    go_enter Try.func42, Try.ntmps42
    go_wp2_with (first
      | (go_at_call 45; refine CL.out.mono ?_; rintro e w' ⟨rfl, rfl⟩)
      | (go_at_call 34; refine CF.out.mono ?_; rintro e w' ⟨rfl, rfl⟩))
    go_ret
    exact ⟨by rw [R.out]; rfl, rfl⟩
theorem index_any (A : Option Addr) (zs : List Int) (n cp : Nat) (x : Int) (k : Nat) (w : World) (hn : zs.length = n) (hr : RdJ w w.heap.size A zs) (hk : k < zs.length) (hx : zs.getD k 0 = x) (ho : ∀ j, j < k → zs.getD j 0 ≠ x) :
    Calls Try.prog 54 #[.slice A n cp, .int .i64 x] w fun e w' => e = .returned (.int .i64 (k : Int)) ∧ w' = w := by
  subst hn
  have hl := hr.1
  obtain ⟨b, off, rfl, hbb, hc⟩ := hr.2 (by omega)
  have Hx := Lib.hid hx
  have Ho := Lib.hid ho
  have Hc := Lib.hid hc
  clear hx ho hc
  go_enter Try.func54, Try.ntmps54
  go_wp2
  go_loopw [8] (fun i wr => ∃ j : Nat, j ≤ k ∧ i = .int .i64 j ∧ wr = w) (fun i _ => zs.length - (intOf i).toNat)
  case atStart => exact ⟨0, Nat.zero_le _, rfl, rfl⟩
  case round =>
    obtain ⟨j, hj, rfl, rfl⟩ := hrel
    have i0 : (0 : Int) ≤ (j : Int) := by omega
    have i1 : (j : Int) < (zs.length : Int) := by omega
    have h1 := Hc.out j (by omega)
    by_cases e : j = k
    · subst e
      rw [Hx.out] at h1
      have e1 : (x == x) = true := by simp
      go_wp2
      go_ret
      exact ⟨rfl, rfl⟩
    · have hne := Ho.out j (by omega)
      generalize zs.getD j 0 = y at h1 hne
      have e1 : (x == y) = false := by rw [beq_eq_false_iff_ne]; exact fun e => hne e.symm
      go_wp2
      go_roundw
      case rel => exact ⟨j + 1, by omega, by go_num, trivial⟩
      case measure => simp [intOf]; omega
end Go.Proofs.Ytadfimimkkimmaa
end
section
set_option maxRecDepth 20000
set_option linter.unusedVariables false
set_option linter.unusedSimpArgs false
namespace Go.Proofs.Ytadfimimkkimmaa
open Go.RowKit

theorem ck_ok {l d c r : Int} (hl : -9223372036854775808 ≤ l ∧ l ≤ 9223372036854775807) (hd : -9223372036854775808 ≤ d ∧ d ≤ 9223372036854775807) (hc : -9223372036854775808 ≤ c ∧ c ≤ 9223372036854775807) (hT : plOk l d c r = true) :
    ∀ W, Calls Try.prog 49 #[.agg #[.int .i64 l, .int .i64 d, .int .i64 c]] W fun e w' => e = .returned (.int .i64 0) ∧ Below W.heap.size W w' := fun W => check_yes l d c W (Lib.hid (plOk_yes hT).1) hl hd hc
set_option maxHeartbeats 800000 in
theorem stpRead_bad (b : Nat) (lv : List Bool) (A : Option Addr) (n cp : Nat) (l d c r : Int) (w : World) (hT : plOk l d c r = false)
    (hl : -9223372036854775808 ≤ l ∧ l ≤ 9223372036854775807) (hd : -9223372036854775808 ≤ d ∧ d ≤ 9223372036854775807) (hc : -9223372036854775808 ≤ c ∧ c ≤ 9223372036854775807) (hr : -9223372036854775808 ≤ r ∧ r ≤ 9223372036854775807) :
    Calls Try.prog 18 #[.pointer (some ⟨b, 0, none⟩), .slice A n cp, .agg #[.int .i64 l, .int .i64 d, .int .i64 c], .int .i64 r] w fun e w' => e = .returned (.tuple #[.slice none 0 0, .int .i64 1]) ∧ Below w.heap.size w w' := by
  have G := gat_new w l d c 24 (0, 0)
  have CK := Lib.hid (fun W => check_any l d c W hl hd hc)
  have e1 : (gOk l d c = false) ∨ (gOk l d c = true ∧ ((r < 0) ∨ (¬ r < 0 ∧ 16 ≤ r))) := by
    cases hg : gOk l d c with
    | false => exact .inl rfl
    | true =>
      refine .inr ⟨rfl, ?_⟩
      by_cases h0 : r < 0
      · exact .inl h0
      · refine .inr ⟨h0, ?_⟩
        by_cases h1 : 16 ≤ r
        · exact h1
        · rw [plOk_mk hg (by omega) (by omega)] at hT; cases hT
  clear hT
  rcases e1 with hg | ⟨hg, h0 | ⟨h0, h1⟩⟩
  · have CK := Lib.hid (fun W => check_no l d c W (Lib.hid hg) hl hd hc)
    clear hg
    go_enter Try.func18, Try.ntmps18
    go_wp2_with fail
    (with_reducible refine (CK.out _).mono ?_); rintro e w1 ⟨rfl, hb⟩
    have F := (below1 w _).trans (hb.mono (by simp))
    clear hb
    go_wp2_with fail
    go_ret2
    exact ⟨rfl, F⟩
  · have CK := Lib.hid (fun W => check_yes l d c W (Lib.hid hg) hl hd hc)
    clear hg
    go_enter Try.func18, Try.ntmps18
    go_wp2_with fail
    (with_reducible refine (CK.out _).mono ?_); rintro e w1 ⟨rfl, hb⟩
    have F := (below1 w _).trans (hb.mono (by simp))
    clear hb
    go_wp2_with fail
    go_ret2
    exact ⟨rfl, F⟩
  · have CK := Lib.hid (fun W => check_yes l d c W (Lib.hid hg) hl hd hc)
    clear hg
    go_enter Try.func18, Try.ntmps18
    go_wp2_with fail
    (with_reducible refine (CK.out _).mono ?_); rintro e w1 ⟨rfl, hb⟩
    have F := (below1 w _).trans (hb.mono (by simp))
    clear hb
    go_wp2_with fail
    go_ret2
    exact ⟨rfl, F⟩
theorem OwR.owv {w : World} {lo g n cap : Nat} {rs : List (List UInt8)} (h : OwR w lo g n cap rs) : OwV lo w (.slice (some ⟨g, 0, none⟩) n cap) rs := by
  obtain ⟨hn, _, _, xs, h1, h2⟩ := h
  exact ⟨xs, by rw [hn]; exact h1, h2⟩
theorem OwV.le {lo lo' : Nat} {w : World} {v : Value} {rs : List (List UInt8)} (h : OwV lo w v rs) (hB : lo' ≤ lo) : OwV lo' w v rs := by
  obtain ⟨xs, h1, h2⟩ := h
  refine ⟨xs, ⟨h1.1, ?_⟩, h2.1, fun k hk => ?_⟩
  · rcases h1.2 with h3 | ⟨g', cap', cur, h3, h4, r⟩
    · exact .inl h3
    · exact .inr ⟨g', cap', cur, h3, by omega, r⟩
  · obtain ⟨A, c, h3, h4, h5⟩ := h2.2 k hk
    exact ⟨A, c, h3, h4.le hB, h5⟩
/-- Read's answer. -/
def StpR (w : World) (E : Int) (rs : List (List UInt8)) (e : Ending) (w' : World) : Prop := ∃ v, e = .returned (.tuple #[v, .int .i64 E]) ∧ OwV w.heap.size w' v rs ∧ Below w.heap.size w w'
set_option maxHeartbeats 3200000 in
theorem stpRead_good (B b : Nat) (H : BH) (N : Bch) (w : World) (h : BAt w B b H N) (lv : List Bool) (A : Option Addr) (n cp : Nat) (hn : n = lv.length) (hv : RdO w w.heap.size A lv) (l d c : Int) (ρ : Nat) (hT : plOk l d c (ρ : Int) = true)
    (hl : -9223372036854775808 ≤ l ∧ l ≤ 9223372036854775807) (hd : -9223372036854775808 ≤ d ∧ d ≤ 9223372036854775807) (hc : -9223372036854775808 ≤ c ∧ c ≤ 9223372036854775807) :
    Calls Try.prog 18 #[.pointer (some ⟨b, 0, none⟩), .slice A n cp, .agg #[.int .i64 l, .int .i64 d, .int .i64 c], .int .i64 (ρ : Int)] w (StpR w (srdE N lv l d c (ρ : Int)) (srdL N lv l d c (ρ : Int))) := by
  subst hn
  have G := gat_new w l d c 24 (0, 0)
  have CK := Lib.hid (fun W => check_yes l d c W (Lib.hid (plOk_yes hT).1) hl hd hc)
  have R := ro_of hT
  have hd8 := R.d8; have hd3 := R.d3; have hdd := R.dd
  have hρ := (plOk_yes hT).2
  obtain ⟨D, hD⟩ : ∃ D, roD d = D := ⟨_, rfl⟩
  have CT := Lib.hid (fun W (A2 : Option Addr) (cp2 : Nat) (xs : List (List UInt8)) (hx : xs.length = D) (hr : RdR W W.heap.size A2 xs) => take_any A2 xs D cp2 l d c (ρ : Int) W hx (by omega) hr hl hd hc (by omega))
  have HEl := Lib.hid (fun (hd' : N.down = false ∨ anyS N lv (roD d) = false) (ht : roTake l d c (ρ : Int) (ssL N lv (36 + (ρ : Int).toNat) (roD d)) = none) => srdE_lost hT hd' ht)
  have HEo := Lib.hid (fun rs (hd' : N.down = false ∨ anyS N lv (roD d) = false) (ht : roTake l d c (ρ : Int) (ssL N lv (36 + (ρ : Int).toNat) (roD d)) = some rs) => srdE_ok hT hd' ht)
  have HEd := Lib.hid (fun (hdn : N.down = true) (ha : anyS N lv (roD d) = true) => srdE_down hT hdn ha)
  have Htn : (ρ : Int).toNat = ρ := by omega
  rw [hD, Htn] at HEl HEo
  rw [hD] at HEd hd8 hd3 hdd
  generalize srdE N lv l d c (ρ : Int) = E at HEl HEo HEd ⊢
  generalize srdL N lv l d c (ρ : Int) = L at HEl HEo HEd ⊢
  have Hss : Hid (ssL N lv (36 + ρ) D = ssTo N lv (36 + ρ) D D) := rfl
  have Hs0 := Lib.hid (ssTo_zero N lv (36 + ρ) D)
  have Hsk := Lib.hid (fun k => @ssTo_skip N lv (36 + ρ) D k)
  have Hsg := Lib.hid (fun k => @ssTo_goes N lv (36 + ρ) D k)
  have Hlen := Lib.hid (ssL_len N lv (36 + ρ) D)
  have CS := Lib.hid (fun W (hb : Below w.heap.size w W) (j : Nat) (hj : j ≤ 1000000) => stpServes_any B b H N W (h.below hb) lv A lv.length cp rfl (hv.keep hb.size fun p hp => hb.cell hp) j hj)
  have CR := Lib.hid (fun W (hb : Below w.heap.size w W) (k : Nat) (hk : k ≤ 8) => bch_read_any B b H N W (h.below hb) (k : Int) (36 + (ρ : Int)) ⟨by omega, by omega⟩ ⟨by omega, by omega⟩)
  have HRu := Lib.hid (fun (k : Nat) (hs : srvD N lv k = true) (hdn : N.down = false) => Bch.read_ok (N := N) (d := k) (k := 36 + ρ) (srvD_yes hs).1 (by omega) (srvD_yes hs).2.2 hdn)
  have HRd := Lib.hid (fun (k : Nat) (hs : srvD N lv k = true) (hdn : N.down = true) => show N.readE (k : Int) (36 + (ρ : Int)) = 6 by
    have hpk : N.pickE (k : Int) = 0 := Bch.pickE_ok (by omega) (by have := (srvD_yes hs).1; omega)
    rw [(Bch.readE_pow _ (by rw [Bch.powE_down hpk hdn]; decide)).1, Bch.powE_down hpk hdn])
  have HL32 := Lib.hid (fun (k : Nat) (hs : srvD N lv k = true) => show (secAt (N.D k).now (36 + ρ)).length = 32 from secAt_len (by rw [(h.dsk k (srvD_yes hs).1).ok.now]; omega))
  have Hany := Lib.hid (fun (k : Nat) (hk : k < D) (hs : srvD N lv k = true) => anyS_yes (N := N) (lv := lv) hk hs)
  have Hnone := Lib.hid (fun (hk : ∀ k, k < D → srvD N lv k = false) => anyS_no hk)
  clear hT R h hv
  have km := make_rows D (by omega)
  subst hdd
  clear hD
  unfold ptr at CR
  go_enter Try.func18, Try.ntmps18
  go_wp2_with fail
  (with_reducible refine (CK.out _).mono ?_); rintro e w1 ⟨rfl, hb⟩
  have F := (below1 w _).trans (hb.mono (by simp))
  have gs1 : w.heap.size < w1.heap.size := by have := hb.size; simp at this; omega
  obtain ⟨g1, g2, g3⟩ := G.below hb (by simp)
  clear hb
  go_wp2_with fail
  have Q0 := (rq_new w1 D (by omega)).le (lo' := w.heap.size) (by omega)
  rw [← Hs0.out] at Q0
  have F3 := F.trans ((below1 w1 (.cells (madeCells #[.slice none 0 0] D) 46)).mono F.size)
  have G3 := GAt.below ⟨g1, g2, g3⟩ (below1 w1 (.cells (madeCells #[.slice none 0 0] D) 46)) gs1
  have hgg : w.heap.size < w1.heap.size := gs1
  generalize w1.heap.size = g at Q0 hgg
  generalize w1.alloc (.cells (madeCells #[.slice none 0 0] D) 46) = w4 at Q0 F3 G3
  clear g1 g2 g3 F
  go_loopw [32] (fun i wr => ∃ (k : Nat) (xs : List Value), k ≤ D ∧ i = .int .i64 k ∧ (N.down = true → ∀ i, i < k → srvD N lv i = false) ∧ Rq w.heap.size wr g D D xs (ssTo N lv (36 + ρ) D k) ∧ GAt wr w.heap.size l D c ∧ Below w.heap.size w wr) (fun i _ => D - (intOf i).toNat)
  case atStart => exact ⟨0, _, Nat.zero_le _, rfl, fun _ i hi => absurd hi (Nat.not_lt_zero _), Q0, G3, F3⟩
  case round =>
    obtain ⟨k, xs, hk, rfl, hno, Q, G4, F4⟩ := hrel
    have Hno := Lib.hid hno
    clear hno
    by_cases hlt : k < D
    · have i0 : (0 : Int) ≤ (k : Int) := by omega
      have i1 : (k : Int) < (D : Int) := by omega
      have hglt := Q.glt.2
      have CS1 := Lib.hid (fun W hb => CS.out W hb k (by omega))
      cases hs : srvD N lv k with
      | false =>
        rw [hs] at CS1
        have Hs := Lib.hid (Hsk.out k hs)
        have Hno2 := Lib.hid (show N.down = true → ∀ i, i < k + 1 → srvD N lv i = false from fun hd i hi => by
          by_cases e : i = k
          · rw [e]; exact hs
          · exact Hno.out hd i (by omega))
        clear CK CT HEl HEo HEd Hss Hs0 Hsk Hsg CS CR HRu HRd HL32 Hany Hnone km Q0 F3 G3 hs
        go_wp2_with fail
        (with_reducible refine (CS1.out _ F4).mono ?_); rintro e w5 ⟨rfl, rfl⟩
        go_wp2
        go_roundw
        case rel => exact ⟨k + 1, _, by omega, by go_num, Hno2.out, by rw [Hs.out]; exact Q, G4, F4⟩
        case measure => simp [intOf]; omega
      | true =>
        rw [hs] at CS1
        have CR1 := CR.out _ F4 k (by omega)
        have Ha := Lib.hid (Hany.out k hlt hs)
        cases hdn : N.down with
        | true =>
          rw [HRd.out k hs hdn] at CR1
          have CR1 := Lib.hid CR1
          have HE := Lib.hid (HEd.out hdn Ha.out)
          clear CK CT HEl HEo HEd Hss Hs0 Hsk Hsg CS CR HRu HRd HL32 Hany Hnone km Q0 F3 G3 hs hdn
          go_wp2_with fail
          (with_reducible refine (CS1.out _ F4).mono ?_); rintro e w5 ⟨rfl, rfl⟩
          go_wp2_with fail
          (with_reducible refine CR1.out.mono ?_); rintro e w6 ⟨v, rfl, _, hb6⟩
          go_wp2
          go_ret2
          exact ⟨.slice none 0 0, by rw [HE.out.1]; rfl, by rw [HE.out.2]; exact OwV.nil _ _, F4.trans (hb6.mono F4.size)⟩
        | false =>
          have hr0 := HRu.out k hs hdn
          rw [show ((36 + ρ : Nat) : Int) = 36 + (ρ : Int) by omega] at hr0
          rw [hr0.1, hr0.2] at CR1
          have CR1 := Lib.hid CR1
          have h32 := HL32.out k hs
          have Hs := Lib.hid (Hsg.out k hlt hs)
          generalize secAt (N.D k).now (36 + ρ) = row at CR1 h32 Hs
          generalize ssTo N lv (36 + ρ) D k = ms at Q Hs
          clear CK CT HEl HEo HEd Hss Hs0 Hsk Hsg CS CR HRu HRd HL32 Hany Hnone km Q0 F3 G3 hs hdn hr0
          obtain ⟨g1, g2, g3⟩ := G4
          go_wp2_with fail
          (with_reducible refine (CS1.out _ F4).mono ?_); rintro e w5 ⟨rfl, rfl⟩
          go_wp2_with fail
          (with_reducible refine CR1.out.mono ?_); rintro e w6 ⟨v, rfl, ho, hb6⟩
          obtain ⟨A1, c1, rfl, _, _⟩ := ho.rd
          obtain ⟨Ao, co, _, h3, _⟩ := (Q.below hb6).at k hlt
          have hf3 := (Q.below hb6).fz k
          obtain ⟨hset, hgr⟩ := Q.step hb6 k hlt ho
          rw [Hs.out] at hset
          have hs6 := hb6.size
          have G6 := ((GAt.below ⟨g1, g2, g3⟩ hb6 (by omega)).grown hgr (by omega) (by intro e; injection e with e; omega))
          have F6 := (F4.trans (hb6.mono F4.size)).setCell (p := ⟨g, k, none⟩) (by show w.heap.size ≤ g; omega) (.slice A1 row.length c1)
          clear Q Hs
          rw [h32] at hset G6 F6
          go_wp2
          go_roundw
          case rel => exact ⟨k + 1, _, by omega, by go_num, (fun hd => by cases hd), hset, G6, F6⟩
          case measure => simp [intOf]; omega
    · obtain rfl : k = D := by omega
      rw [← Hss.out] at Q
      have hrr := Q.rdr (by omega)
      have hdd' : N.down = false ∨ anyS N lv k = false := by
        cases hdn : N.down with
        | false => exact .inl rfl
        | true => exact .inr (Hnone.out (Hno.out hdn))
      have CT1 := CT.out wr (some ⟨g, 0, none⟩) k _ Hlen.out hrr
      generalize ssL N lv (36 + ρ) k = XS at CT1 HEl HEo
      obtain ⟨o, ho⟩ : ∃ o, roTake l k c (ρ : Int) XS = o := ⟨_, rfl⟩
      rw [ho] at CT1 HEl HEo
      have CT1 := Lib.hid CT1
      obtain ⟨g1, g2, g3⟩ := G4
      rcases o with _ | L'
      · have HE := Lib.hid (HEl.out hdd' rfl)
        clear CK CT HEl HEo HEd Hss Hs0 Hsk Hsg CS CR HRu HRd HL32 Hany Hnone km Q0 F3 G3 hrr ho hdd'
        go_wp2_with fail
        (with_reducible refine CT1.out.mono ?_); rintro e w5 ⟨rfl, hb5⟩
        go_wp2
        go_ret2
        exact ⟨.slice none 0 0, by rw [HE.out.1]; rfl, by rw [HE.out.2]; exact OwV.nil _ _, F4.trans (hb5.mono F4.size)⟩
      · have HE := Lib.hid (HEo.out L' hdd' rfl)
        clear CK CT HEl HEo HEd Hss Hs0 Hsk Hsg CS CR HRu HRd HL32 Hany Hnone km Q0 F3 G3 hrr ho hdd'
        have hF4 := F4.size
        go_wp2_with fail
        (with_reducible refine CT1.out.mono ?_); rintro e w5 ⟨g5, c5, rfl, ho5, hb5⟩
        go_wp2
        go_ret2
        exact ⟨_, by rw [HE.out.1]; rfl, by rw [HE.out.2]; exact (ho5.le hF4).owv, F4.trans (hb5.mono F4.size)⟩
theorem stpRead_any (B b : Nat) (H : BH) (N : Bch) (w : World) (h : BAt w B b H N) (lv : List Bool) (A : Option Addr) (n cp : Nat) (hn : n = lv.length) (hv : RdO w w.heap.size A lv) (l d c r : Int)
    (hl : -9223372036854775808 ≤ l ∧ l ≤ 9223372036854775807) (hd : -9223372036854775808 ≤ d ∧ d ≤ 9223372036854775807) (hc : -9223372036854775808 ≤ c ∧ c ≤ 9223372036854775807) (hr : -9223372036854775808 ≤ r ∧ r ≤ 9223372036854775807) :
    Calls Try.prog 18 #[.pointer (some ⟨b, 0, none⟩), .slice A n cp, .agg #[.int .i64 l, .int .i64 d, .int .i64 c], .int .i64 r] w (StpR w (srdE N lv l d c r) (srdL N lv l d c r)) := by
  cases hT : plOk l d c r with
  | true =>
    obtain ⟨ρ, rfl⟩ : ∃ ρ : Nat, r = ρ := ⟨r.toNat, by have := (plOk_yes hT).2; omega⟩
    exact stpRead_good B b H N w h lv A n cp hn hv l d c ρ hT hl hd hc
  | false =>
    refine (stpRead_bad b lv A n cp l d c r w hT hl hd hc hr).mono ?_
    rintro e w' ⟨rfl, hb⟩
    obtain ⟨e1, e2⟩ := srdE_bad (N := N) (lv := lv) hT
    exact ⟨.slice none 0 0, by rw [e1], by rw [e2]; exact OwV.nil _ _, hb⟩
end Go.Proofs.Ytadfimimkkimmaa
end
section
set_option maxRecDepth 20000
set_option linter.unusedVariables false
set_option linter.unusedSimpArgs false
namespace Go.Proofs.Ytadfimimkkimmaa
open Go.RowKit

theorem rowsT_snoc {ra rb : List (List UInt8)} {j : Nat} (h : ra.take j = rb.take j) (hj : j < ra.length) (hj' : j < rb.length) (he : ra.getD j [] = rb.getD j []) : ra.take (j + 1) = rb.take (j + 1) := by
  rw [List.take_succ_eq_append_getElem hj, List.take_succ_eq_append_getElem hj', h]
  have e : ra[j] = rb[j] := by simpa [hj, hj'] using he
  rw [e]
set_option maxHeartbeats 400000 in
theorem sameS_any (A A' : Option Addr) (ra rb : List (List UInt8)) (n n' c c' : Nat) (w : World) (hn : ra.length = n) (hn' : rb.length = n') (hr : RdR w w.heap.size A ra) (hr' : RdR w w.heap.size A' rb) :
    Calls Try.prog 19 #[.slice A n c, .slice A' n' c'] w fun e w' => e = .returned (.bool (decide (ra = rb))) ∧ Below w.heap.size w w' := by
  subst hn hn'
  have hl := hr.1
  have hl' := hr'.1
  by_cases hlen : ra.length = rb.length
  · have hle := Lib.hid hlen
    have hne : ((ra.length : Int) != (rb.length : Int)) = false := by rw [hlen]; simp
    clear hlen
    go_enter Try.func19, Try.ntmps19
    go_wp2
    go_loopw [13] (fun i wr => ∃ j : Nat, j ≤ ra.length ∧ i = .int .i64 j ∧ ra.take j = rb.take j ∧ Below w.heap.size w wr) (fun i _ => ra.length - (intOf i).toNat)
    case atStart => exact ⟨0, Nat.zero_le _, rfl, rfl, Below.refl _ _⟩
    case round =>
      obtain ⟨j, hj, rfl, htk, hbr⟩ := hrel
      have Htk := Lib.hid htk
      clear htk
      by_cases hlt : j < ra.length
      · have hlt' : j < rb.length := by have := hle.out; omega
        obtain ⟨b, off, rfl, hb, hc⟩ := hr.2 (by omega)
        obtain ⟨b', off', rfl, hb', hc'⟩ := hr'.2 (by omega)
        obtain ⟨A1, c1, h1, r1⟩ := hc j hlt
        rw [← hbr.cell (p := ⟨b, off + j, none⟩) hb] at h1
        obtain ⟨A2, c2, h2, r2⟩ := hc' j hlt'
        rw [← hbr.cell (p := ⟨b', off' + j, none⟩) hb'] at h2
        have i0 : (0 : Int) ≤ (j : Int) := by omega
        have i1 : (j : Int) < (ra.length : Int) := by omega
        have i2 : (j : Int) < (rb.length : Int) := by omega
        have Hne := Lib.hid (show ra.getD j [] ≠ rb.getD j [] → decide (ra = rb) = false from fun h => by simpa using fun e : ra = rb => h (by rw [e]))
        have Hsn := Lib.hid (show ra.getD j [] = rb.getD j [] → ra.take (j + 1) = rb.take (j + 1) from fun h => rowsT_snoc Htk.out hlt hlt' h)
        generalize ra.getD j [] = x at h1 r1 Hne Hsn
        generalize rb.getD j [] = y at h2 r2 Hne Hsn
        clear hc hc'
        have CS := Lib.hid (fun n => Calls.quiet_of (same_any A1 A2 x.length y.length c1 c2 w.heap.size x y (wr.drewN n) rfl rfl (r1.below (hbr.trans (belowN _ _ n)) (Nat.le_refl _)) (r2.below (hbr.trans (belowN _ _ n)) (Nat.le_refl _))))
        by_cases he : x = y
        · have Hs := Lib.hid (Hsn.out he)
          rw [decide_eq_true he] at CS
          clear he
          go_wp2
          go_quiet ((go_at_call 31; exact CS.out _))
          go_wp2
          go_roundw
          case rel => exact ⟨j + 1, by omega, by go_num, Hs.out, hbr.trans (belowN _ _ nq)⟩
          case measure => simp [intOf]; omega
        · have Hd := Lib.hid (Hne.out he)
          rw [decide_eq_false he] at CS
          clear he
          go_wp2
          go_quiet ((go_at_call 31; exact CS.out _))
          go_wp2
          go_ret
          exact ⟨by rw [Hd.out]; rfl, hbr.trans (belowN _ _ nq)⟩
      · obtain rfl : j = ra.length := by omega
        have Hd := Lib.hid (show decide (ra = rb) = true by
          have h1 := Htk.out
          rw [List.take_length, hle.out, List.take_length] at h1
          exact decide_eq_true h1)
        go_wp2
        go_ret
        exact ⟨by rw [Hd.out]; rfl, hbr⟩
  · go_enter Try.func19, Try.ntmps19
    have hne : ((ra.length : Int) != (rb.length : Int)) = true := by rw [bne_iff_ne]; omega
    go_wp2
    go_ret
    exact ⟨by rw [decide_eq_false (fun h => hlen (by rw [h]))]; rfl, Below.refl _ _⟩
theorem RdZ.drop {w : World} {B : Nat} {A : Option Addr} {zs : List Int} (h : RdZ w B A zs) (k cap : Nat) (hc : zs.length ≤ cap) : RdZ w B (if cap = k then A else A.map (·.add k)) (zs.drop k) :=
  ⟨by have := h.1; simp; omega, fun z hz => h.2.1 z (List.mem_of_mem_drop hz), fun hn => by
    have hn' : k < zs.length := by simp at hn; omega
    obtain ⟨b, off, rfl, hb, hc⟩ := h.2.2 (by omega)
    rw [if_neg (by omega)]
    refine ⟨b, off + k, ?_, hb, fun j hj => ?_⟩
    · unfold Addr.add; by_cases hk0 : k = 0 <;> simp [hk0]
    · have hj' : k + j < zs.length := by simp at hj; omega
      rw [Nat.add_assoc, hc (k + j) hj']
      simp⟩
/-- The data of a row of a filled bench. -/
def datL (zs : List Int) (ρ W : Nat) : List (List UInt8) := sectorsB (zs.drop (min ρ zs.length)) W
theorem datL_len (zs : List Int) (ρ W : Nat) : (datL zs ρ W).length = W := sectorsB_len _ _
theorem datL_mem {zs : List Int} {ρ W : Nat} : ∀ x ∈ datL zs ρ W, x.length = 32 := sectorsB_mem
set_option maxRecDepth 100000 in
set_option maxHeartbeats 1600000 in
theorem data_any {n l c r : Int} {D F W : Nat} (gr : Gr n l c r D F W) (ρ : Nat) (hρ : ρ ≤ 1000) (A : Option Addr) (zs : List Int) (m cp : Nat) (w : World) (hm : m = zs.length) (hcp : zs.length ≤ cp) (hz : RdZ w w.heap.size A zs) :
    Calls Try.prog 17 #[.agg #[.int .i64 l, .int .i64 (D : Int), .int .i64 c], .int .i64 (ρ : Int), .slice A m cp] w fun e w' => ∃ v, e = .returned v ∧ OwV w.heap.size w' v (datL zs ρ W) ∧ Below w.heap.size w w' := by
  subst hm
  have G := gat_new w l D c 24 (0, 0)
  have HR := Lib.hid (fun V => refWidth_any l (D : Int) c V gr.l64 gr.d64 gr.c64)
  rw [gr.wd] at HR
  have hw7 := gr.w7
  have hzl := hz.1
  obtain ⟨k, hk⟩ : ∃ k, min ρ zs.length = k := ⟨_, rfl⟩
  have hkl : k ≤ zs.length := by omega
  have Hmin : Hid ((if zs.length < ρ then (zs.length : Int) else (ρ : Int)) = (k : Int)) := Lib.hid (by split <;> omega)
  have HDt : Hid (datL zs ρ W = sectorsB (zs.drop k) W) := Lib.hid (by unfold datL; rw [hk])
  have CS := Lib.hid (fun V (hb : Below w.heap.size w V) => sectors_any (if cp = k then A else A.map (·.add k)) (zs.drop k) (zs.length - k) (cp - k) W V (by simp) (((hz.below hb (Nat.le_refl _)).keep hb.size (fun _ _ => rfl)).drop k cp hcp) (by omega))
  have k0 : (0 : Int) ≤ (k : Int) := by omega
  have k1 : (k : Int) ≤ (zs.length : Int) := by omega
  have k2 : (k : Int) ≤ (cp : Int) := by omega
  clear gr hz hk
  by_cases hck : cp = k
  · rw [if_pos hck] at CS
    subst hck
    rw [show zs.length - cp = 0 by omega, Nat.sub_self] at CS
    go_enter Try.func17, Try.ntmps17
    go_wp2_with fail
    have S0 : GS w w.heap.size w.heap.size l D c (w.alloc (.cells #[.int .i64 l, .int .i64 (D : Int), .int .i64 c] 24 (0, 0))) := ⟨G.1, G.2.1, G.2.2, below1 _ _⟩
    have hmin := Hmin.out
    go_region_held3 (GS w w.heap.size w.heap.size l D c)
      (first | assumption | exact GS.drew ‹_›)
      (first
        | (go_at_call 13; (with_reducible refine (HR.out _).mono ?_); rintro e w3 ⟨rfl, hb3⟩; have S3 := (GS.drew S0).later hb3; dsimp only)
        | (go_at_call 12; (with_reducible refine (CS.out _ S3.2.2.2).mono ?_); rintro e w4 ⟨v, rfl, ho, hb4⟩; have S4 := S3.later hb4; dsimp only))
    all_goals
      have hf := S3.2.2.2.size
      go_wp2
      go_ret
      exact ⟨_, rfl, by rw [HDt.out]; exact ho.le hf, S4.2.2.2⟩
  · rw [if_neg hck] at CS
    go_enter Try.func17, Try.ntmps17
    go_wp2_with fail
    have S0 : GS w w.heap.size w.heap.size l D c (w.alloc (.cells #[.int .i64 l, .int .i64 (D : Int), .int .i64 c] 24 (0, 0))) := ⟨G.1, G.2.1, G.2.2, below1 _ _⟩
    have hmin := Hmin.out
    go_region_held3 (GS w w.heap.size w.heap.size l D c)
      (first | assumption | exact GS.drew ‹_›)
      (first
        | (go_at_call 13; (with_reducible refine (HR.out _).mono ?_); rintro e w3 ⟨rfl, hb3⟩; have S3 := (GS.drew S0).later hb3; dsimp only)
        | (go_at_call 12; (with_reducible refine (CS.out _ S3.2.2.2).mono ?_); rintro e w4 ⟨v, rfl, ho, hb4⟩; have S4 := S3.later hb4; dsimp only))
    all_goals
      have hf := S3.2.2.2.size
      go_wp2
      go_ret
      exact ⟨_, rfl, by rw [HDt.out]; exact ho.le hf, S4.2.2.2⟩
end Go.Proofs.Ytadfimimkkimmaa
end
section
set_option linter.unusedVariables false
set_option linter.unusedSimpArgs false
namespace Go.Proofs.Ytadfimimkkimmaa
open Go.RowKit

section
variable {W w w1 w2 : World} {b n : Nat} {H H1 : BH} {N2 : Bch}
theorem BC.seq (c1 : Chg (BF b H n) w w1) (n1 : BNew w b H H1 n) (h2 : BC W w1 w2 b H1 n N2) : BC W w w2 b H n N2 := by
  obtain ⟨H2, a2, c2, m2⟩ := h2
  refine ⟨H2, a2, c1.trans c2 fun k hk e => ?_, fun k hk => ?_⟩
  · rcases n1 k e with h | h
    · exact h
    · omega
  · rcases m2 k hk with h | h
    · exact n1 k h
    · exact .inr (Nat.le_trans c1.size h)
theorem BC.below (hb : Below w.heap.size w w1) (h2 : BC W w1 w2 b H n N2) : BC W w w2 b H n N2 := h2.seq (chg_below _ hb) fun _ h => .inl h
theorem BC.then (h1 : BC W w w1 b H n N2) (hb : Below w1.heap.size w1 w2) : BC W w w2 b H n N2 := by
  obtain ⟨H1, a1, c1, m1⟩ := h1
  exact ⟨H1, a1.grow hb, c1.ofBelow hb c1.size, m1⟩
theorem BP.self {N : Bch} (h : BP W w b H N) : BC W w w b H N.n N := ⟨H, h, Chg.refl _ _, fun _ h => .inl h⟩
/-- What no call on the bench touches: blocks that were there, and are none of its own. -/
theorem BC.off {k : Nat} (h1 : BNew w b H H1 n) (hk : k < w.heap.size) (o : ¬ BF b H n k) : ¬ BF b H1 n k := fun e => by
  rcases h1 k e with h | h
  · exact o h
  · omega
end
theorem cell_chg {F : Nat → Prop} {w w' : World} {p o : Nat} {v : Value} (h : w.cell? ⟨p, o, none⟩ = some v) (hc : Chg F w w') (ho : ¬ F p) : w'.cell? ⟨p, o, none⟩ = some v :=
  (World.cell?_of_block (a := ⟨p, o, none⟩) (hc.block p (World.block_lt_of_cell? _ _ h) ho)).trans h
theorem RdB.chg {F : Nat → Prop} {w w' : World} {g : Nat} {x : List UInt8} (h : RdB w w.heap.size (some ⟨g, 0, none⟩) x) (hc : Chg F w w') (ho : ¬ F g) : RdB w' w'.heap.size (some ⟨g, 0, none⟩) x :=
  ⟨h.1, fun hn => by
    obtain ⟨b, off, e, hb, hk⟩ := h.2 hn
    injection e with e
    injection e with e1 e2 _
    subst e1 e2
    exact ⟨g, 0, rfl, Nat.lt_of_lt_of_le hb hc.size, fun k hk' => (World.cell?_of_block (a := ⟨g, 0 + k, none⟩) (hc.block g hb ho)).trans (hk k hk')⟩⟩
theorem RdO.chgq {F : Nat → Prop} {w w' : World} {A : Option Addr} {lv : List Bool} {q : Nat} (h : RdO w w.heap.size A lv) (hq : 0 < lv.length → ∀ a, A = some a → a.block = q) (hc : Chg F w w') (ho : ¬ F q) : RdO w' w'.heap.size A lv :=
  ⟨h.1, fun hn => by
    obtain ⟨b, off, rfl, hb, hk⟩ := h.2 hn
    obtain rfl : b = q := hq hn _ rfl
    exact ⟨b, off, rfl, Nat.lt_of_lt_of_le hb hc.size, fun k hk' => (World.cell?_of_block (a := ⟨b, off + k, none⟩) (hc.block b hb ho)).trans (hk k hk')⟩⟩
end Go.Proofs.Ytadfimimkkimmaa
end
