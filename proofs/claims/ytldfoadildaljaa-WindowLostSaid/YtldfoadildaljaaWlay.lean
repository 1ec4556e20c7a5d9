/- Texts put together: BchQ, OnGood, Alive, BcSeq, RowOf. -/
import Derived.Test.YtldfoadildaljaaWlax
import Derived.Test.YtldfoadildaljaaWlad
import Derived.Test.YtldfoadildaljaaWlas
section
set_option maxRecDepth 8000
namespace Go.Proofs.Ytldfoadildaljaa
open Go.RowKit

/-- The bench N, made since W. -/
structure BP (W w : World) (b : Nat) (H : BH) (N : Bch) : Prop where
  at' : BAt w W.heap.size b H N
  bel : Below W.heap.size W w
/-- New memory alone came to the blocks of a bench. -/
def BNew (w : World) (b : Nat) (H H' : BH) (n : Nat) : Prop := ∀ k, BF b H' n k → BF b H n k ∨ w.heap.size ≤ k
section
variable {W w w' : World} {b : Nat} {H : BH} {N : Bch}
theorem BP.to (h : BP W w b H N) {N' : Bch} (ht : BTo w w' W.heap.size b H N.n N') : ∃ H', BP W w' b H' N' ∧ Chg (BF b H N.n) w w' ∧ BNew w b H H' N.n := by
  obtain ⟨H', a, c, _, m⟩ := ht
  exact ⟨H', ⟨a, h.bel.trans (c.below (fun k hk => (h.at'.flt hk).1) h.bel.size)⟩, c, m⟩
theorem BP.grow (h : BP W w b H N) (hb : Below w.heap.size w w') : BP W w' b H N := ⟨h.at'.below hb, h.bel.trans (hb.mono h.bel.size)⟩
theorem BP.alloc (h : BP W w b H N) (o : Obj) : BP W (w.alloc o) b H N := h.grow (below1 w o)
end
/-- What came of a call: the bench, what was written, what came to it. -/
def BC (W w w' : World) (b : Nat) (H : BH) (n : Nat) (N' : Bch) : Prop := ∃ H', BP W w' b H' N' ∧ Chg (BF b H n) w w' ∧ BNew w b H H' n
theorem bp_new (n : Nat) (W w : World) (hb : Below W.heap.size W w) (hn : 1 ≤ n ∧ n ≤ 8) : Calls Try.prog 7 #[.int .i64 (n : Int)] w fun e w' => ∃ b H, e = .returned (.tuple #[ptr b, .int .i64 0]) ∧ BP W w' b H (Bch.new n) ∧ Below w.heap.size w w' ∧ ∀ k, BF b H n k → w.heap.size ≤ k := by
  refine (bch_new_ok n w hn).mono ?_
  rintro e w' ⟨b, H, rfl, a, hb'⟩
  exact ⟨b, H, rfl, ⟨a.mono hb.size, hb.trans (hb'.mono hb.size)⟩, hb', fun k hk => (a.flt hk).1⟩
section
variable (W w : World) (b : Nat) (H : BH) (N : Bch) (h : BP W w b H N)
include h
theorem bp_len : Calls Try.prog 89 #[.pointer (some ⟨b, 0, none⟩)] w fun e w' => e = .returned (.int .i64 (N.n : Int)) ∧ w' = w := bch_len_any _ _ _ _ _ h.at'
theorem bp_write (d k : Int) (x : List UInt8) (A : Option Addr) (n c : Nat) (hn : n = x.length) (hd : i64B d) (hk : i64B k) (hr : RdB w w.heap.size A x) (hps : ∀ i, i < N.n → (N.D i).ps.length ≤ 2000000) (hdn : N.done ≤ 2000000) :
    Calls Try.prog 62 #[.pointer (some ⟨b, 0, none⟩), .int .i64 d, .int .i64 k, .slice A n c] w fun e w' => e = .returned (.int .i64 (N.writeE d k n)) ∧ BC W w w' b H N.n (N.write d k x) := by
  refine (bch_write_any _ _ _ _ _ h.at' d k x A n c hn hd hk hr hps hdn).mono ?_
  rintro e w' ⟨rfl, ht⟩
  exact ⟨rfl, h.to ht⟩
theorem bp_flush (d : Int) (hd : i64B d) : Calls Try.prog 65 #[.pointer (some ⟨b, 0, none⟩), .int .i64 d] w fun e w' => e = .returned (.int .i64 (N.flushE d)) ∧ BC W w w' b H N.n (N.flush d) := by
  refine (bch_flush_any _ _ _ _ _ h.at' d hd).mono ?_
  rintro e w' ⟨rfl, ht⟩
  exact ⟨rfl, h.to ht⟩
theorem bp_fail (d : Int) (hd : i64B d) : Calls Try.prog 19 #[.pointer (some ⟨b, 0, none⟩), .int .i64 d] w fun e w' => e = .returned (.int .i64 (N.pickE d)) ∧ BC W w w' b H N.n (N.fail d) := by
  refine (bch_fail_any _ _ _ _ _ h.at' d hd).mono ?_
  rintro e w' ⟨rfl, ht⟩
  exact ⟨rfl, h.to ht⟩
end
theorem ptr_eq (b : Nat) (w : World) : (binOp .eql 26 (.pointer (some ⟨b, 0, none⟩)) (.pointer none)).run Try.prog w = .ok (.bool false) w := rfl
theorem i64n {n : Nat} (h : n ≤ 2000000) : i64B (n : Int) := ⟨by omega, by omega⟩
namespace Bch
theorem read_ok {N : Bch} {d k : Nat} (hd : d < N.n) (hk : k < 52) (hf : (N.D d).f = false) (hdn : N.down = false) : N.readE (d : Int) (k : Int) = 0 ∧ N.read (d : Int) (k : Int) = secAt (N.D d).now k := by
  have hp : N.powE (d : Int) = 0 := powE_ok (pickE_ok (by omega) (by omega)) hdn
  have he : N.readE (d : Int) (k : Int) = 0 := by
    unfold readE
    rw [if_neg (show ¬ N.powE (d : Int) ≠ 0 by simp [hp]), show (N.at_ (d : Int)).f = false from hf]
    exact reachE_ok (by omega) (by omega)
  refine ⟨he, ?_⟩
  unfold read
  rw [if_neg (fun e => e he)]
  rfl
end Bch
end Go.Proofs.Ytldfoadildaljaa
end
section
set_option linter.unusedVariables false
set_option linter.unusedSimpArgs false
namespace Go.Proofs.Ytldfoadildaljaa

end Go.Proofs.Ytldfoadildaljaa
end
section
set_option maxRecDepth 20000
set_option linter.unusedVariables false
set_option linter.unusedSimpArgs false
namespace Go.Proofs.Ytldfoadildaljaa
open Go.RowKit

def alvD (n : Nat) (lv : List Bool) (d : Int) : Bool := decide (0 ≤ d) && (decide (d < (n : Int)) && lv.getD d.toNat false)
theorem alvD_nat (n : Nat) (lv : List Bool) (j : Nat) : alvD n lv (j : Int) = (decide (j < n) && lv.getD j false) := by
  unfold alvD
  rw [decide_eq_true (show (0 : Int) ≤ (j : Int) by omega), Bool.true_and, Int.toNat_natCast]
  congr 1
  exact decide_eq_decide.2 (by omega)
theorem alvIs_any (B b : Nat) (H : BH) (N : Bch) (w : World) (h : BAt w B b H N) (lv : List Bool) (A : Option Addr) (n c : Nat) (hn : n = lv.length) (hv : RdO w w.heap.size A lv) (d : Int) (h0 : -1000000 ≤ d) (h1 : d ≤ 1000000) :
    Calls Try.prog 81 #[.pointer (some ⟨b, 0, none⟩), .slice A n c, .int .i64 d] w fun e w' => e = .returned (.bool (alvD N.n lv d)) ∧ w' = w := by
  subst hn
  have CL := Lib.hid (bch_len_any B b H N w h)
  have hn8 := h.ok.n
  have hlv := hv.1
  clear h
  unfold ptr at CL
  by_cases c0 : 0 ≤ d
  · obtain ⟨j, rfl⟩ : ∃ j : Nat, d = (j : Int) := ⟨d.toNat, by omega⟩
    by_cases c1 : j < N.n
    · have i1 : (j : Int) < (N.n : Int) := by omega
      by_cases c2 : j < lv.length
      · have i2 : (j : Int) < (lv.length : Int) := by omega
        obtain ⟨lb, off, rfl, hlb, hcv⟩ := hv.2 (by omega)
        have hcl := hcv j c2
        have R := Lib.hid (show alvD N.n lv (j : Int) = lv.getD j false by rw [alvD_nat, decide_eq_true c1]; rfl)
        clear hcv hv c1 c2
        generalize lv.getD j false = x at hcl R
        go_enter Try.func81, Try.ntmps81
        go_wp2_with (refine CL.out.mono ?_; rintro e w' ⟨rfl, rfl⟩)
        go_ret
        exact ⟨by rw [R.out]; rfl, rfl⟩
      · have i2 : ¬ ((j : Int) < (lv.length : Int)) := by omega
        have R := Lib.hid (show alvD N.n lv (j : Int) = false by
          rw [alvD_nat, decide_eq_true c1]
          show lv.getD j false = false
          rw [List.getD_eq_getElem?_getD, List.getElem?_eq_none (by omega)]; rfl)
        clear hv c1 c2
        go_enter Try.func81, Try.ntmps81
        go_wp2_with (refine CL.out.mono ?_; rintro e w' ⟨rfl, rfl⟩)
        go_ret
        exact ⟨by rw [R.out]; rfl, rfl⟩
    · have i1 : ¬ ((j : Int) < (N.n : Int)) := by omega
      have R := Lib.hid (show alvD N.n lv (j : Int) = false by rw [alvD_nat, decide_eq_false c1]; rfl)
      clear hv c1
      go_enter Try.func81, Try.ntmps81
      go_wp2_with (refine CL.out.mono ?_; rintro e w' ⟨rfl, rfl⟩)
      go_ret
      exact ⟨by rw [R.out]; rfl, rfl⟩
  · have i1 : ¬ (d ≥ 0) := c0
    have R := Lib.hid (show alvD N.n lv d = false by unfold alvD; rw [decide_eq_false c0]; rfl)
    clear hv CL
    go_enter Try.func81, Try.ntmps81
    go_wp2
    go_ret
    exact ⟨by rw [R.out]; rfl, rfl⟩
theorem alvFailed {N : Bch} {j : Nat} (h : j < N.n) : N.failed (j : Int) = (N.D j).f := by
  unfold Bch.failed
  rw [if_neg (by rw [Bch.pickE_ok (by omega) (by omega)]; simp)]
  rfl
/-- Does a disk serve? -/
def alvS (N : Bch) (lv : List Bool) (d : Int) : Bool := alvD N.n lv d && !(N.D d.toNat).f
theorem alvServes_any (B b : Nat) (H : BH) (N : Bch) (w : World) (h : BAt w B b H N) (lv : List Bool) (A : Option Addr) (n c : Nat) (hn : n = lv.length) (hv : RdO w w.heap.size A lv) (d : Int) (h0 : -1000000 ≤ d) (h1 : d ≤ 1000000) :
    Calls Try.prog 61 #[.pointer (some ⟨b, 0, none⟩), .slice A n c, .int .i64 d] w fun e w' => e = .returned (.bool (alvS N lv d)) ∧ w' = w := by
  have CL := Lib.hid (alvIs_any B b H N w h lv A n c hn hv d h0 h1)
  have CF := Lib.hid (bch_failed_any B b H N w h d (by constructor <;> omega))
  have R : Hid (alvS N lv d = (alvD N.n lv d && !(N.D d.toNat).f)) := rfl
  have RF := Lib.hid (show alvD N.n lv d = true → N.failed d = (N.D d.toNat).f from fun q => by
    unfold alvD at q
    simp only [Bool.and_eq_true, decide_eq_true_eq] at q
    have := alvFailed (N := N) (j := d.toNat) (by omega)
    rw [← this]; congr 1; omega)
  clear hv h hn
  unfold ptr at CF
  cases hx : alvD N.n lv d with
  | false =>
    rw [hx] at CL R
    clear CF RF hx
    go_enter Try.func61, Try.ntmps61
    go_wp2_with (refine CL.out.mono ?_; rintro e w' ⟨rfl, rfl⟩)
    go_ret
    exact ⟨by rw [R.out]; rfl, rfl⟩
  | true =>
    rw [RF.out hx] at CF
    rw [hx] at CL R
    clear RF hx
    generalize (N.D d.toNat).f = y at CF R
    go_enter Try.func61, Try.ntmps61
    go_wp2_with (first
      | (go_at_call 81; refine CL.out.mono ?_; rintro e w' ⟨rfl, rfl⟩)
      | (go_at_call 82; refine CF.out.mono ?_; rintro e w' ⟨rfl, rfl⟩))
    go_ret
    exact ⟨by rw [R.out]; rfl, rfl⟩
end Go.Proofs.Ytldfoadildaljaa
end
section
set_option linter.unusedVariables false
set_option linter.unusedSimpArgs false
namespace Go.Proofs.Ytldfoadildaljaa
open Go.RowKit

section
variable {W w w1 w2 : World} {b n : Nat} {H H1 : BH} {N2 : Bch}
theorem BC.seq (c1 : Chg (BF b H n) w w1) (n1 : BNew w b H H1 n) (h2 : BC W w1 w2 b H1 n N2) : BC W w w2 b H n N2 := by
  obtain ⟨H2, a2, c2, m2⟩ := h2
  refine ⟨H2, a2, c1.trans c2 fun k hk e => ?_, fun k hk => ?_⟩
  · rcases n1 k e with h | h
    · exact h
    · omega
  · rcases m2 k hk with h | h
    · exact n1 k h
    · exact .inr (Nat.le_trans c1.size h)
theorem BC.below (hb : Below w.heap.size w w1) (h2 : BC W w1 w2 b H n N2) : BC W w w2 b H n N2 := h2.seq (chg_below _ hb) fun _ h => .inl h
theorem BP.self {N : Bch} (h : BP W w b H N) : BC W w w b H N.n N := ⟨H, h, Chg.refl _ _, fun _ h => .inl h⟩
/-- What no call on the bench touches: blocks that were there, and are none of its own. -/
theorem BC.off {k : Nat} (h1 : BNew w b H H1 n) (hk : k < w.heap.size) (o : ¬ BF b H n k) : ¬ BF b H1 n k := fun e => by
  rcases h1 k e with h | h
  · exact o h
  · omega
end
end Go.Proofs.Ytldfoadildaljaa
end
section
set_option maxRecDepth 8000
set_option linter.unusedVariables false
set_option linter.unusedSimpArgs false
namespace Go.Proofs.Ytldfoadildaljaa
open Go.RowKit

def rowOf (F : Nat → Value) (n : Nat) : List Value := (List.range n).map F
theorem rowOf_len (F : Nat → Value) (n : Nat) : (rowOf F n).length = n := by unfold rowOf; simp
theorem rowOf_get {n i : Nat} (F : Nat → Value) (h : i < n) : (rowOf F n)[i]? = some (F i) := by unfold rowOf; simp [h]
theorem rowOf_set {n i : Nat} (F : Nat → Value) (v : Value) (h : i < n) : spl (rowOf F n) i [v] = rowOf (upd F i v) n := by
  apply List.ext_getElem?
  intro j
  have hl : ((rowOf F n).take i).length = i := by rw [List.length_take, rowOf_len]; omega
  unfold spl
  rw [List.append_assoc]
  by_cases hj : j < i
  · rw [List.getElem?_append_left (by omega), List.getElem?_take, if_pos hj, rowOf_get _ (by omega), rowOf_get _ (by omega), upd_other _ _ (by omega)]
  · rw [List.getElem?_append_right (by omega), hl]
    by_cases e : j = i
    · subst e; rw [Nat.sub_self, rowOf_get _ h, upd_same]; rfl
    · obtain ⟨k, hk⟩ : ∃ k, j - i = k + 1 := ⟨j - i - 1, by omega⟩
      rw [hk, List.cons_append, List.getElem?_cons_succ, List.nil_append, List.getElem?_drop]
      rw [show i + [v].length + k = j by simp; omega]
      by_cases hjn : j < n
      · rw [rowOf_get _ hjn, rowOf_get _ hjn, upd_other _ _ e]
      · rw [List.getElem?_eq_none (by rw [rowOf_len]; omega), List.getElem?_eq_none (by rw [rowOf_len]; omega)]
theorem rowOf_made (z : Value) (n : Nat) : madeCells #[z] n = (rowOf (fun _ => z) n).toArray := by
  apply Array.toList_inj.1
  apply List.ext_getElem?
  intro j
  rw [toList_madeCells_one, List.getElem?_replicate]
  by_cases h : j < n
  · rw [if_pos h]
    show _ = (rowOf (fun _ => z) n)[j]?
    rw [rowOf_get _ h]
  · rw [if_neg h]
    show _ = (rowOf (fun _ => z) n)[j]?
    rw [List.getElem?_eq_none (by rw [rowOf_len]; omega)]
theorem info_boo : (Try.prog.info? 4).map (fun i => (i.zero, i.size, i.bytes)) = some (some (.bool false), 1, 1) := by kernel_rfl
theorem make_bools (n : Nat) (hn : n ≤ 1000000) (w : World) : (Instr.makeSlice 30 (.int .i64 (n : Int)) (.int .i64 (n : Int))).run Try.prog w = .ok (.slice (some ⟨w.heap.size, 0, none⟩) n n) (w.alloc (.cells (rowOf (fun _ => .bool false) n).toArray 4)) := by
  rw [← rowOf_made (.bool false) n]
  exact run_make_row' _ _ _ 1 Try.underlying30 info_boo rfl _ _ n (by omega) (by omega) w
end Go.Proofs.Ytldfoadildaljaa
end
