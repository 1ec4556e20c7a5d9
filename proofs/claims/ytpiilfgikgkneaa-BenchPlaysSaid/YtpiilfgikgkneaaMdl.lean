/- The statements' own disk in memory, and what its small calls compute. -/
import Derived.Test.YtpiilfgikgkneaaMapStr
import Derived.Test.YtpiilfgikgkneaaDskOps
import Derived.Test.YtpiilfgikgkneaaDskDelete
namespace Go.Proofs.Ytpiilfgikgkneaa
open Go.RowKit

theorem conv_str (A : Option Addr) (bs : List UInt8) (n c B : Nat) (w : World) (hn : n = bs.length) (hr : RdB w B A bs) : (convert 31 9 (.slice A n c)).run Try.prog w = .ok (str bs) w := by
  subst hn
  rcases Nat.eq_zero_or_pos bs.length with h0 | hp
  · have : bs = [] := List.eq_nil_of_length_eq_zero h0
    subst this
    rcases A with _ | a
    · exact run_convert_bytes_nil w _ _ Try.underlying31 Try.underlying5 _ _ _ Try.underlying9
    · have h := run_convert_bytes_string (P := Try.prog) w _ _ _ (some a) 0 c Try.underlying31 Try.underlying5 Try.underlying9
      have h2 := run_bytesToString (P := Try.prog) w a 0 c [] (by simp [loadCells, loadCellsFrom])
      exact h.trans h2
  · obtain ⟨b, off, rfl, _, hc⟩ := hr.2 hp
    have h := run_convert_bytes_arg (P := Try.prog) w _ _ Try.underlying31 Try.underlying5 b off bs.length c (bs.map fun x => (x.toNat : Int)) (by simp) (fun i hi => by
      rw [hc i hi]; simp [hi]) _ Try.underlying9
    have e : (bs.map fun x => (x.toNat : Int)).map (fun n => UInt8.ofNat n.toNat) = bs := by
      rw [List.map_map]
      exact (List.map_congr_left (g := id) fun x _ => by simp).trans (List.map_id bs)
    rw [h]
    unfold str strOfNums
    rw [e]
theorem str_eql (t : TypeId) (a b : List UInt8) (w : World) : (binOp .eql t (str a) (str b)).run Try.prog w = .ok (.bool (a == b)) w := by unfold str; rw [binOp_string_eql]; simp
theorem str_neq (t : TypeId) (a b : List UInt8) (w : World) : (binOp .neq t (str a) (str b)).run Try.prog w = .ok (.bool (!(a == b))) w := by unfold str; rw [binOp_string_neq]; simp
def mcells (mm : Nat) (av xv : Value) (f : Bool) : List Value := [.map (some mm), av, xv, .bool f]
/-- The model of D lies at block mb. -/
structure MdlAt (w : World) (B mb mm n : Nat) (av xv : Value) (D : Dsk) (F : Int → Option (List UInt8)) : Prop where
  blk : w.heap[mb]? = some (.cells (mcells mm av xv D.f).toArray 70 (0, 0))
  map : MapS w mm n F
  ats : w.ownsRow B 3 1 av D.ps.length (D.ps.map fun p => Value.int .i64 (p.1 : Int))
  xs : w.ownsRow B 9 1 xv D.ps.length (D.ps.map fun p => str p.2)
  le : B ≤ mb ∧ B ≤ mm
  n1 : mm ≠ mb
  n2 : av.ownBlock ≠ some mb
  n3 : av.ownBlock ≠ some mm
  n4 : xv.ownBlock ≠ some mb
  n5 : xv.ownBlock ≠ some mm
  n6 : ∀ k, av.ownBlock = some k → xv.ownBlock ≠ some k
  sec : ∀ k : Nat, k < 52 → secAt D.S k = (F (k : Int)).getD (List.replicate 32 0)
  len : ∀ k x, F k = some x → x.length = 32
  ok : D.Ok
/-- The blocks of a model. -/
def MF (mb mm : Nat) (av xv : Value) (k : Nat) : Prop := k = mb ∨ k = mm ∨ av.ownBlock = some k ∨ xv.ownBlock = some k
section
variable {w w' : World} {B mb mm n : Nat} {av xv : Value} {D : Dsk} {F : Int → Option (List UInt8)}
theorem MdlAt.lt (h : MdlAt w B mb mm n av xv D F) {k : Nat} (hk : MF mb mm av xv k) : B ≤ k ∧ k < w.heap.size := by
  rcases hk with rfl | rfl | e | e
  · exact ⟨h.le.1, (Array.getElem?_eq_some_iff.1 h.blk).1⟩
  · exact ⟨h.le.2, h.map.lt⟩
  · exact h.ats.lt k e
  · exact h.xs.lt k e
theorem MdlAt.heap (h : MdlAt w B mb mm n av xv D F) (hk : ∀ k, MF mb mm av xv k → w'.heap[k]? = w.heap[k]?) : MdlAt w' B mb mm n av xv D F :=
  ⟨(hk mb (.inl rfl)).trans h.blk, h.map.heap (hk mm (.inr (.inl rfl))), own_heap h.ats fun k e => hk k (.inr (.inr (.inl e))), own_heap h.xs fun k e => hk k (.inr (.inr (.inr e))), h.le, h.n1, h.n2, h.n3, h.n4, h.n5, h.n6, h.sec, h.len, h.ok⟩
theorem MdlAt.chg {G : Nat → Prop} (h : MdlAt w B mb mm n av xv D F) (hc : Chg G w w') (hn : ∀ k, MF mb mm av xv k → ¬ G k) : MdlAt w' B mb mm n av xv D F :=
  h.heap fun k hk => hc.block k (h.lt hk).2 (hn k hk)
theorem MdlAt.below (h : MdlAt w B mb mm n av xv D F) (hb : Below w.heap.size w w') : MdlAt w' B mb mm n av xv D F := h.heap fun k hk => hb.block k (h.lt hk).2
theorem MdlAt.cell (h : MdlAt w B mb mm n av xv D F) (j : Nat) (v : Value) (hj : (mcells mm av xv D.f)[j]? = some v) : w.cell? ⟨mb, j, none⟩ = some v := by
  rw [cell_of_row w mb j _ _ _ h.blk, List.getElem?_toArray]; exact hj
theorem MdlAt.read (h : MdlAt w B mb mm n av xv D F) {k : Nat} (hk : k < 52) : secAt D.now k = match lastOf D.ps k with | some x => x | none => match F (k : Int) with | some x => x | none => List.replicate 32 0 := by
  unfold Dsk.now
  rw [nowOf_sec h.ok.S h.ok.ps k hk]
  cases lastOf D.ps k with
  | some x => rfl
  | none =>
    rw [h.sec k hk]
    cases F (k : Int) <;> rfl
end
theorem mdl_pending_any (B mb mm n : Nat) (av xv : Value) (D : Dsk) (F : Int → Option (List UInt8)) (w : World) (h : MdlAt w B mb mm n av xv D F) :
    Calls Try.prog 28 #[.pointer (some ⟨mb, 0, none⟩)] w fun e w' => e = .returned (.int .i64 (D.ps.length : Int)) ∧ w' = w := by
  have hc := h.cell 1 av rfl
  obtain ⟨A, c, rfl, _, _⟩ := own_form h.ats
  clear h
  go_enter Try.func28, Try.ntmps28
  go_wp2
  go_ret
  exact ⟨rfl, rfl⟩
theorem lastOf_snoc (ps : List (Nat × List UInt8)) (p : Nat × List UInt8) (k : Nat) : lastOf (ps ++ [p]) k = if p.1 = k then some p.2 else lastOf ps k := by
  induction ps with
  | nil => simp [lastOf]
  | cons q ps ih =>
    rw [List.cons_append, lastOf_cons, ih, lastOf_cons]
    by_cases e : p.1 = k
    · simp [e]
    · simp [e]
end Go.Proofs.Ytpiilfgikgkneaa
