/- Texts put together: Bch. -/
import Derived.Test.YtjnemopocmhfkaaDoorBlao
import Derived.Test.YtjnemopocmhfkaaDoorBlaq
import Derived.Test.YtjnemopocmhfkaaDoorBlam
section
namespace Go.Proofs.YtjnemopocmhfkaaDoor
open Go.RowKit

def upd {α : Type} (f : Nat → α) (i : Nat) (x : α) : Nat → α := fun j => if j = i then x else f j
theorem upd_same {α : Type} (f : Nat → α) (i : Nat) (x : α) : upd f i x i = x := if_pos rfl
theorem upd_other {α : Type} (f : Nat → α) {i j : Nat} (x : α) (h : j ≠ i) : upd f i x j = f j := if_neg h
structure Bch where
  n : Nat
  D : Nat → Dsk
  done : Nat
  left : Int
  down : Bool
namespace Bch
def new (n : Nat) : Bch := ⟨n, fun _ => Dsk.new, 0, -1, false⟩
def set (N : Bch) (i : Nat) (X : Dsk) : Bch := { N with D := upd N.D i X }
def pickE (N : Bch) (d : Int) : Int := if d < 0 ∨ (N.n : Int) ≤ d then 1 else 0
def powE (N : Bch) (d : Int) : Int := if N.pickE d ≠ 0 then N.pickE d else if N.down = true then 6 else 0
def countE (N : Bch) : Int := if N.left = 0 then 6 else 0
def count (N : Bch) : Bch := if N.left = 0 then { N with down := true } else { N with done := N.done + 1, left := if N.left = -1 then -1 else N.left - 1 }
def at_ (N : Bch) (d : Int) : Dsk := N.D d.toNat
def restore (N : Bch) : Bch := { N with left := -1, down := false }
def readE (N : Bch) (d k : Int) : Int := if N.powE d ≠ 0 then N.powE d else reachE (N.at_ d).f k
def read (N : Bch) (d k : Int) : List UInt8 := if N.readE d k ≠ 0 then [] else secAt (N.at_ d).now k.toNat
def writeE (N : Bch) (d k : Int) (n : Nat) : Int := if N.powE d ≠ 0 then N.powE d else if takeE (N.at_ d).f k n ≠ 0 then takeE (N.at_ d).f k n else N.countE
def write (N : Bch) (d k : Int) (x : List UInt8) : Bch :=
  if N.powE d ≠ 0 then N else if takeE (N.at_ d).f k x.length ≠ 0 then N else if N.left = 0 then N.count else (N.set d.toNat ((N.at_ d).write k.toNat x)).count
def flushE (N : Bch) (d : Int) : Int := if N.powE d ≠ 0 then N.powE d else if (N.at_ d).f = true then 5 else 0
def flush (N : Bch) (d : Int) : Bch := if N.powE d ≠ 0 then N else N.set d.toNat (N.at_ d).flushE
def fail (N : Bch) (d : Int) : Bch := if N.pickE d ≠ 0 then N else N.set d.toNat Dsk.failed
structure Ok (N : Bch) : Prop where
  n : 1 ≤ N.n ∧ N.n ≤ 8
  left : -1 ≤ N.left ∧ N.left ≤ 9223372036854775807
theorem pickE_zero {N : Bch} {d : Int} (h : N.pickE d = 0) : 0 ≤ d ∧ d < (N.n : Int) := by
  unfold pickE at h
  by_cases c : d < 0 ∨ (N.n : Int) ≤ d
  · simp [c] at h
  · omega
theorem pickE_ok {N : Bch} {d : Int} (h0 : 0 ≤ d) (h1 : d < (N.n : Int)) : N.pickE d = 0 := by unfold pickE; rw [if_neg (by omega)]
theorem powE_zero {N : Bch} {d : Int} (h : N.powE d = 0) : N.pickE d = 0 ∧ N.down = false := by
  unfold powE at h
  by_cases c : N.pickE d = 0
  · refine ⟨c, ?_⟩
    rw [if_neg (by simp [c])] at h
    cases hd : N.down with
    | false => rfl
    | true => simp [hd] at h
  · rw [if_pos c] at h; exact absurd h c
theorem powE_ok {N : Bch} {d : Int} (h : N.pickE d = 0) (hd : N.down = false) : N.powE d = 0 := by unfold powE; rw [if_neg (by simp [h]), hd]; rfl
theorem powE_down {N : Bch} {d : Int} (h : N.pickE d = 0) (hd : N.down = true) : N.powE d = 6 := by unfold powE; rw [if_neg (by simp [h]), hd]; rfl
theorem powE_no {N : Bch} {d : Int} (h : N.pickE d ≠ 0) : N.powE d = N.pickE d := by unfold powE; rw [if_pos h]
theorem count_n (N : Bch) : N.count.n = N.n := by unfold count; split <;> rfl
theorem count_D (N : Bch) : N.count.D = N.D := by unfold count; split <;> rfl
theorem write_n (N : Bch) (d k : Int) (x : List UInt8) : (N.write d k x).n = N.n := by
  unfold write
  repeat' split
  · rfl
  · rfl
  · exact count_n N
  · exact count_n _
end Bch
/-- Where a bench lies: the row of its disks, each disk's block, its pending writes. -/
structure BH where
  g : Nat
  bk : Nat → Nat
  pv : Nat → Value
def ptr (b : Nat) : Value := .pointer (some ⟨b, 0, none⟩)
def bcells (g n : Nat) (done : Nat) (left : Int) (down : Bool) : List Value := [.int .i64 (done : Int), .int .i64 left, .bool down, .slice (some ⟨g, 0, none⟩) n n]
def prow (n : Nat) (bk : Nat → Nat) : List Value := (List.range n).map fun i => ptr (bk i)
theorem prow_get {n i : Nat} (bk : Nat → Nat) (h : i < n) : (prow n bk)[i]? = some (ptr (bk i)) := by unfold prow; simp [h]
/-- The bench N lies at block b. -/
structure BAt (w : World) (B b : Nat) (H : BH) (N : Bch) : Prop where
  blk : w.heap[b]? = some (.cells (bcells H.g N.n N.done N.left N.down).toArray 44 (0, 0))
  row : w.heap[H.g]? = some (.cells (prow N.n H.bk).toArray 55 (0, 0))
  dsk : ∀ i, i < N.n → DskAt w B (H.bk i) (H.pv i) (N.D i)
  le : B ≤ b ∧ B ≤ H.g
  ne : b ≠ H.g
  off : ∀ i, i < N.n → ∀ k, DF (H.bk i) (H.pv i) k → k ≠ b ∧ k ≠ H.g
  ap : ∀ i j, i < N.n → j < N.n → i ≠ j → Apart (H.bk i) (H.pv i) (H.bk j) (H.pv j)
  ok : N.Ok
/-- The blocks of a bench. -/
def BF (b : Nat) (H : BH) (n : Nat) (k : Nat) : Prop := k = b ∨ k = H.g ∨ ∃ i, i < n ∧ DF (H.bk i) (H.pv i) k
/-- What a call leaves of a bench. -/
def BTo (w w' : World) (B b : Nat) (H : BH) (n : Nat) (N' : Bch) : Prop :=
  ∃ H', BAt w' B b H' N' ∧ Chg (BF b H n) w w' ∧ (N'.n = n ∧ H'.g = H.g) ∧ ∀ k, BF b H' n k → BF b H n k ∨ w.heap.size ≤ k
theorem DskAt.flt {w : World} {B b : Nat} {pv : Value} {D : Dsk} (h : DskAt w B b pv D) {k : Nat} (hk : DF b pv k) : B ≤ k ∧ k < w.heap.size := by
  rcases hk with e | e
  · exact ⟨by rw [e]; exact h.le, by rw [e]; exact h.lt⟩
  · exact h.plt k e
section
variable {w w' : World} {B b : Nat} {H : BH} {N : Bch}
theorem BAt.lt (h : BAt w B b H N) : b < w.heap.size := (Array.getElem?_eq_some_iff.1 h.blk).1
theorem BAt.glt (h : BAt w B b H N) : H.g < w.heap.size := (Array.getElem?_eq_some_iff.1 h.row).1
theorem BAt.flt (h : BAt w B b H N) {k : Nat} (hk : BF b H N.n k) : B ≤ k ∧ k < w.heap.size := by
  rcases hk with e | e | ⟨i, hi, e⟩
  · exact ⟨by rw [e]; exact h.le.1, by rw [e]; exact h.lt⟩
  · exact ⟨by rw [e]; exact h.le.2, by rw [e]; exact h.glt⟩
  · exact (h.dsk i hi).flt e
theorem BAt.heap (h : BAt w B b H N) (hk : ∀ k, BF b H N.n k → w'.heap[k]? = w.heap[k]?) : BAt w' B b H N :=
  ⟨(hk b (.inl rfl)).trans h.blk, (hk H.g (.inr (.inl rfl))).trans h.row, fun i hi => (h.dsk i hi).heap (hk _ (.inr (.inr ⟨i, hi, .inl rfl⟩))) fun k e => hk k (.inr (.inr ⟨i, hi, .inr e⟩)), h.le, h.ne, h.off, h.ap, h.ok⟩
theorem BAt.below (h : BAt w B b H N) (hb : Below w.heap.size w w') : BAt w' B b H N := h.heap fun k hk => hb.block k (h.flt hk).2
theorem BAt.mono {B' : Nat} (h : BAt w B b H N) (hB : B' ≤ B) : BAt w B' b H N :=
  ⟨h.blk, h.row, fun i hi => (h.dsk i hi).mono hB, by have := h.le; omega, h.ne, h.off, h.ap, h.ok⟩
theorem BAt.self (h : BAt w B b H N) : BTo w w B b H N.n N := ⟨H, h, Chg.refl _ _, ⟨rfl, rfl⟩, fun _ h => .inl h⟩
theorem BAt.grow (h : BAt w B b H N) (hb : Below w.heap.size w w') : BTo w w' B b H N.n N := ⟨H, h.below hb, chg_below _ hb, ⟨rfl, rfl⟩, fun _ h => .inl h⟩
/-- One disk has turned. -/
theorem BAt.step (h : BAt w B b H N) {i : Nat} (hi : i < N.n) {pv' : Value} {X : Dsk} (hd : DskAt w' B (H.bk i) pv' X) (hc : Chg (DF (H.bk i) (H.pv i)) w w') (hn : NewOr w (H.pv i) pv') : BTo w w' B b H N.n (N.set i X) := by
  have hnew : ∀ k, DF (H.bk i) pv' k → DF (H.bk i) (H.pv i) k ∨ w.heap.size ≤ k := fun k e => by
    rcases e with e | e
    · exact .inl (.inl e)
    · rcases hn k e with e | e
      · exact .inl (.inr e)
      · exact .inr e
  have hpv : ∀ j, j ≠ i → upd H.pv i pv' j = H.pv j := fun j hj => upd_other _ _ hj
  refine ⟨{ H with pv := upd H.pv i pv' }, ⟨?_, ?_, ?_, h.le, h.ne, ?_, ?_, ⟨h.ok.n, h.ok.left⟩⟩, hc.mono fun k _ e => .inr (.inr ⟨i, hi, e⟩), ⟨rfl, rfl⟩, ?_⟩
  · exact (hc.block b h.lt fun e => (h.off i hi b e).1 rfl).trans h.blk
  · exact (hc.block H.g h.glt fun e => (h.off i hi H.g e).2 rfl).trans h.row
  · intro j hj
    show DskAt w' B (H.bk j) (upd H.pv i pv' j) (upd N.D i X j)
    by_cases e : j = i
    · subst e; rw [upd_same, upd_same]; exact hd
    · rw [upd_other _ _ e, upd_other _ _ e]
      exact (h.dsk j hj).apart (h.ap j i hj hi e) hc
  · intro j hj k
    show DF (H.bk j) (upd H.pv i pv' j) k → _
    by_cases e : j = i
    · subst e
      rw [upd_same]
      intro hk
      rcases hnew k hk with h1 | h1
      · exact h.off j hj k h1
      · have := h.lt; have := h.glt; exact ⟨by omega, by show k ≠ H.g; omega⟩
    · rw [upd_other _ _ e]; exact h.off j hj k
  · intro j l hj hl hjl
    show Apart (H.bk j) (upd H.pv i pv' j) (H.bk l) (upd H.pv i pv' l)
    by_cases e : j = i
    · subst e
      rw [upd_same, upd_other _ _ (fun e => hjl e.symm)]
      intro k h1 h2
      rcases hnew k h1 with h3 | h3
      · exact h.ap j l hj hl hjl k h3 h2
      · have := ((h.dsk l hl).flt h2).2; omega
    · rw [upd_other _ _ e]
      by_cases e2 : l = i
      · subst e2
        rw [upd_same]
        intro k h1 h2
        rcases hnew k h2 with h3 | h3
        · exact h.ap j l hj hl hjl k h1 h3
        · have := ((h.dsk j hj).flt h1).2; omega
      · rw [upd_other _ _ e2]; exact h.ap j l hj hl hjl
  · intro k hk
    rcases hk with e | e | ⟨j, hj, e⟩
    · exact .inl (.inl e)
    · exact .inl (.inr (.inl e))
    · revert e
      show DF (H.bk j) (upd H.pv i pv' j) k → _
      by_cases e2 : j = i
      · subst e2
        rw [upd_same]
        intro e
        rcases hnew k e with h1 | h1
        · exact .inl (.inr (.inr ⟨j, hj, h1⟩))
        · exact .inr h1
      · rw [upd_other _ _ e2]
        intro e
        exact .inl (.inr (.inr ⟨j, hj, e⟩))
/-- What is counted has turned. -/
theorem BAt.cnt (h : BAt w B b H N) {done : Nat} {left : Int} {down : Bool} (hb : w'.heap[b]? = some (.cells (bcells H.g N.n done left down).toArray 44 (0, 0))) (hc : Chg (fun k => k = b) w w') (hl : -1 ≤ left ∧ left ≤ 9223372036854775807) :
    BTo w w' B b H N.n { N with done := done, left := left, down := down } :=
  ⟨H, ⟨hb, (hc.block H.g h.glt fun e => h.ne e.symm).trans h.row, fun i hi => (h.dsk i hi).chg hc (fun e => (h.off i hi _ (.inl rfl)).1 e) fun k hk e => (h.off i hi k (.inr hk)).1 e, h.le, h.ne, h.off, h.ap, ⟨h.ok.n, hl⟩⟩,
    hc.mono fun _ _ e => .inl e, ⟨rfl, rfl⟩, fun _ h => .inl h⟩
theorem BTo.seq {w1 w2 : World} {n : Nat} {H1 : BH} {N2 : Bch} (c1 : Chg (BF b H n) w w1) (g1 : H1.g = H.g) (n1 : ∀ k, BF b H1 n k → BF b H n k ∨ w.heap.size ≤ k) (h2 : BTo w1 w2 B b H1 n N2) : BTo w w2 B b H n N2 := by
  obtain ⟨H2, a2, c2, e2, n2⟩ := h2
  refine ⟨H2, a2, c1.trans c2 fun k hk e => ?_, ⟨e2.1, e2.2.trans g1⟩, fun k hk => ?_⟩
  · rcases n1 k e with h | h
    · exact h
    · omega
  · rcases n2 k hk with h | h
    · exact n1 k h
    · exact .inr (Nat.le_trans c1.size h)
theorem BAt.cell (h : BAt w B b H N) (j : Nat) (v : Value) (hj : (bcells H.g N.n N.done N.left N.down)[j]? = some v) : w.cell? ⟨b, j, none⟩ = some v := by
  rw [cell_of_row w b j _ _ _ h.blk, List.getElem?_toArray]; exact hj
theorem BAt.pcell (h : BAt w B b H N) {i : Nat} (hi : i < N.n) : w.cell? ⟨H.g, i, none⟩ = some (ptr (H.bk i)) := by
  rw [cell_of_row w H.g i _ _ _ h.row, List.getElem?_toArray]; exact prow_get _ hi
end
theorem size_int1 : (Tryd.prog.info? 3).map (·.size) = some 1 := by kernel_rfl
theorem size_bool1 : (Tryd.prog.info? 4).map (·.size) = some 1 := by kernel_rfl
theorem size_pdisk : (Tryd.prog.info? 55).map (·.size) = some 1 := by kernel_rfl
end Go.Proofs.YtjnemopocmhfkaaDoor
end
