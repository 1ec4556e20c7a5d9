/- What a call leaves of the statements' own disk. -/
import Derived.Test.YtcgajfjlkojnlaaMdl
namespace Go.Proofs.Ytcgajfjlkojnlaa
open Go.RowKit

/-- The model is D' behind a call that wrote nothing but what it had. -/
def MdlTo (w w' : World) (B mb mm n : Nat) (av xv : Value) (k : Nat) (D' : Dsk) : Prop :=
  ∃ (mm' n' : Nat) (av' xv' : Value) (F' : Int → Option (List UInt8)), MdlAt w' B mb mm' n' av' xv' D' F' ∧ n' ≤ n + k ∧ Chg (MF mb mm av xv) w w' ∧ ∀ j, MF mb mm' av' xv' j → MF mb mm av xv j ∨ w.heap.size ≤ j
/-- What the map says behind these writes. -/
def putAll (F : Int → Option (List UInt8)) (ps : List (Nat × List UInt8)) : Int → Option (List UInt8) := ps.foldl (fun F p => putF F (p.1 : Int) p.2) F
theorem putAll_snoc (F : Int → Option (List UInt8)) (ps : List (Nat × List UInt8)) (p : Nat × List UInt8) : putAll F (ps ++ [p]) = putF (putAll F ps) (p.1 : Int) p.2 := by
  unfold putAll; rw [List.foldl_append]; rfl
theorem putAll_len : ∀ {ps : List (Nat × List UInt8)} {F : Int → Option (List UInt8)}, (∀ k x, F k = some x → x.length = 32) → WOk ps → ∀ k x, putAll F ps k = some x → x.length = 32
  | [], _, h, _ => h
  | p :: ps, F, h, hp => putAll_len (ps := ps) (F := putF F (p.1 : Int) p.2) (fun k x e => by
      unfold putF at e
      split at e
      · injection e with e; subst e; exact (hp p (List.mem_cons_self ..)).2
      · exact h k x e) hp.cons
theorem putAll_sec : ∀ {ps : List (Nat × List UInt8)} {F : Int → Option (List UInt8)} {S : List UInt8}, S.length = 1664 → WOk ps → (∀ k : Nat, k < 52 → secAt S k = (F (k : Int)).getD (List.replicate 32 0)) →
    ∀ k : Nat, k < 52 → secAt (nowOf S ps) k = (putAll F ps (k : Int)).getD (List.replicate 32 0)
  | [], _, _, _, _, h => h
  | p :: ps, F, S, hS, hp, h => by
    have h1 := hp p (List.mem_cons_self ..)
    exact putAll_sec (ps := ps) (F := putF F (p.1 : Int) p.2) (S := putAt S p.1 p.2) (putAt_len hS (by omega) h1.2) hp.cons fun k hk => by
      unfold putF
      by_cases e : k = p.1
      · subst e
        rw [if_pos rfl, sec_put_same hS hk h1.2]
        rfl
      · rw [if_neg (by omega), sec_put_other hS h1.1 h1.2 e]
        exact h k hk
section
variable {w w' : World} {B mb mm n : Nat} {av xv : Value} {D : Dsk} {F : Int → Option (List UInt8)}
/-- All but the map, where only the map has changed. -/
theorem MdlAt.rest (h : MdlAt w B mb mm n av xv D F) (hc : Chg (fun x => x = mm) w w') : w'.heap[mb]? = some (.cells (mcells mm av xv D.f).toArray 50 (0, 0)) ∧
    w'.ownsRow B 3 1 av D.ps.length (D.ps.map fun p => Value.int .i64 (p.1 : Int)) ∧ w'.ownsRow B 9 1 xv D.ps.length (D.ps.map fun p => str p.2) :=
  ⟨(hc.block mb (h.lt (.inl rfl)).2 fun e => h.n1 e.symm).trans h.blk, own_chg h.ats hc fun k hk e => h.n3 (by rw [hk, e]), own_chg h.xs hc fun k hk e => h.n5 (by rw [hk, e])⟩
/-- What is left where all pending writes are gone. -/
theorem MdlAt.gone (h : MdlAt w B mb mm n av xv D F) {n' k : Nat} {D' : Dsk} {F' : Int → Option (List UInt8)} (hb : w'.heap[mb]? = some (.cells (mcells mm (.slice none 0 0) (.slice none 0 0) D'.f).toArray 50 (0, 0))) (hm : MapS w' mm n' F') (hn : n' ≤ n + k) (hp : D'.ps = [])
    (hs : ∀ k : Nat, k < 52 → secAt D'.S k = (F' (k : Int)).getD (List.replicate 32 0)) (hl : ∀ k x, F' k = some x → x.length = 32) (ho : D'.Ok) (hc : Chg (MF mb mm av xv) w w') : MdlTo w w' B mb mm n av xv k D' :=
  ⟨mm, n', _, _, F', ⟨hb, hm, by rw [hp]; exact World.ownsRow_nil _ _ _ _, by rw [hp]; exact World.ownsRow_nil _ _ _ _, h.le, h.n1, by simp [Value.ownBlock], by simp [Value.ownBlock], by simp [Value.ownBlock], by simp [Value.ownBlock], fun k h => by simp [Value.ownBlock] at h, hs, hl, ho⟩, hn, hc, fun j hj => by
    rcases hj with e | e | e | e
    · exact .inl (.inl e)
    · exact .inl (.inr (.inl e))
    · simp [Value.ownBlock] at e
    · simp [Value.ownBlock] at e⟩
end
theorem size_ints : (Try.prog.info? 39).map (·.size) = some 1 := by kernel_rfl
theorem size_strs : (Try.prog.info? 48).map (·.size) = some 1 := by kernel_rfl
theorem size_map : (Try.prog.info? 47).map (·.size) = some 1 := by kernel_rfl
theorem size_bool : (Try.prog.info? 4).map (·.size) = some 1 := by kernel_rfl
end Go.Proofs.Ytcgajfjlkojnlaa
