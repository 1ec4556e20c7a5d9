/- Texts put together: SlotMath, LogMath, OwnItP, LogSmall, LogSettle, LogApply, LogPut. -/
import Derived.Test.YtoomdgidpplpfaaDoorLbad
import Derived.Test.YtoomdgidpplpfaaDoorLbag
import Derived.Test.YtoomdgidpplpfaaDoorLbah
import Derived.Test.YtoomdgidpplpfaaDoorLbaa
import Derived.Test.YtoomdgidpplpfaaDoorLbaf
import Derived.Test.YtoomdgidpplpfaaDoorLbak
import Derived.Test.YtoomdgidpplpfaaDoorLbai
import Derived.Test.YtoomdgidpplpfaaDoorLbal
section
set_option linter.unusedVariables false
set_option linter.unusedSimpArgs false
namespace Go.Proofs.YtoomdgidpplpfaaDoor

/-- The Super in a slot, if there is one. -/
def slotL (D : Dsk) (k : Nat) : List Su := if D.f = true then [] else if decO (secAt D.now k) = true then [decS (secAt D.now k)] else []
def dskSu (D : Dsk) : List Su := slotL D 0 ++ slotL D 1
def pickS (b x : Su) : Su := if b.g < x.g then x else b
def bestTo (N : Bch) : Nat → Su
  | 0 => suZ
  | i + 1 => (dskSu (N.D i)).foldl pickS (bestTo N i)
def bestE (N : Bch) : Int := if N.down = true then 6 else if (bestTo N N.n).g = 0 then 3 else 0
def bestS (N : Bch) : Su := if bestE N = 0 then bestTo N N.n else suZ
def hasB (N : Bch) (b : Su) (i : Nat) : Bool := (dskSu (N.D i)).any fun x => decide (b.g - 1 ≤ x.g)
def hasL (N : Bch) : List Bool := if bestE N = 0 then (List.range N.n).map (hasB N (bestTo N N.n)) else []
theorem hasL_none {N : Bch} (h : bestE N ≠ 0) : hasL N = [] := if_neg h
theorem hasL_some {N : Bch} (h : bestE N = 0) : hasL N = (List.range N.n).map (hasB N (bestTo N N.n)) := if_pos h
theorem bestS_none {N : Bch} (h : bestE N ≠ 0) : bestS N = suZ := if_neg h
theorem bestS_some {N : Bch} (h : bestE N = 0) : bestS N = bestTo N N.n := if_pos h
/-- What is done on each live disk, up to the first error. -/
def onTo (f : Bch → Nat → Int × Bch) (lv : List Bool) (N : Bch) : Nat → Int × Bch
  | 0 => (0, N)
  | i + 1 => if (onTo f lv N i).1 ≠ 0 then onTo f lv N i else if lv.getD i false = false then onTo f lv N i else
      if (f (onTo f lv N i).2 i).1 = 5 then (0, (f (onTo f lv N i).2 i).2) else f (onTo f lv N i).2 i
def wrF (at' : Nat) (x : List UInt8) (N : Bch) (i : Nat) : Int × Bch := (N.writeE (i : Int) (at' : Int) x.length, N.write (i : Int) (at' : Int) x)
def flF (N : Bch) (i : Nat) : Int × Bch := (N.flushE (i : Int), N.flush (i : Int))
def slotI (g : Int) : Nat := if g % 2 = 0 then 0 else 1
theorem slotI_lt (g : Int) : slotI g < 2 := by unfold slotI; split <;> omega
def wroteS (N : Bch) (lv : List Bool) (s : Su) : Int × Bch := onTo (wrF (slotI s.g) (suB s)) lv N (min N.n lv.length)
def storeS (N : Bch) (lv : List Bool) (s : Su) : Int × Bch :=
  if suOk s = false then (1, N) else if (wroteS N lv s).1 ≠ 0 then wroteS N lv s else onTo flF lv (wroteS N lv s).2 (min N.n lv.length)
section
variable {f : Bch → Nat → Int × Bch} {lv : List Bool} {N : Bch}
theorem onTo_skip {i : Nat} (h : (onTo f lv N i).1 = 0) (hl : lv.getD i false = false) : onTo f lv N (i + 1) = onTo f lv N i := by
  rw [onTo, if_neg (by simp [h]), if_pos hl]
theorem onTo_pass {i : Nat} (h : (onTo f lv N i).1 = 0) (hl : lv.getD i false = true) (hq : (f (onTo f lv N i).2 i).1 = 5) : onTo f lv N (i + 1) = (0, (f (onTo f lv N i).2 i).2) := by
  rw [onTo, if_neg (by simp [h]), if_neg (by simp only [hl]; decide), if_pos hq]
theorem onTo_goes {i : Nat} (h : (onTo f lv N i).1 = 0) (hl : lv.getD i false = true) (hq : (f (onTo f lv N i).2 i).1 ≠ 5) : onTo f lv N (i + 1) = f (onTo f lv N i).2 i := by
  rw [onTo, if_neg (by simp [h]), if_neg (by simp only [hl]; decide), if_neg hq]
theorem onTo_stop {i : Nat} (h : (onTo f lv N i).1 ≠ 0) : ∀ m, i ≤ m → onTo f lv N m = onTo f lv N i
  | 0, hm => by obtain rfl : i = 0 := by omega
                rfl
  | m + 1, hm => by
    by_cases e : i = m + 1
    · rw [e]
    · have ih := onTo_stop h m (by omega)
      rw [onTo, if_pos (by rw [ih]; exact h), ih]
theorem onTo_any (P : Bch → Prop) (h0 : P N) (hs : ∀ M i, P M → P (f M i).2) : ∀ i, P (onTo f lv N i).2
  | 0 => h0
  | i + 1 => by
    have ih := onTo_any P h0 hs i
    rw [onTo]
    repeat' split
    · exact ih
    · exact ih
    · exact hs _ _ ih
    · exact hs _ _ ih
end
theorem set_n (N : Bch) (i : Nat) (X : Dsk) : (N.set i X).n = N.n := rfl
theorem write_left (N : Bch) (d k : Int) (x : List UInt8) (h : N.left = -1) : (N.write d k x).left = -1 ∧ (N.write d k x).down = N.down := by
  unfold Bch.write
  repeat' split
  · exact ⟨h, rfl⟩
  · exact ⟨h, rfl⟩
  · omega
  · unfold Bch.count
    rw [if_neg (by show ¬ N.left = 0; omega)]
    exact ⟨by show (if N.left = -1 then (-1 : Int) else N.left - 1) = -1; rw [if_pos h], rfl⟩
theorem wrote_n {at' : Nat} {x : List UInt8} {lv : List Bool} {N : Bch} (i : Nat) : (onTo (wrF at' x) lv N i).2.n = N.n :=
  onTo_any (fun M => M.n = N.n) rfl (fun M i h => (Bch.write_n M _ _ _).trans h) i
theorem flush_n (N : Bch) (d : Int) : (N.flush d).n = N.n := by unfold Bch.flush; split <;> rfl
theorem flushed_n {lv : List Bool} {N : Bch} (i : Nat) : (onTo flF lv N i).2.n = N.n :=
  onTo_any (fun M => M.n = N.n) rfl (fun M i h => (flush_n M _).trans h) i
theorem count_done (N : Bch) : N.count.done ≤ N.done + 1 := by unfold Bch.count; split <;> simp
theorem write_done (N : Bch) (d k : Int) (x : List UInt8) : (N.write d k x).done ≤ N.done + 1 := by
  unfold Bch.write
  repeat' split
  · omega
  · omega
  · exact count_done N
  · exact count_done (N.set d.toNat ((N.at_ d).write k.toNat x))
theorem write_len (N : Bch) (d k : Int) (x : List UInt8) (j : Nat) : ((N.write d k x).D j).ps.length ≤ (N.D j).ps.length + 1 := by
  unfold Bch.write
  repeat' split
  · omega
  · omega
  · rw [Bch.count_D]; omega
  · rw [Bch.count_D]
    show ((upd N.D d.toNat _) j).ps.length ≤ _
    by_cases e : j = d.toNat
    · subst e; rw [upd_same]; simp [Bch.at_, Dsk.write]
    · rw [upd_other _ _ e]; omega
theorem wrote_done {at' : Nat} {x : List UInt8} {lv : List Bool} {N : Bch} : ∀ i, (onTo (wrF at' x) lv N i).2.done ≤ N.done + i
  | 0 => Nat.le_refl _
  | i + 1 => by
    have ih := wrote_done (at' := at') (x := x) (lv := lv) (N := N) i
    have h := write_done (onTo (wrF at' x) lv N i).2 (i : Int) (at' : Int) x
    rw [onTo]
    repeat' split
    · omega
    · omega
    · exact Nat.le_trans h (by omega)
    · exact Nat.le_trans h (by omega)
theorem wrote_len {at' : Nat} {x : List UInt8} {lv : List Bool} {N : Bch} (j : Nat) : ∀ i, ((onTo (wrF at' x) lv N i).2.D j).ps.length ≤ (N.D j).ps.length + i
  | 0 => Nat.le_refl _
  | i + 1 => by
    have ih := wrote_len (at' := at') (x := x) (lv := lv) (N := N) j i
    have h := write_len (onTo (wrF at' x) lv N i).2 (i : Int) (at' : Int) x j
    rw [onTo]
    repeat' split
    · omega
    · omega
    · exact Nat.le_trans h (by omega)
    · exact Nat.le_trans h (by omega)
theorem decS_in (bs : List UInt8) : decO bs = true → SuIn (decS bs) := fun h => by rw [decS_yes h]; exact suIn ((decO_iff bs).1 h).2.1
theorem dskSu_in {D : Dsk} {x : Su} (h : x ∈ dskSu D) : SuIn x := by
  have one : ∀ k, x ∈ slotL D k → SuIn x := fun k hk => by
    unfold slotL at hk
    repeat' split at hk
    · cases hk
    · rw [List.mem_singleton.1 hk]; exact decS_in _ (by assumption)
    · cases hk
  rcases List.mem_append.1 h with h | h
  · exact one 0 h
  · exact one 1 h
theorem dskSu_len (D : Dsk) : (dskSu D).length ≤ 2 := by
  have one : ∀ k, (slotL D k).length ≤ 1 := fun k => by unfold slotL; (repeat' split) <;> simp
  have := one 0; have := one 1
  unfold dskSu; rw [List.length_append]; omega
theorem pickS_in {b x : Su} (hb : b = suZ ∨ SuIn b) (hx : SuIn x) : pickS b x = suZ ∨ SuIn (pickS b x) := by
  unfold pickS; split
  · exact .inr hx
  · exact hb
theorem fold_in : ∀ (l : List Su) (b : Su), (b = suZ ∨ SuIn b) → (∀ x ∈ l, SuIn x) → l.foldl pickS b = suZ ∨ SuIn (l.foldl pickS b)
  | [], _, hb, _ => hb
  | x :: l, b, hb, hl => fold_in l _ (pickS_in hb (hl x (List.mem_cons_self ..))) fun y hy => hl y (List.mem_cons_of_mem _ hy)
theorem bestTo_in (N : Bch) : ∀ i, bestTo N i = suZ ∨ SuIn (bestTo N i)
  | 0 => .inl rfl
  | i + 1 => fold_in _ _ (bestTo_in N i) fun _ h => dskSu_in h
theorem su64_in {s : Su} (h : s = suZ ∨ SuIn s) : (0 ≤ s.g ∧ s.g ≤ 2147483647) ∧ Su64 s := by
  rcases h with rfl | h
  · exact ⟨by show (0 : Int) ≤ 0 ∧ (0 : Int) ≤ _; omega, by constructor <;> (show _ ∧ _; decide)⟩
  · obtain ⟨a1, a2, a3, a4, a5, a6, a7, a8, a9, a10⟩ := h
    exact ⟨by omega, ⟨by omega, by omega, by omega, by omega, by omega, by omega, by omega, by omega, by omega, by omega⟩⟩
end Go.Proofs.YtoomdgidpplpfaaDoor
end
section
set_option linter.unusedVariables false
set_option linter.unusedSimpArgs false
namespace Go.Proofs.YtoomdgidpplpfaaDoor

def itWr (N : Bch) (x : It) : Int × Bch := (N.writeE x.d x.a x.b.length, N.write x.d x.a x.b)
def itFl (N : Bch) (x : It) : Int × Bch := (N.flushE x.d, N.flush x.d)
/-- What is done Item by Item, up to the first error. -/
def runTo (f : Bch → It → Int × Bch) (l : List It) (N : Bch) : Nat → Int × Bch
  | 0 => (0, N)
  | i + 1 => if (runTo f l N i).1 ≠ 0 then runTo f l N i else
      if (f (runTo f l N i).2 (itN l i)).1 = 5 then (0, (f (runTo f l N i).2 (itN l i)).2) else f (runTo f l N i).2 (itN l i)
def wroteI (N : Bch) (l : List It) : Int × Bch := runTo itWr l N l.length
def settleS (N : Bch) (l : List It) : Int × Bch := if (wroteI N l).1 ≠ 0 then wroteI N l else runTo itFl l (wroteI N l).2 l.length
section
variable {f : Bch → It → Int × Bch} {l : List It} {N : Bch}
theorem runTo_pass {i : Nat} (h : (runTo f l N i).1 = 0) (hq : (f (runTo f l N i).2 (itN l i)).1 = 5) : runTo f l N (i + 1) = (0, (f (runTo f l N i).2 (itN l i)).2) := by
  rw [runTo, if_neg (by simp [h]), if_pos hq]
theorem runTo_goes {i : Nat} (h : (runTo f l N i).1 = 0) (hq : (f (runTo f l N i).2 (itN l i)).1 ≠ 5) : runTo f l N (i + 1) = f (runTo f l N i).2 (itN l i) := by
  rw [runTo, if_neg (by simp [h]), if_neg hq]
theorem runTo_stop {i : Nat} (h : (runTo f l N i).1 ≠ 0) : ∀ m, i ≤ m → runTo f l N m = runTo f l N i
  | 0, hm => by obtain rfl : i = 0 := by omega
                rfl
  | m + 1, hm => by
    by_cases e : i = m + 1
    · rw [e]
    · have ih := runTo_stop h m (by omega)
      rw [runTo, if_pos (by rw [ih]; exact h), ih]
theorem runTo_any (P : Bch → Prop) (h0 : P N) (hs : ∀ M x, P M → P (f M x).2) : ∀ i, P (runTo f l N i).2
  | 0 => h0
  | i + 1 => by
    have ih := runTo_any P h0 hs i
    rw [runTo]
    repeat' split
    · exact ih
    · exact hs _ _ ih
    · exact hs _ _ ih
end
section
variable {l : List It} {N : Bch}
theorem ran_n (i : Nat) : (runTo itWr l N i).2.n = N.n := runTo_any (fun M => M.n = N.n) rfl (fun M x h => (Bch.write_n M _ _ _).trans h) i
theorem ranF_n (i : Nat) : (runTo itFl l N i).2.n = N.n := runTo_any (fun M => M.n = N.n) rfl (fun M x h => (flush_n M _).trans h) i
theorem settle_n : (settleS N l).2.n = N.n := by
  unfold settleS wroteI; split
  · exact ran_n _
  · exact (ranF_n _).trans (ran_n _)
theorem ran_done : ∀ i, (runTo itWr l N i).2.done ≤ N.done + i
  | 0 => Nat.le_refl _
  | i + 1 => by
    have ih := ran_done i
    have h := write_done (runTo itWr l N i).2 (itN l i).d (itN l i).a (itN l i).b
    rw [runTo]
    repeat' split
    · omega
    · exact Nat.le_trans h (by omega)
    · exact Nat.le_trans h (by omega)
theorem ran_len (j : Nat) : ∀ i, ((runTo itWr l N i).2.D j).ps.length ≤ (N.D j).ps.length + i
  | 0 => Nat.le_refl _
  | i + 1 => by
    have ih := ran_len j i
    have h := write_len (runTo itWr l N i).2 (itN l i).d (itN l i).a (itN l i).b j
    rw [runTo]
    repeat' split
    · omega
    · exact Nat.le_trans h (by omega)
    · exact Nat.le_trans h (by omega)
end
/-! What is put. -/
def liveD (n : Nat) (lv : List Bool) (d : Int) : Bool := decide (d < (n : Int)) && lv.getD d.toNat false
def secIt (d : Nat) (rs : List (List UInt8)) (k : Nat) : It := ⟨(d : Int), ((2 + k : Nat) : Int), rs.getD k []⟩
def secIts (d : Nat) (rs : List (List UInt8)) (i : Nat) : List It := (List.range i).map (secIt d rs)
theorem secIts_succ (d : Nat) (rs : List (List UInt8)) (i : Nat) : secIts d rs (i + 1) = secIts d rs i ++ [secIt d rs i] := by simp [secIts, List.range_succ]
theorem secIts_len (d : Nat) (rs : List (List UInt8)) (i : Nat) : (secIts d rs i).length = i := by simp [secIts]
def putTo (n : Nat) (lv : List Bool) (rs : List (List UInt8)) : Nat → List It
  | 0 => []
  | d + 1 => putTo n lv rs d ++ if liveD n lv (d : Int) = true then secIts d rs rs.length else []
theorem putTo_no {n : Nat} {lv : List Bool} {rs : List (List UInt8)} {d : Nat} (h : liveD n lv (d : Int) = false) : putTo n lv rs (d + 1) = putTo n lv rs d := by
  rw [putTo, if_neg (by simp [h]), List.append_nil]
theorem putTo_yes {n : Nat} {lv : List Bool} {rs : List (List UInt8)} {d : Nat} (h : liveD n lv (d : Int) = true) : putTo n lv rs (d + 1) = putTo n lv rs d ++ secIts d rs rs.length := by
  rw [putTo, if_pos h]
theorem putTo_len (n : Nat) (lv : List Bool) (rs : List (List UInt8)) : ∀ d, (putTo n lv rs d).length ≤ d * rs.length
  | 0 => by simp [putTo]
  | d + 1 => by
    have ih := putTo_len n lv rs d
    have e : (d + 1) * rs.length = d * rs.length + rs.length := Nat.succ_mul _ _
    rw [putTo, List.length_append, e]
    split
    · rw [secIts_len]; omega
    · simp; omega
theorem mem_put {n : Nat} {lv : List Bool} {rs : List (List UInt8)} {x : It} : ∀ {d : Nat}, x ∈ putTo n lv rs d ↔ ∃ j k, j < d ∧ k < rs.length ∧ liveD n lv (j : Int) = true ∧ x = secIt j rs k
  | 0 => by simp [putTo]
  | d + 1 => by
    rw [putTo, List.mem_append, mem_put (d := d)]
    constructor
    · rintro (⟨j, k, hj, hk, hl, e⟩ | h)
      · exact ⟨j, k, by omega, hk, hl, e⟩
      · by_cases hl : liveD n lv (d : Int) = true
        · rw [if_pos hl] at h
          obtain ⟨k, hk, e⟩ := List.mem_map.1 h
          exact ⟨d, k, by omega, List.mem_range.1 hk, hl, e.symm⟩
        · rw [if_neg hl] at h; cases h
    · rintro ⟨j, k, hj, hk, hl, e⟩
      by_cases h : j = d
      · subst h; exact .inr (by rw [if_pos hl]; exact List.mem_map.2 ⟨k, List.mem_range.2 hk, e.symm⟩)
      · exact .inl ⟨j, k, by omega, hk, hl, e⟩
def putS (N : Bch) (lv : List Bool) (s : Int) (l : List It) : Int × Bch := if recOk s l = true then settleS N (putTo N.n lv (recB s l) N.n) else (1, N)
/-! What is applied. -/
def liveI (n : Nat) (lv : List Bool) (x : It) : Bool := liveD n lv x.d
def appS (N : Bch) (lv : List Bool) (s : Int) (l : List It) : Int × Bch := if recOk s l = true then settleS N (l.filter (liveI N.n lv)) else (1, N)
theorem put_n (N : Bch) (lv : List Bool) (s : Int) (l : List It) : (putS N lv s l).2.n = N.n := by
  unfold putS; split
  · exact settle_n
  · rfl
theorem app_n (N : Bch) (lv : List Bool) (s : Int) (l : List It) : (appS N lv s l).2.n = N.n := by
  unfold appS; split
  · exact settle_n
  · rfl
/-! What is found. -/
def logR (D : Dsk) : List (List UInt8) := (List.range 4).map fun k => secAt D.now (2 + k)
def goneD (N : Bch) (d : Nat) : Bool := N.down || (N.D d).f
def onB (N : Bch) (d : Nat) : Bool := if goneD N d = true then false else rcO (logR (N.D d))
def onS (N : Bch) (d : Nat) : Int := if goneD N d = true then 0 else rcS (logR (N.D d))
def onL (N : Bch) (d : Nat) : List It := if goneD N d = true then [] else rcL (logR (N.D d))
/-- The Record of the greatest number, of the first disks that are live. -/
def getTo (N : Bch) (lv : List Bool) : Nat → Int × List It
  | 0 => (0, [])
  | d + 1 => if liveD N.n lv (d : Int) = true ∧ onB N d = true ∧ (getTo N lv d).1 < onS N d then (onS N d, onL N d) else getTo N lv d
def getS (N : Bch) (lv : List Bool) : Int × List It := getTo N lv N.n
theorem rcS_le (rs : List (List UInt8)) : 0 ≤ rcS rs ∧ rcS rs ≤ 2147483647 := by
  unfold rcS
  split
  · rename_i h
    have := ((recOk_iff _ _).1 ((rcO_iff rs).1 h).2.1).1
    omega
  · omega
theorem onS_le (N : Bch) (d : Nat) : 0 ≤ onS N d ∧ onS N d ≤ 2147483647 := by
  unfold onS; split
  · omega
  · exact rcS_le _
theorem getTo_le (N : Bch) (lv : List Bool) : ∀ d, 0 ≤ (getTo N lv d).1 ∧ (getTo N lv d).1 ≤ 2147483647
  | 0 => ⟨Int.le_refl _, by show (0 : Int) ≤ _; omega⟩
  | d + 1 => by
    rw [getTo]; split
    · exact onS_le N d
    · exact getTo_le N lv d
theorem rcL_len (rs : List (List UInt8)) : (rcL rs).length ≤ 3 := by
  unfold rcL
  split
  · unfold itsO; rw [itsN_len]; omega
  · simp
theorem onL_len (N : Bch) (d : Nat) : (onL N d).length ≤ 3 := by
  unfold onL; split
  · simp
  · exact rcL_len _
end Go.Proofs.YtoomdgidpplpfaaDoor
end
section
set_option linter.unusedVariables false
set_option linter.unusedSimpArgs false
namespace Go.Proofs.YtoomdgidpplpfaaDoor
open Go.RowKit

/-- Values that read as rows, none of them in block ob, all where P says. -/
def RowsP (w : World) (P : Nat → Prop) (ob : Option Nat) (xs : List Value) (rs : List (List UInt8)) : Prop :=
  xs.length = rs.length ∧ ∀ k, k < rs.length → ∃ A c, xs[k]? = some (.slice A (rs.getD k []).length c) ∧ (rs.getD k []).length ≤ c ∧ RdB w w.heap.size A (rs.getD k []) ∧ (0 < (rs.getD k []).length → ∀ a, A = some a → some a.block ≠ ob ∧ P a.block)
section
variable {w w' : World} {P : Nat → Prop} {ob ob' : Option Nat} {xs ys : List Value} {rs qs : List (List UInt8)}
theorem RowsP.nil (w : World) (P : Nat → Prop) (ob : Option Nat) : RowsP w P ob [] [] := ⟨rfl, fun k hk => by simp at hk⟩
theorem RowsP.grown {row : Option Nat} (h : RowsP w P ob xs rs) (hg : w.grownBy w' row) (hr : row = ob) (ho : ob' = ob ∨ ob' = some w.heap.size) : RowsP w' P ob' xs rs :=
  ⟨h.1, fun k hk => by
    obtain ⟨A, c, h1, hcap, h2, h3⟩ := h.2 k hk
    refine ⟨A, c, h1, hcap, ⟨h2.1, fun h0 => ?_⟩, fun h0 a ha => ⟨?_, (h3 h0 a ha).2⟩⟩
    · obtain ⟨b, off, e, hb, hc⟩ := h2.2 h0
      have hne := h3 h0 _ e
      have hne2 : some b ≠ row := by rw [hr]; exact hne.1
      refine ⟨b, off, e, by have := hg.size; omega, fun j hj => ?_⟩
      rw [← hc j hj]
      exact World.cell?_of_block (w := w) (hg.block b hb hne2)
    · rcases ho with rfl | rfl
      · exact (h3 h0 a ha).1
      · obtain ⟨b, off, e, hb, hc⟩ := h2.2 h0
        rw [ha] at e
        injection e with e
        subst e
        intro e
        injection e with e
        simp at e
        omega⟩
theorem RowsP.below (h : RowsP w P ob xs rs) (hb : Below w.heap.size w w') : RowsP w' P ob xs rs :=
  ⟨h.1, fun k hk => by
    obtain ⟨A, c, h1, hcap, h2, h3⟩ := h.2 k hk
    exact ⟨A, c, h1, hcap, (h2.below hb (Nat.le_refl _)).more hb.size, h3⟩⟩
theorem RowsP.app (h : RowsP w P ob xs rs) (h' : RowsP w P ob ys qs) : RowsP w P ob (xs ++ ys) (rs ++ qs) :=
  ⟨by simp [h.1, h'.1], fun k hk => by
    by_cases hk2 : k < rs.length
    · have e : (rs ++ qs).getD k [] = rs.getD k [] := by simp [List.getD_eq_getElem?_getD, List.getElem?_append_left hk2]
      rw [e, List.getElem?_append_left (by rw [h.1]; exact hk2)]
      exact h.2 k hk2
    · have e : (rs ++ qs).getD k [] = qs.getD (k - rs.length) [] := by simp [List.getD_eq_getElem?_getD, List.getElem?_append_right (show rs.length ≤ k by omega)]
      rw [e, List.getElem?_append_right (by rw [h.1]; omega), h.1]
      exact h'.2 _ (by simp at hk; omega)⟩
theorem RowsP.one {A : Option Addr} {c : Nat} {b : List UInt8} (hr : RdB w w.heap.size A b) (hc : b.length ≤ c) (hne : 0 < b.length → ∀ a, A = some a → some a.block ≠ ob ∧ P a.block) : RowsP w P ob [.slice A b.length c] [b] :=
  ⟨rfl, fun k hk => by
    obtain rfl : k = 0 := by simp at hk; omega
    exact ⟨A, c, rfl, hc, hr, hne⟩⟩
theorem RowsP.ones (h : RowsP w P ob xs rs) : ∀ u ∈ xs, u.oneCell' = true := fun u hu => by
  obtain ⟨k, hk, rfl⟩ := List.getElem_of_mem hu
  obtain ⟨A, c, h1, _⟩ := h.2 k (by rw [← h.1]; exact hk)
  rw [List.getElem?_eq_getElem hk] at h1
  injection h1 with h1
  rw [h1]; rfl
end
/-- Items of one's own: their row lies from B on; their Data where P says, and not in that row. -/
def OwIP (e : TypeId) (w : World) (B : Nat) (P : Nat → Prop) (v : Value) (l : List It) : Prop :=
  ∃ xs, w.ownsRow B e 3 v l.length (itcs l xs) ∧ RowsP w P v.ownBlock xs (l.map (·.b)) ∧ l.length ≤ 1000000
/-- Items that are read, none of them where F says. -/
def RdIF (w : World) (F : Nat → Prop) (A : Option Addr) (l : List It) : Prop :=
  l.length ≤ 1000000 ∧ (0 < l.length → ∃ b, A = some ⟨b, 0, none⟩ ∧ b < w.heap.size ∧ ¬ F b ∧ ∀ k, k < l.length → ∃ D c, w.rangeAt b (k * 3) [.int .i64 (itN l k).d, .int .i64 (itN l k).a, .slice D (itN l k).b.length c] ∧ (itN l k).b.length ≤ c ∧ RdB w w.heap.size D (itN l k).b ∧ (0 < (itN l k).b.length → ∀ a, D = some a → ¬ F a.block))
section
variable {e : TypeId} {w w' : World} {B : Nat} {P F : Nat → Prop} {v : Value} {l : List It} {A : Option Addr}
theorem OwIP.nil (e : TypeId) (w : World) (B : Nat) (P : Nat → Prop) : OwIP e w B P (.slice none 0 0) [] := ⟨[], World.ownsRow_nil _ _ _ _, RowsP.nil _ _ _, by simp⟩
theorem OwIP.rd (h : OwIP e w B P v l) (hB : ∀ k, B ≤ k → ¬ F k) (hP : ∀ k, P k → ¬ F k) : ∃ A c, v = .slice A l.length c ∧ l.length ≤ c ∧ RdIF w F A l := by
  obtain ⟨xs, h1, h2, h3⟩ := h
  obtain ⟨A, c, rfl, hc, hg⟩ := rx_form h1
  refine ⟨A, c, rfl, hc, by omega, fun hn => ?_⟩
  obtain ⟨g, rfl, hB'⟩ := hg hn
  refine ⟨g, rfl, (h1.lt g rfl).2, hB g hB', fun k hk => ?_⟩
  obtain ⟨D, c', hx, hcc, hr, hp⟩ := h2.2 k (by simpa using hk)
  rw [itB_get hk] at hx hr hcc hp
  have hxl : xs.length = l.length := by have := h2.1; simpa using this
  refine ⟨D, c', fun j u hj => ?_, hcc, hr, fun h0 a ha => hP _ (hp h0 a ha).2⟩
  have hj3 : j < 3 := (List.getElem?_eq_some_iff.1 hj).1
  rw [rx_cell_at h1 _ (by rw [itcs_len _ _ hxl]; omega), itcs_get l xs k _ hxl hx j hj3]
  exact hj
theorem OwIP.lt (h : OwIP e w B P v l) : ∀ k, v.ownBlock = some k → B ≤ k ∧ k < w.heap.size := by
  obtain ⟨xs, h1, _⟩ := h; exact h1.lt
theorem OwIP.below (h : OwIP e w B P v l) (hb : Below w.heap.size w w') : OwIP e w' B P v l := by
  obtain ⟨xs, h1, h2, h3⟩ := h
  exact ⟨xs, h1.kept (grown_none hb) (Classical.em _), h2.below hb, h3⟩
theorem RdIF.chg {G : Nat → Prop} (h : RdIF w F A l) (hc : Chg G w w') (hG : ∀ k, k < w.heap.size → G k → F k) : RdIF w' F A l :=
  ⟨h.1, fun hn => by
    obtain ⟨b, e, hb, hf, hk⟩ := h.2 hn
    refine ⟨b, e, Nat.lt_of_lt_of_le hb hc.size, hf, fun k hkl => ?_⟩
    obtain ⟨D, c, h1, hcc, h2, h3⟩ := hk k hkl
    refine ⟨D, c, rangeAt_keep h1 fun j => World.cell?_of_block (a := ⟨b, j, none⟩) (hc.block b hb fun g => hf (hG b hb g)), hcc, ⟨h2.1, fun h0 => ?_⟩, h3⟩
    obtain ⟨g, off, e', hg, hcl⟩ := h2.2 h0
    exact ⟨g, off, e', Nat.lt_of_lt_of_le hg hc.size, fun j hj => (World.cell?_of_block (a := ⟨g, off + j, none⟩) (hc.block g hg fun x => h3 h0 _ e' (hG g hg x))).trans (hcl j hj)⟩⟩
theorem RdIF.below (h : RdIF w F A l) (hb : Below w.heap.size w w') : RdIF w' F A l := h.chg (chg_below (fun _ => False) hb) fun _ _ e => e.elim
/-- What is of new memory is none of what was there. -/
theorem RdIF.off {G : Nat → Prop} (h : RdIF w F A l) (hG : ∀ k, k < w.heap.size → G k → F k) : RdIF w G A l :=
  ⟨h.1, fun hn => by
    obtain ⟨b, e, hb, hf, hk⟩ := h.2 hn
    refine ⟨b, e, hb, fun g => hf (hG b hb g), fun k hkl => ?_⟩
    obtain ⟨D, c, h1, hcc, h2, h3⟩ := hk k hkl
    refine ⟨D, c, h1, hcc, h2, fun h0 a ha g => h3 h0 a ha (hG _ ?_ g)⟩
    obtain ⟨b', off, e', hg, _⟩ := h2.2 h0
    rw [e'] at ha; injection ha with ha; rw [← ha]; exact hg⟩
theorem RdIF.rdI (h : RdIF w F A l) : RdI w w.heap.size A l :=
  ⟨by have := h.1; omega, fun hn => by
    obtain ⟨b, e, hb, _, hk⟩ := h.2 hn
    refine ⟨b, e, hb, fun k hkl => ?_⟩
    obtain ⟨D, c, h1, _, h2, _⟩ := hk k hkl
    exact ⟨D, c, h1, h2⟩⟩
theorem RdIF.nil (w : World) (F : Nat → Prop) (A : Option Addr) : RdIF w F A [] := ⟨by simp, fun h => by simp at h⟩
/-- Items of one's own, made since lo: none of what was there before. -/
theorem OwIt.rdF {lo : Nat} (h : OwIt e w B lo v l) (hB : ∀ k, B ≤ k → ¬ F k) (hl : ∀ k, lo ≤ k → ¬ F k) : ∃ A c, v = .slice A l.length c ∧ l.length ≤ c ∧ RdIF w F A l := by
  obtain ⟨xs, h1, h2, h3⟩ := h
  exact OwIP.rd (P := fun k => lo ≤ k) ⟨xs, h1, h2, h3⟩ hB hl
end
/-- What is appended: Items that lie there. -/
def SrcP (w : World) (P : Nat → Prop) (ob : Option Nat) (A : Option Addr) (l : List It) : Prop :=
  (A = none ∧ l = []) ∨ ∃ ad xs, A = some ad ∧ RowsP w P ob xs (l.map (·.b)) ∧ ∀ j u, (itcs l xs)[j]? = some u → w.cell? (ad.add j) = some u
section
variable {P : Program} (w : World) (Pp : Nat → Prop)
theorem run_append_P (base : Nat) (t ty e : TypeId) (ht : P.underlying t = some (.slice e)) (hinfo : (P.info? e).map (fun i => (i.zero, i.size, i.bytes)) = some (some (.agg #[.int .i64 0, .int .i64 0, .slice none 0 0]), 3, 40))
    (v : Value) (l : List It) (hown : OwIP e w base Pp v l) (A : Option Addr) (m c : Nat) (l2 : List It) (hm : m = l2.length) (hs : SrcP w Pp v.ownBlock A l2) (hn : l.length + l2.length ≤ 1000000) (hbase : base ≤ w.heap.size) :
    ∃ v' w', (Builtin.append_ #[t, t] ty #[v, .slice A m c]).run P w = .ok v' w' ∧ OwIP e w' base Pp v' (l ++ l2) ∧ w.grownBy w' v.ownBlock ∧ (v'.ownBlock = v.ownBlock ∨ v'.ownBlock = some w.heap.size) := by
  subst hm
  obtain ⟨i, hi, hzz⟩ := Option.map_eq_some_iff.1 hinfo
  simp only [Prod.mk.injEq] at hzz
  obtain ⟨hz, hs', hb⟩ := hzz
  obtain ⟨xs, h1, h2, h3⟩ := hown
  rcases hs with ⟨rfl, rfl⟩ | ⟨ad, xs2, rfl, g2, g3⟩
  · refine ⟨v, w, ?_, by rw [List.append_nil]; exact ⟨xs, h1, h2, h3⟩, World.grownBy.refl w _, .inl rfl⟩
    rcases h1.2 with ⟨rfl, _⟩ | ⟨g, cap, cur, rfl, _, _, hnc, _⟩
    · simp [Builtin.append_, run_underlying ht, sizeOf, typeInfo, hi, Builtin.lenOf, Builtin.firstCells]
    · simp [Builtin.append_, run_underlying ht, sizeOf, typeInfo, hi, Builtin.lenOf, Builtin.firstCells, hnc, storeCells]
  · have hx2 : xs2.length = l2.length := by have := g2.1; simpa using this
    have hx1 : xs.length = l.length := by have := h2.1; simpa using this
    obtain ⟨v', w', hrun, k2, k3, _, k5⟩ := run_append_own_at (P := P) w base t ty e i _ 3 40 ht hi hz hs' hb rfl (by omega) v l.length (itcs l xs) h1 ad l2.length c (itcs l2 xs2) (itcs_len _ _ hx2) g3 (itcs_one _ _ g2.ones) (by unfold maxLen; omega) (by omega) hbase
    refine ⟨v', w', hrun, ⟨xs ++ xs2, ?_, ?_, by simp; omega⟩, k3, k5⟩
    · rw [itcs_app _ _ _ _ hx1, List.length_append]; exact k2
    · rw [List.map_append]
      exact (h2.grown k3 rfl k5).app (g2.grown k3 rfl k5)
theorem wpList_append_P {ops : Array Oper} {rest : List Oper} {o : Oper} {a : Act} {Q : Exit → Act → World → Prop} (hw : Region.wanted o (yielded ops a.tmps) = true) (s x : Operand) (t : TypeId)
    (ho : o.op = .call { callee := .builtin .append, args := #[s, x], argTypes := #[t, t] })
    (base : Nat) (e : TypeId) (ht : P.underlying t = some (.slice e)) (hinfo : (P.info? e).map (fun i => (i.zero, i.size, i.bytes)) = some (some (.agg #[.int .i64 0, .int .i64 0, .slice none 0 0]), 3, 40))
    (v : Value) (l : List It) (hsv : a.eval s = v) (hown : OwIP e w base Pp v l) (A : Option Addr) (m c : Nat) (l2 : List It) (hx : a.eval x = .slice A m c) (hm : m = l2.length) (hs : SrcP w Pp v.ownBlock A l2) (hn : l.length + l2.length ≤ 1000000) (hbase : base ≤ w.heap.size)
    (h : ∀ v' w', OwIP e w' base Pp v' (l ++ l2) → w.grownBy w' v.ownBlock → (v'.ownBlock = v.ownBlock ∨ v'.ownBlock = some w.heap.size) → wpList P ops Q rest (a.put o.dst v') w') : wpList P ops Q (o :: rest) a w := by
  refine BigFrame.wpList_want hw fun K hK => ?_
  obtain ⟨v', w', hrun, h2, h3, h4⟩ := run_append_P (P := P) w Pp base t o.type e ht hinfo v l hown A m c l2 hm hs hn hbase
  unfold Oper.wp execOp
  simp only [ho, resolve, invoke, builtin, Sem.run_bind, Sem.run_pure, Result.andThen_ok, List.map_toArray, List.map_cons, List.map_nil, hsv, hx, hrun]
  exact hK _ _ (h v' w' h2 h3 h4)
end
/-- One Item, in a new block of its own. -/
theorem src_oneP {w : World} {P : Nat → Prop} {g : Nat} {ob : Option Nat} {x : It} {D : Option Addr} {c : Nat} {t : TypeId} {f : Nat × Nat} (hg : w.heap[g]? = some (.cells (List.toArray [.int .i64 x.d, .int .i64 x.a, .slice D x.b.length c]) t f)) (hr : RdB w w.heap.size D x.b) (hc : x.b.length ≤ c) (hne : 0 < x.b.length → ∀ a, D = some a → some a.block ≠ ob ∧ P a.block) : SrcP w P ob (some ⟨g, 0, none⟩) [x] :=
  .inr ⟨⟨g, 0, none⟩, [.slice D x.b.length c], rfl, RowsP.one hr hc hne, fun j u hu => by
    have e1 : ((⟨g, 0, none⟩ : Addr).add j) = ⟨g, j, none⟩ := by unfold Addr.add; by_cases hk0 : j = 0 <;> simp [hk0]
    rw [e1, cell_of_row w g j _ t f hg]
    simpa [itcs] using hu⟩
end Go.Proofs.YtoomdgidpplpfaaDoor
end
section
set_option maxRecDepth 8000
set_option linter.unusedVariables false
set_option linter.unusedSimpArgs false
namespace Go.Proofs.YtoomdgidpplpfaaDoor
open Go.RowKit

theorem hinders_any (x : Int) (w : World) : Calls Tryd.prog 51 #[.int .i64 x] w fun e w' => e = .returned (.bool (decide (x ≠ 0 ∧ x ≠ 5))) ∧ w' = w := by
  by_cases h0 : x = 0
  · subst h0
    go_enter Tryd.func51, Tryd.ntmps51
    go_wp2
    go_ret
    exact ⟨rfl, rfl⟩
  · have e0 : (x != 0) = true := by rw [bne_iff_ne]; exact h0
    by_cases h5 : x = 5
    · subst h5
      clear h0 e0
      go_enter Tryd.func51, Tryd.ntmps51
      go_wp2
      go_ret
      exact ⟨rfl, rfl⟩
    · have e5 : (x != 5) = true := by rw [bne_iff_ne]; exact h5
      have R := Lib.hid (show decide (x ≠ 0 ∧ x ≠ 5) = true from decide_eq_true ⟨h0, h5⟩)
      generalize decide (x ≠ 0 ∧ x ≠ 5) = res at R
      clear h0 h5
      go_enter Tryd.func51, Tryd.ntmps51
      go_wp2
      go_ret
      exact ⟨by rw [R.out]; rfl, rfl⟩
theorem isLive_any (B b : Nat) (H : BH) (N : Bch) (w : World) (h : BAt w B b H N) (lv : List Bool) (A : Option Addr) (n c : Nat) (hn : n = lv.length) (hv : RdO w w.heap.size A lv) (d : Int) (h0 : 0 ≤ d) (h1 : d ≤ 1000000) :
    Calls Tryd.prog 34 #[ptr b, .slice A n c, .int .i64 d] w fun e w' => e = .returned (.bool (liveD N.n lv d)) ∧ w' = w := by
  subst hn
  have CL := Lib.hid (bch_len_any B b H N w h)
  obtain ⟨j, rfl⟩ : ∃ j : Nat, d = (j : Int) := ⟨d.toNat, by omega⟩
  have hn8 := h.ok.n
  have hlv := hv.1
  clear h
  unfold ptr at CL ⊢
  by_cases c1 : j < N.n
  · have i1 : (j : Int) < (N.n : Int) := by omega
    by_cases c2 : j < lv.length
    · have i2 : (j : Int) < (lv.length : Int) := by omega
      obtain ⟨lb, off, rfl, hlb, hcv⟩ := hv.2 (by omega)
      have hcl := hcv j c2
      have R := Lib.hid (show liveD N.n lv (j : Int) = lv.getD j false by unfold liveD; rw [decide_eq_true i1]; rfl)
      clear hcv hv c1 c2
      generalize lv.getD j false = x at hcl R
      go_enter Tryd.func34, Tryd.ntmps34
      go_wp2_with (refine CL.out.mono ?_; rintro e w' ⟨rfl, rfl⟩)
      go_ret
      exact ⟨by rw [R.out]; rfl, rfl⟩
    · have i2 : ¬ ((j : Int) < (lv.length : Int)) := by omega
      have R := Lib.hid (show liveD N.n lv (j : Int) = false by
        unfold liveD; rw [decide_eq_true i1]
        show lv.getD j false = false
        rw [List.getD_eq_getElem?_getD, List.getElem?_eq_none (by omega)]; rfl)
      clear hv c1 c2
      go_enter Tryd.func34, Tryd.ntmps34
      go_wp2_with (refine CL.out.mono ?_; rintro e w' ⟨rfl, rfl⟩)
      go_ret
      exact ⟨by rw [R.out]; rfl, rfl⟩
  · have i1 : ¬ ((j : Int) < (N.n : Int)) := by omega
    have R := Lib.hid (show liveD N.n lv (j : Int) = false by unfold liveD; rw [decide_eq_false i1]; rfl)
    clear hv c1
    go_enter Tryd.func34, Tryd.ntmps34
    go_wp2_with (refine CL.out.mono ?_; rintro e w' ⟨rfl, rfl⟩)
    go_ret
    exact ⟨by rw [R.out]; rfl, rfl⟩
end Go.Proofs.YtoomdgidpplpfaaDoor
end
section
set_option maxRecDepth 8000
set_option linter.unusedVariables false
set_option linter.unusedSimpArgs false
namespace Go.Proofs.YtoomdgidpplpfaaDoor
open Go.RowKit

theorem hind0 : decide ((0 : Int) ≠ 0 ∧ (0 : Int) ≠ 5) = false := by decide
theorem hind5 : decide ((5 : Int) ≠ 0 ∧ (5 : Int) ≠ 5) = false := by decide
theorem hindX {x : Int} (h0 : x ≠ 0) (h5 : x ≠ 5) : decide (x ≠ 0 ∧ x ≠ 5) = true := decide_eq_true ⟨h0, h5⟩
set_option maxHeartbeats 4000000 in
theorem settle_any (W w : World) (b : Nat) (H : BH) (N : Bch) (h : BP W w b H N) (l : List It) (A : Option Addr) (n c : Nat) (hn : n = l.length) (hr : RdIF w (BF b H N.n) A l) (h64 : Its64 l)
    (hps : ∀ i, i < N.n → (N.D i).ps.length ≤ 1000000) (hdn : N.done ≤ 1000000) :
    Calls Tryd.prog 35 #[.pointer (some ⟨b, 0, none⟩), .slice A n c] w fun e w' => e = .returned (.int .i64 (settleS N l).1) ∧ BC W w w' b H N.n (settleS N l).2 := by
  subst hn
  have Hh := Lib.hid h
  have Hr := Lib.hid hr
  have H64 := Lib.hid h64
  have Hp := Lib.hid hps
  have Hd := Lib.hid hdn
  have hl6 := hr.1
  have HS1 := Lib.hid (show (wroteI N l).1 ≠ 0 → settleS N l = wroteI N l from fun h => if_pos h)
  have HS2 := Lib.hid (show (wroteI N l).1 = 0 → settleS N l = runTo itFl l (wroteI N l).2 l.length from fun h => if_neg (fun q => q h))
  have HW : Hid (wroteI N l = runTo itWr l N l.length) := rfl
  have CH := Lib.hid hinders_any
  clear h hr h64 hps hdn
  go_enter Tryd.func35, Tryd.ntmps35
  go_wp2
  go_loopw [13] (fun i wr => ∃ j : Nat, j ≤ l.length ∧ i = .int .i64 j ∧ (runTo itWr l N j).1 = 0 ∧ BC W w wr b H N.n (runTo itWr l N j).2) (fun i _ => l.length - (intOf i).toNat)
  case atStart => exact ⟨0, Nat.zero_le _, rfl, rfl, Hh.out.self⟩
  case round =>
    obtain ⟨j, hj, rfl, hz, hbc⟩ := hrel
    have Hz := Lib.hid hz
    have Hbc := Lib.hid hbc
    obtain ⟨Hj, aj, cj, nj⟩ := hbc
    have Haj := Lib.hid aj
    have Hcj := Lib.hid cj
    have Hnj := Lib.hid nj
    have Hrj := Lib.hid (Hr.out.chg cj fun _ _ e => e)
    clear hz aj cj nj
    by_cases hlt : j < l.length
    · have i0 : (0 : Int) ≤ (j : Int) := by omega
      have i1 : (j : Int) < (l.length : Int) := by omega
      obtain ⟨g, rfl, hg, hgf, hk⟩ := Hrj.out.2 (by omega)
      obtain ⟨D, cd, hrp, hcd, hrd, hof⟩ := hk j hlt
      have Hlen : Hid (∀ i, i < N.n → ((runTo itWr l N j).2.D i).ps.length ≤ 2000000) := fun i hi => by have h1 := Hp.out i hi; have h2 := ran_len (l := l) (N := N) i j; omega
      have Hdone : Hid ((runTo itWr l N j).2.done ≤ 2000000) := by show _ ≤ _; have h1 := Hd.out; have h2 := ran_done (l := l) (N := N) j; omega
      have Hnn : Hid ((runTo itWr l N j).2.n = N.n) := ran_n j
      have hx64 := H64.out j hlt
      have HP := Lib.hid (fun hq => runTo_pass (f := itWr) (l := l) (N := N) (i := j) Hz.out hq)
      have HG := Lib.hid (fun hq => runTo_goes (f := itWr) (l := l) (N := N) (i := j) Hz.out hq)
      have HST := Lib.hid (fun hq => runTo_stop (f := itWr) (l := l) (N := N) (i := j + 1) hq l.length (by omega))
      generalize itN l j = x at hrp hrd hx64 hcd hof HP HG
      have Hrp := Lib.hid hrp
      have b1 := below1 wr (.cells #[.int .i64 x.d, .int .i64 x.a, .slice D x.b.length cd] 43)
      have CW := Lib.hid (bp_write W _ b Hj _ (Haj.out.alloc (.cells #[.int .i64 x.d, .int .i64 x.a, .slice D x.b.length cd] 43)) x.d x.a x.b D x.b.length cd rfl hx64.d hx64.a ((hrd.below b1 (Nat.le_refl _)).more b1.size) (fun i hi => Hlen.out i (by rw [Hnn.out] at hi; exact hi)) Hdone.out)
      have HX : Hid (∀ w2 N2, BC W (wr.alloc (.cells #[.int .i64 x.d, .int .i64 x.a, .slice D x.b.length cd] 43)) w2 b Hj (runTo itWr l N j).2.n N2 → BC W w w2 b H N.n N2) := fun w2 N2 h2 => by
        rw [Hnn.out] at h2
        exact (BC.below b1 h2).seq Hcj.out Hnj.out
      clear hrp hk b1 hrd hof Hrj hgf
      have Hw : Hid (itWr (runTo itWr l N j).2 x = ((runTo itWr l N j).2.writeE x.d x.a x.b.length, (runTo itWr l N j).2.write x.d x.a x.b)) := rfl
      generalize (runTo itWr l N j).2.writeE x.d x.a x.b.length = e at CW Hw
      generalize (runTo itWr l N j).2.write x.d x.a x.b = Nx at CW Hw
      rw [Hw.out] at HP HG
      by_cases h5 : e = 5
      · have HP := Lib.hid (HP.out h5)
        rw [h5] at CW
        clear HG h5 Hw
        have CH5 := Lib.hid (fun V => hinders_any 5 V)
        rw [hind5] at CH5
        clear CH
        go_wp2_with (first
          | ((with_reducible refine (id ?_ : wpList _ _ _ (⟨some 16, _, _, _, _, _⟩ :: _) _ _)); refine wpList_load_mid rfl 43 _ (by rfl) g (j * 3) (by rfl) [.int .i64 x.d, .int .i64 x.a, .slice D x.b.length cd] _ Hrp.out Tryd.underlying43 rfl (by kernel_rfl) ?_)
          | (go_at_call 50; refine CW.out.mono ?_; rintro e w2 ⟨rfl, ht⟩; have Ht := Lib.hid (HX.out _ _ ht); clear ht)
          | (go_at_call 51; refine (CH5.out _).mono ?_; rintro e w3 ⟨rfl, rfl⟩))
        go_roundw
        case rel => exact ⟨j + 1, by omega, by go_num, by rw [HP.out], by rw [HP.out]; exact Ht.out⟩
        case measure => simp [intOf]; omega
      · have HG := Lib.hid (HG.out h5)
        clear HP
        by_cases h0 : e = 0
        · rw [h0] at CW HG
          have CH0 := Lib.hid (fun V => hinders_any 0 V)
          rw [hind0] at CH0
          clear h5 h0 CH Hw
          go_wp2_with (first
            | ((with_reducible refine (id ?_ : wpList _ _ _ (⟨some 16, _, _, _, _, _⟩ :: _) _ _)); refine wpList_load_mid rfl 43 _ (by rfl) g (j * 3) (by rfl) [.int .i64 x.d, .int .i64 x.a, .slice D x.b.length cd] _ Hrp.out Tryd.underlying43 rfl (by kernel_rfl) ?_)
            | (go_at_call 50; refine CW.out.mono ?_; rintro e w2 ⟨rfl, ht⟩; have Ht := Lib.hid (HX.out _ _ ht); clear ht)
            | (go_at_call 51; refine (CH0.out _).mono ?_; rintro e w3 ⟨rfl, rfl⟩))
          go_roundw
          case rel => exact ⟨j + 1, by omega, by go_num, by rw [HG.out], by rw [HG.out]; exact Ht.out⟩
          case measure => simp [intOf]; omega
        · have CHx := Lib.hid (fun V => hinders_any e V)
          rw [hindX h0 h5] at CHx
          have HE := Lib.hid (show settleS N l = (e, Nx) by
            have q1 := HST.out (by rw [HG.out]; exact h0)
            rw [HG.out] at q1
            have q2 := HW.out.trans q1
            rw [HS1.out (by rw [q2]; exact h0), q2])
          clear h5 h0 CH Hw HST HG
          go_wp2_with (first
            | ((with_reducible refine (id ?_ : wpList _ _ _ (⟨some 16, _, _, _, _, _⟩ :: _) _ _)); refine wpList_load_mid rfl 43 _ (by rfl) g (j * 3) (by rfl) [.int .i64 x.d, .int .i64 x.a, .slice D x.b.length cd] _ Hrp.out Tryd.underlying43 rfl (by kernel_rfl) ?_)
            | (go_at_call 50; refine CW.out.mono ?_; rintro e w2 ⟨rfl, ht⟩; have Ht := Lib.hid (HX.out _ _ ht); clear ht)
            | (go_at_call 51; refine (CHx.out _).mono ?_; rintro e w3 ⟨rfl, rfl⟩))
          go_ret
          exact ⟨by rw [HE.out]; rfl, by rw [HE.out]; exact Ht.out⟩
    · obtain rfl : j = l.length := by omega
      have HS := Lib.hid (HS2.out (by rw [HW.out]; exact Hz.out))
      rw [HW.out] at HS
      have HnW : Hid ((runTo itWr l N l.length).2.n = N.n) := ran_n _
      generalize (runTo itWr l N l.length).2 = M at HS HnW Haj Hbc
      clear HS1 HS2 HW Hz hlt Hp Hd
      obtain ⟨Hm, am, cm, nm⟩ := Hbc.out
      have Ham := Lib.hid am
      have Hcm := Lib.hid cm
      have Hnm := Lib.hid nm
      clear am cm nm Haj Hcj Hnj Hbc Hrj
      go_wp2
      go_loopw [31] (fun i wr => ∃ j : Nat, j ≤ l.length ∧ i = .int .i64 j ∧ (runTo itFl l M j).1 = 0 ∧ BC W w wr b H N.n (runTo itFl l M j).2) (fun i _ => l.length - (intOf i).toNat)
      case atStart => exact ⟨0, Nat.zero_le _, rfl, rfl, Hm, Ham.out, Hcm.out, Hnm.out⟩
      case round =>
        obtain ⟨j, hj, rfl, hz, hbc⟩ := hrel
        have Hz := Lib.hid hz
        have Hbc := Lib.hid hbc
        obtain ⟨Hj, aj, cj, nj⟩ := hbc
        have Haj := Lib.hid aj
        have Hcj := Lib.hid cj
        have Hnj := Lib.hid nj
        clear hz aj cj nj
        by_cases hlt : j < l.length
        · have i0 : (0 : Int) ≤ (j : Int) := by omega
          have i1 : (j : Int) < (l.length : Int) := by omega
          obtain ⟨g, rfl, hg, hgf, hk⟩ := Hr.out.2 (by omega)
          obtain ⟨D, cd, hrp, _⟩ := hk j hlt
          have Hrp := Lib.hid (rangeAt_keep (w' := wr) hrp fun k => World.cell?_of_block (a := ⟨g, k, none⟩) (Hcj.out.block g hg hgf))
          have Hnn : Hid ((runTo itFl l M j).2.n = N.n) := (ranF_n j).trans HnW.out
          have hx64 := H64.out j hlt
          have HP := Lib.hid (fun hq => runTo_pass (f := itFl) (l := l) (N := M) (i := j) Hz.out hq)
          have HG := Lib.hid (fun hq => runTo_goes (f := itFl) (l := l) (N := M) (i := j) Hz.out hq)
          have HST := Lib.hid (fun hq => runTo_stop (f := itFl) (l := l) (N := M) (i := j + 1) hq l.length (by omega))
          generalize itN l j = x at hrp Hrp hx64 HP HG
          have b1 := below1 wr (.cells #[.int .i64 x.d, .int .i64 x.a, .slice D x.b.length cd] 43)
          have CW := Lib.hid (bp_flush W _ b Hj _ (Haj.out.alloc (.cells #[.int .i64 x.d, .int .i64 x.a, .slice D x.b.length cd] 43)) x.d hx64.d)
          have HX : Hid (∀ w2 N2, BC W (wr.alloc (.cells #[.int .i64 x.d, .int .i64 x.a, .slice D x.b.length cd] 43)) w2 b Hj (runTo itFl l M j).2.n N2 → BC W w w2 b H N.n N2) := fun w2 N2 h2 => by
            rw [Hnn.out] at h2
            exact (BC.below b1 h2).seq Hcj.out Hnj.out
          clear hrp hk b1 hgf
          have Hw : Hid (itFl (runTo itFl l M j).2 x = ((runTo itFl l M j).2.flushE x.d, (runTo itFl l M j).2.flush x.d)) := rfl
          generalize (runTo itFl l M j).2.flushE x.d = e at CW Hw
          generalize (runTo itFl l M j).2.flush x.d = Nx at CW Hw
          rw [Hw.out] at HP HG
          by_cases h5 : e = 5
          · have HP := Lib.hid (HP.out h5)
            rw [h5] at CW
            clear HG h5 Hw
            have CH5 := Lib.hid (fun V => hinders_any 5 V)
            rw [hind5] at CH5
            clear CH
            go_wp2_with (first
              | ((with_reducible refine (id ?_ : wpList _ _ _ (⟨some 34, _, _, _, _, _⟩ :: _) _ _)); refine wpList_load_mid rfl 43 _ (by rfl) g (j * 3) (by rfl) [.int .i64 x.d, .int .i64 x.a, .slice D x.b.length cd] _ Hrp.out Tryd.underlying43 rfl (by kernel_rfl) ?_)
              | (go_at_call 52; refine CW.out.mono ?_; rintro e w2 ⟨rfl, ht⟩; have Ht := Lib.hid (HX.out _ _ ht); clear ht)
              | (go_at_call 51; refine (CH5.out _).mono ?_; rintro e w3 ⟨rfl, rfl⟩))
            go_roundw
            case rel => exact ⟨j + 1, by omega, by go_num, by rw [HP.out], by rw [HP.out]; exact Ht.out⟩
            case measure => simp [intOf]; omega
          · have HG := Lib.hid (HG.out h5)
            clear HP
            by_cases h0 : e = 0
            · rw [h0] at CW HG
              have CH0 := Lib.hid (fun V => hinders_any 0 V)
              rw [hind0] at CH0
              clear h5 h0 CH Hw
              go_wp2_with (first
                | ((with_reducible refine (id ?_ : wpList _ _ _ (⟨some 34, _, _, _, _, _⟩ :: _) _ _)); refine wpList_load_mid rfl 43 _ (by rfl) g (j * 3) (by rfl) [.int .i64 x.d, .int .i64 x.a, .slice D x.b.length cd] _ Hrp.out Tryd.underlying43 rfl (by kernel_rfl) ?_)
                | (go_at_call 52; refine CW.out.mono ?_; rintro e w2 ⟨rfl, ht⟩; have Ht := Lib.hid (HX.out _ _ ht); clear ht)
                | (go_at_call 51; refine (CH0.out _).mono ?_; rintro e w3 ⟨rfl, rfl⟩))
              go_roundw
              case rel => exact ⟨j + 1, by omega, by go_num, by rw [HG.out], by rw [HG.out]; exact Ht.out⟩
              case measure => simp [intOf]; omega
            · have CHx := Lib.hid (fun V => hinders_any e V)
              rw [hindX h0 h5] at CHx
              have HE := Lib.hid (show settleS N l = (e, Nx) by
                have q1 := HST.out (by rw [HG.out]; exact h0)
                rw [HG.out] at q1
                rw [HS.out, q1])
              clear h5 h0 CH Hw HST HG
              go_wp2_with (first
                | ((with_reducible refine (id ?_ : wpList _ _ _ (⟨some 34, _, _, _, _, _⟩ :: _) _ _)); refine wpList_load_mid rfl 43 _ (by rfl) g (j * 3) (by rfl) [.int .i64 x.d, .int .i64 x.a, .slice D x.b.length cd] _ Hrp.out Tryd.underlying43 rfl (by kernel_rfl) ?_)
                | (go_at_call 52; refine CW.out.mono ?_; rintro e w2 ⟨rfl, ht⟩; have Ht := Lib.hid (HX.out _ _ ht); clear ht)
                | (go_at_call 51; refine (CHx.out _).mono ?_; rintro e w3 ⟨rfl, rfl⟩))
              go_ret
              exact ⟨by rw [HE.out]; rfl, by rw [HE.out]; exact Ht.out⟩
        · obtain rfl : j = l.length := by omega
          have HE := Lib.hid (show settleS N l = (0, (runTo itFl l M l.length).2) by rw [HS.out]; exact Prod.ext Hz.out rfl)
          clear HS
          go_wp2
          go_ret
          exact ⟨by rw [HE.out]; rfl, by rw [HE.out]; exact Hbc.out⟩
end Go.Proofs.YtoomdgidpplpfaaDoor
end
section
set_option maxRecDepth 8000
set_option linter.unusedVariables false
set_option linter.unusedSimpArgs false
namespace Go.Proofs.YtoomdgidpplpfaaDoor
open Go.RowKit

theorem filt_yes {f : It → Bool} {l : List It} {j : Nat} (h : j < l.length) (hf : f (itN l j) = true) : (l.take (j + 1)).filter f = (l.take j).filter f ++ [itN l j] := by
  rw [its_take h, List.filter_append, List.filter_cons_of_pos hf, List.filter_nil]
theorem filt_no {f : It → Bool} {l : List It} {j : Nat} (h : j < l.length) (hf : f (itN l j) = false) : (l.take (j + 1)).filter f = (l.take j).filter f := by
  rw [its_take h, List.filter_append, List.filter_cons_of_neg (by simp [hf]), List.filter_nil, List.append_nil]
theorem filt_len (f : It → Bool) (l : List It) (j : Nat) : ((l.take j).filter f).length ≤ j := by
  have h1 := List.length_filter_le f (l.take j)
  have h2 : (l.take j).length ≤ j := by simp; omega
  omega
theorem its64_sub {l m : List It} (h : Its64 l) (hs : ∀ x ∈ m, x ∈ l) : Its64 m := fun k hk => by
  obtain ⟨i, hi, e⟩ := List.getElem_of_mem (hs _ (itN_mem hk))
  have := h i hi
  rw [show itN l i = l[i] from by simp [itN, List.getD_eq_getElem?_getD, hi], e] at this
  exact this
set_option maxHeartbeats 4000000 in
theorem app_any (W w : World) (b : Nat) (H : BH) (N : Bch) (h : BP W w b H N) (lv : List Bool) (LA : Option Addr) (ln lc : Nat) (hln : ln = lv.length) (hlv : RdO w w.heap.size LA lv)
    (s : Int) (l : List It) (A : Option Addr) (n c : Nat) (hn : n = l.length) (hnc : n ≤ c) (hr : RdIF w (BF b H N.n) A l) (h64 : Its64 l) (hs : (-9223372036854775808 ≤ s ∧ s ≤ 9223372036854775807))
    (hps : ∀ i, i < N.n → (N.D i).ps.length ≤ 1000000) (hdn : N.done ≤ 1000000) :
    Calls Tryd.prog 16 #[.pointer (some ⟨b, 0, none⟩), .slice LA ln lc, .agg #[.int .i64 s, .slice A n c]] w fun e w' => e = .returned (.int .i64 (appS N lv s l).1) ∧ BC W w w' b H N.n (appS N lv s l).2 := by
  subst hn hln
  have hrd := hr.rdI
  have Hh := Lib.hid h
  have B1 := below1 w (.cells #[.int .i64 s, .slice A l.length c] 29)
  have c1 := cell_of_row _ _ 1 _ _ _ (heap_alloc_new w (.cells #[.int .i64 s, .slice A l.length c] 29))
  have C1 := Lib.hid c1
  cases hk : recOk s l with
  | false =>
    have CK := Lib.hid (check_no A l.length c s l _ rfl hnc hs (hrd.later B1) h64 (Lib.hid hk))
    have HE := Lib.hid (show appS N lv s l = (1, N) by unfold appS; rw [hk]; rfl)
    have Hb1 := Lib.hid B1
    clear hk hr h64 hps hdn hrd hlv h B1 c1 C1
    go_enter Tryd.func16, Tryd.ntmps16
    go_wp2_with fail
    refine CK.out.mono ?_
    rintro e w1 ⟨rfl, hb⟩
    have B2 := Lib.hid (Hb1.out.trans (hb.mono Hb1.out.size))
    clear hb
    go_wp2
    go_ret
    exact ⟨by rw [HE.out]; rfl, by rw [HE.out]; exact BC.below B2.out (Hh.out.grow B2.out).self⟩
  | true =>
    have CK := Lib.hid (check_yes A l.length c s l _ rfl hnc hs (hrd.later B1) h64 (Lib.hid hk))
    have HE := Lib.hid (show appS N lv s l = settleS N (l.filter (liveI N.n lv)) by unfold appS; rw [hk]; rfl)
    have HM := Lib.hid (fun j (hj : j < l.length) => recOk_may hk _ (itN_mem hj))
    have hl3 := ((recOk_iff s l).1 hk).1.2.2
    have Hr := Lib.hid hr
    have H64 := Lib.hid h64
    have Hlv := Lib.hid hlv
    have Hoff := Lib.hid (show ∀ k, w.heap.size ≤ k → ¬ BF b H N.n k from fun k hk e => by have := (h.at'.flt e).2; omega)
    have CS := Lib.hid (fun V (hV : Below w.heap.size w V) (m : List It) (A2 : Option Addr) (c2 : Nat) (hm : RdIF V (BF b H N.n) A2 m) (h6 : Its64 m) => settle_any W V b H N (h.grow hV) m A2 m.length c2 rfl hm h6 hps hdn)
    have Hb1 := Lib.hid B1
    clear hk hr h64 hps hdn hrd hlv h B1 c1
    go_enter Tryd.func16, Tryd.ntmps16
    go_wp2_with fail
    refine CK.out.mono ?_
    rintro e w1 ⟨rfl, hb⟩
    have c1 := (hb.cell (p := ⟨w.heap.size, 1, none⟩) (by show w.heap.size < _; simp)).trans C1.out
    have B2 := Lib.hid (Hb1.out.trans (hb.mono Hb1.out.size))
    clear hb CK
    go_wp2
    go_loopw [8, 19] (fun v i wr => ∃ j : Nat, j ≤ l.length ∧ i = .int .i64 j ∧ OwIP 43 wr w.heap.size (fun k => ¬ BF b H N.n k) v ((l.take j).filter (liveI N.n lv)) ∧ Below w.heap.size w wr) (fun _ i _ => l.length - (intOf i).toNat)
    case atStart => exact ⟨0, Nat.zero_le _, rfl, OwIP.nil _ _ _ _, B2.out⟩
    case round =>
      obtain ⟨j, hj, rfl, ho, hbr⟩ := hrel
      by_cases hlt : j < l.length
      · have hm := HM.out j hlt
        obtain ⟨g, rfl, hg, _, hc⟩ := Hr.out.2 (by omega)
        obtain ⟨D, cd, hrp, hcap, hrd, hof⟩ := hc j hlt
        have Hty := Lib.hid (filt_yes (f := liveI N.n lv) hlt)
        have Htn := Lib.hid (filt_no (f := liveI N.n lv) hlt)
        have Hfl := Lib.hid (filt_len (liveI N.n lv) l j)
        generalize itN l j = y at hrp hrd hcap Hty Htn hm hof
        have Hrp := Lib.hid (rangeAt_keep (w' := wr) hrp fun k => hbr.cell hg)
        have BX := below1 wr (.cells #[.int .i64 y.d, .int .i64 y.a, .slice D y.b.length cd] 43)
        have c' := fun i => cell_of_row _ _ i _ _ _ (heap_alloc_new wr (.cells #[.int .i64 y.d, .int .i64 y.a, .slice D y.b.length cd] 43))
        have BB := hbr.alloc hbr.size (.cells #[.int .i64 y.d, .int .i64 y.a, .slice D y.b.length cd] 43)
        have hbz := hbr.size
        generalize hW1 : wr.alloc (.cells #[.int .i64 y.d, .int .i64 y.a, .slice D y.b.length cd] 43) = W1 at BX c' BB
        have CL := Lib.hid (isLive_any _ b H N W1 (Hh.out.grow BB).at' lv LA lv.length lc rfl (Hlv.out.keep BB.size fun p hp => BB.cell hp) y.d hm.1 (by omega))
        have B2' := below1 W1 (.cells #[.int .i64 y.d, .int .i64 y.a, .slice D y.b.length cd] 43)
        have ho1 := Lib.hid (ho.below BX)
        have ho2 := Lib.hid ((ho.below BX).below B2')
        have hrd2 : RdB (W1.alloc (.cells #[.int .i64 y.d, .int .i64 y.a, .slice D y.b.length cd] 43)) (W1.alloc (.cells #[.int .i64 y.d, .int .i64 y.a, .slice D y.b.length cd] 43)).heap.size D y.b := ((hrd.below BB (Nat.le_refl _)).more BB.size |>.below B2' (Nat.le_refl _)).more B2'.size
        have HSr := Lib.hid (fun (ob : Option Nat) (hob : ob = u8.ownBlock) => src_oneP (P := fun k => ¬ BF b H N.n k) (ob := ob) (x := y) (c := cd) (heap_alloc_new W1 (.cells #[.int .i64 y.d, .int .i64 y.a, .slice D y.b.length cd] 43)) hrd2 hcap (fun h0 a ha => by
          refine ⟨fun e => ?_, hof h0 a ha⟩
          rw [hob] at e
          obtain ⟨b', off', e2, hb', _⟩ := hrd.2 h0
          rw [ha] at e2
          injection e2 with e2
          subst e2
          have := (ho.lt b' e.symm).1
          omega))
        have BB1 := Lib.hid BB
        have BB2 := Lib.hid (BB.alloc BB.size (.cells #[.int .i64 y.d, .int .i64 y.a, .slice D y.b.length cd] 43))
        have hzz := Lib.hid (BB2.out.size)
        have k0 : (0 : Int) ≤ (j : Int) := by omega
        have k1 : (j : Int) < (l.length : Int) := by omega
        obtain ⟨b0, b1, b2⟩ := And.intro (c' 0) (And.intro (c' 1) (c' 2))
        have Hlt := Lib.hid (ho.lt)
        clear hrp hrd hcap hc ho BX BB B2' hrd2 c' hof hm
        have Hlf : Hid (liveI N.n lv y = liveD N.n lv y.d) := rfl
        rw [Hlf.out] at Hty Htn
        unfold ptr at CL
        cases hx : liveD N.n lv y.d with
        | false =>
          rw [hx] at CL
          have Htn := Lib.hid (Htn.out hx)
          clear Hty hx
          go_wp2_with (first
            | ((with_reducible refine (id ?_ : wpList _ _ _ (⟨some 22, _, _, _, _, _⟩ :: _) _ _)); refine wpList_load_mid rfl 43 _ (by rfl) g (j * 3) (by rfl) [.int .i64 y.d, .int .i64 y.a, .slice D y.b.length cd] _ Hrp.out Tryd.underlying43 rfl (by kernel_rfl) ?_)
            | (go_at_call 34; refine CL.out.mono ?_; rintro e w5 ⟨rfl, rfl⟩))
          go_roundw
          case rel => exact ⟨j + 1, by omega, by go_num, by rw [Htn.out]; exact ho1.out, BB1.out⟩
          case measure => simp [intOf]; omega
        | true =>
          rw [hx] at CL
          have Hty := Lib.hid (Hty.out hx)
          clear Htn hx
          go_wp2_with (first
            | ((with_reducible refine (id ?_ : wpList _ _ _ (⟨some 22, _, _, _, _, _⟩ :: _) _ _)); refine wpList_load_mid rfl 43 _ (by rfl) g (j * 3) (by rfl) [.int .i64 y.d, .int .i64 y.a, .slice D y.b.length cd] _ Hrp.out Tryd.underlying43 rfl (by kernel_rfl) ?_)
            | (go_at_call 34; refine CL.out.mono ?_; rintro e w5 ⟨rfl, rfl⟩)
            | ((with_reducible refine (id ?_ : wpList _ _ _ (⟨some 31, _, _, _, _, _⟩ :: _) _ _)); refine wpList_append_P _ _ (by rfl) _ _ _ (by rfl) w.heap.size 43 Tryd.underlying27 infoI u8 _ (by rfl) ho2.out (some ⟨w5.heap.size, 0, none⟩) 1 1 _ (by rfl) (by rfl) (HSr.out _ rfl) (by show _ + 1 ≤ _; have := Hfl.out; omega) hzz.out ?_
               intro v4 w4 O4 g4 _))
          go_roundw
          case rel =>
            refine ⟨j + 1, by omega, by go_num, ?_, ?_⟩
            · rw [Hty.out]; exact O4
            · exact BB2.out.grown g4 BB2.out.size (fun k e => (Hlt.out k e).1)
          case measure => simp [intOf]; omega
      · obtain rfl : j = l.length := by omega
        rw [List.take_length] at ho
        obtain ⟨A2, c2, rfl, _, hm⟩ := ho.rd (F := BF b H N.n) Hoff.out (fun _ h => h)
        have CS := Lib.hid (CS.out wr hbr _ A2 c2 hm (its64_sub H64.out fun x hx => (List.mem_filter.1 hx).1))
        have Hbr := Lib.hid hbr
        clear ho hm hbr
        go_wp2_with fail
        refine CS.out.mono ?_
        rintro e w5 ⟨rfl, ht⟩
        have Ht := Lib.hid (BC.below Hbr.out ht)
        clear ht
        go_wp2
        go_ret
        exact ⟨by rw [HE.out]; rfl, by rw [HE.out]; exact Ht.out⟩
end Go.Proofs.YtoomdgidpplpfaaDoor
end
section
set_option maxRecDepth 8000
set_option linter.unusedVariables false
set_option linter.unusedSimpArgs false
namespace Go.Proofs.YtoomdgidpplpfaaDoor
open Go.RowKit

theorem put_64 (n : Nat) (lv : List Bool) (rs : List (List UInt8)) (d : Nat) (hd : d ≤ 100) (hr : rs.length ≤ 100) : Its64 (putTo n lv rs d) := fun k hk => by
  obtain ⟨j, i, hj, hi, _, e⟩ := mem_put.1 (itN_mem hk)
  rw [e]
  exact ⟨by show _ ≤ (j : Int) ∧ (j : Int) ≤ _; omega, by show _ ≤ ((2 + i : Nat) : Int) ∧ ((2 + i : Nat) : Int) ≤ _; omega⟩
set_option maxHeartbeats 4000000 in
theorem put_any (W w : World) (b : Nat) (H : BH) (N : Bch) (h : BP W w b H N) (ht : TabOk W) (lv : List Bool) (LA : Option Addr) (ln lc : Nat) (hln : ln = lv.length) (hlv : RdO w w.heap.size LA lv)
    (s : Int) (l : List It) (A : Option Addr) (n c : Nat) (hn : n = l.length) (hnc : n ≤ c) (hrd : RdI w w.heap.size A l) (h64 : Its64 l) (hs : (-9223372036854775808 ≤ s ∧ s ≤ 9223372036854775807))
    (hps : ∀ i, i < N.n → (N.D i).ps.length ≤ 1000000) (hdn : N.done ≤ 1000000) :
    Calls Tryd.prog 12 #[.pointer (some ⟨b, 0, none⟩), .slice LA ln lc, .agg #[.int .i64 s, .slice A n c]] w fun e w' => e = .returned (.int .i64 (putS N lv s l).1) ∧ BC W w w' b H N.n (putS N lv s l).2 := by
  subst hn hln
  have htw : TabOk w := ht.below h.bel ht.pos
  have Hh := Lib.hid h
  have B1 := below1 w (.cells #[.int .i64 s, .slice A l.length c] 29)
  have ht1 := htw.below B1 htw.pos
  have Hb1 := Lib.hid B1
  have hn8 := h.at'.ok.n
  cases hk : recOk s l with
  | false =>
    have CK := Lib.hid (encode_no A l.length c s l _ rfl hnc hs (hrd.later B1) h64 (Lib.hid hk))
    have HE := Lib.hid (show putS N lv s l = (1, N) by unfold putS; rw [hk]; rfl)
    clear hk h64 hps hdn hrd hlv h B1 ht htw ht1
    go_enter Tryd.func12, Tryd.ntmps12
    go_wp2_with fail
    refine CK.out.mono ?_
    rintro e w1 ⟨rfl, hb⟩
    have B2 := Lib.hid (Hb1.out.trans (hb.mono Hb1.out.size))
    clear hb
    go_wp2
    go_ret
    exact ⟨by rw [HE.out]; rfl, by rw [HE.out]; exact BC.below B2.out (Hh.out.grow B2.out).self⟩
  | true =>
    have CK := Lib.hid (encode_yes A l.length c s l _ rfl hnc hs (hrd.later B1) h64 (Lib.hid hk) ht1)
    have HE := Lib.hid (show putS N lv s l = settleS N (putTo N.n lv (recB s l) N.n) by unfold putS; rw [hk]; rfl)
    have h4 := recB_len (s := s) ((recOk_iff s l).1 hk).1.2.2
    generalize recB s l = rs at CK HE h4
    have H4 := Lib.hid h4
    have Hlv := Lib.hid hlv
    have Hoff := Lib.hid (show ∀ k, w.heap.size ≤ k → ¬ BF b H N.n k from fun k hk e => by have := (h.at'.flt e).2; omega)
    have CS := Lib.hid (fun V (hV : Below w.heap.size w V) (m : List It) (A2 : Option Addr) (c2 : Nat) (hm : RdIF V (BF b H N.n) A2 m) (h6 : Its64 m) => settle_any W V b H N (h.grow hV) m A2 m.length c2 rfl hm h6 hps hdn)
    have CN := Lib.hid (fun V (hV : Below w.heap.size w V) => bch_len_any _ b H N V (h.grow hV).at')
    have CL := Lib.hid (fun V (hV : Below w.heap.size w V) (d : Nat) (hd : d < N.n) => isLive_any _ b H N V (h.grow hV).at' lv LA lv.length lc rfl (hlv.keep hV.size fun p hp => hV.cell hp) (d : Int) (by omega) (by omega))
    clear hk h64 hps hdn hrd hlv h B1 ht htw ht1 h4
    unfold ptr at CN CL
    go_enter Tryd.func12, Tryd.ntmps12
    go_wp2_with fail
    refine CK.out.mono ?_
    rintro e w2 ⟨g, bk, rfl, hp, hb⟩
    have B2 := Lib.hid (Hb1.out.trans (hb.mono Hb1.out.size))
    have HP := Lib.hid (fun V (hV : Below w2.heap.size w2 V) => hp.below hV)
    have HPb := Lib.hid (fun k hk => hp.blt k hk)
    have hz1 : w.heap.size < (w.alloc (.cells #[.int .i64 s, .slice A l.length c] 29)).heap.size := by simp
    have Hz1 := Lib.hid hz1
    clear hb CK hp hz1
    go_wp2_with (go_at_call 33; refine (CN.out _ B2.out).mono ?_; rintro e w3 ⟨rfl, h3⟩; obtain rfl : w2 = w3 := h3.symm)
    go_loopw [9, 23] (fun v i wr => ∃ d : Nat, d ≤ N.n ∧ i = .int .i64 d ∧ OwIP 43 wr w2.heap.size (fun k => ¬ BF b H N.n k) v (putTo N.n lv rs d) ∧ Below w2.heap.size w2 wr) (fun _ i _ => N.n - (intOf i).toNat)
    case atStart => exact ⟨0, Nat.zero_le _, rfl, OwIP.nil _ _ _ _, Below.refl _ _⟩
    case round =>
      obtain ⟨d, hd, rfl, ho, hbr⟩ := hrel
      have Ho := Lib.hid ho
      have Hbr := Lib.hid hbr
      have Hbw := Lib.hid (B2.out.trans (hbr.mono B2.out.size))
      clear ho hbr
      by_cases hlt : d < N.n
      · have k0 : (0 : Int) ≤ (d : Int) := by omega
        have k1 : (d : Int) < (N.n : Int) := by omega
        have CLd := Lib.hid (CL.out wr Hbw.out d hlt)
        cases hx : liveD N.n lv (d : Int) with
        | false =>
          rw [hx] at CLd
          have Hn := Lib.hid (putTo_no (rs := rs) hx)
          clear hx
          go_wp2_with (go_at_call 34; refine CLd.out.mono ?_; rintro e w5 ⟨rfl, rfl⟩)
          go_roundw
          case rel => exact ⟨d + 1, by omega, by go_num, by rw [Hn.out]; exact Ho.out, Hbr.out⟩
          case measure => simp [intOf]; omega
        | true =>
          rw [hx] at CLd
          have Hy := Lib.hid (putTo_yes (rs := rs) hx)
          have Hpl := Lib.hid (putTo_len N.n lv rs d)
          have hpl8 : (putTo N.n lv rs d).length ≤ 100 := by
            have h1 := Hpl.out
            have h2 : d * rs.length ≤ 8 * rs.length := Nat.mul_le_mul_right _ (by omega)
            rw [H4.out] at h1 h2
            omega
          clear hx Hpl
          go_wp2_with (go_at_call 34; refine CLd.out.mono ?_; rintro e w5 ⟨rfl, rfl⟩)
          go_loopw [9, 33] (fun v i wi => ∃ k : Nat, k ≤ 4 ∧ i = .int .i64 k ∧ OwIP 43 wi w2.heap.size (fun k => ¬ BF b H N.n k) v (putTo N.n lv rs d ++ secIts d rs k) ∧ Below w2.heap.size w2 wi) (fun _ i _ => 4 - (intOf i).toNat)
          case atStart => exact ⟨0, Nat.zero_le _, rfl, by rw [show secIts d rs 0 = [] from rfl, List.append_nil]; exact Ho.out, Hbr.out⟩
          case round =>
            rename World => wi
            obtain ⟨k, hk4, rfl, ho, hbi⟩ := hrel
            by_cases hlk : k < 4
            · have i0 : (0 : Int) ≤ (k : Int) := by omega
              have i1 : (k : Int) < 4 := by omega
              have q2 : IntKind.i64.wrap (2 + (k : Int)) = ((2 + k : Nat) : Int) := by rw [IntKind.wrap_i64]; omega
              have hP := HP.out wi hbi
              have hkr : k < rs.length := by rw [H4.out]; exact hlk
              have hcl := hP.cell k hkr
              have hl32 := hP.len k hkr
              have hbb := HPb.out k hkr
              have hrd := hP.rd k hkr
              have B2' := below1 wi (.cells #[.int .i64 (d : Int), .int .i64 ((2 + k : Nat) : Int), .slice (some ⟨bk k, 0, none⟩) 32 32] 43)
              have ho2 := Lib.hid (ho.below B2')
              have hb2' : bk k < w2.heap.size := hbb.2
              have HSr := Lib.hid (fun (ob : Option Nat) (hob : ob = u9.ownBlock) => src_oneP (w := wi.alloc (.cells #[.int .i64 (d : Int), .int .i64 ((2 + k : Nat) : Int), .slice (some ⟨bk k, 0, none⟩) 32 32] 43)) (P := fun k => ¬ BF b H N.n k) (g := wi.heap.size) (ob := ob) (x := secIt d rs k) (D := some ⟨bk k, 0, none⟩) (c := 32) (by
                show _ = some (Obj.cells (List.toArray [.int .i64 (d : Int), .int .i64 ((2 + k : Nat) : Int), .slice (some ⟨bk k, 0, none⟩) (rs.getD k []).length 32]) _ _)
                rw [hl32]; exact heap_alloc_new wi _) ((hrd.below B2' (Nat.le_refl _)).more B2'.size) (by show (rs.getD k []).length ≤ 32; rw [hl32]; exact Nat.le_refl _) (fun h0 a ha => by
                injection ha with ha
                subst ha
                refine ⟨fun e => ?_, Hoff.out _ (by show w.heap.size ≤ bk k; have := Hz1.out; omega)⟩
                rw [hob] at e
                have h3 : w2.heap.size ≤ bk k := (ho.lt (bk k) e.symm).1
                omega))
              have BB2 := Lib.hid (hbi.alloc hbi.size (.cells #[.int .i64 (d : Int), .int .i64 ((2 + k : Nat) : Int), .slice (some ⟨bk k, 0, none⟩) 32 32] 43))
              have hzz := Lib.hid BB2.out.size
              have Hss := Lib.hid (show putTo N.n lv rs d ++ secIts d rs (k + 1) = putTo N.n lv rs d ++ secIts d rs k ++ [secIt d rs k] by rw [secIts_succ, List.append_assoc])
              have Hsl := Lib.hid (show (putTo N.n lv rs d ++ secIts d rs k).length + 1 ≤ 1000000 by rw [List.length_append, secIts_len]; omega)
              have Hlt := Lib.hid ho.lt
              clear ho hP hl32 hbb hrd B2' hbi hkr hb2'
              go_wp2_with (
                (with_reducible refine (id ?_ : wpList _ _ _ (⟨some 45, _, _, _, _, _⟩ :: _) _ _)); refine wpList_append_P _ _ (by rfl) _ _ _ (by rfl) w2.heap.size 43 Tryd.underlying27 infoI u9 _ (by rfl) ho2.out (some ⟨wi.heap.size, 0, none⟩) 1 1 _ (by rfl) (by rfl) (HSr.out _ rfl) Hsl.out hzz.out ?_
                intro v4 w4 O4 g4 _)
              go_roundw
              case rel =>
                refine ⟨k + 1, by omega, by go_num, ?_, ?_⟩
                · rw [Hss.out]; exact O4
                · exact BB2.out.grown g4 BB2.out.size (fun k e => (Hlt.out k e).1)
              case measure => simp [intOf]; omega
            · obtain rfl : k = 4 := by omega
              have Ho2 := Lib.hid (show OwIP 43 wi w2.heap.size (fun k => ¬ BF b H N.n k) u9 (putTo N.n lv rs (d + 1)) by rw [Hy.out, H4.out]; exact ho)
              have Hbi := Lib.hid hbi
              clear ho hbi
              go_wp2
              go_roundw
              case rel => exact ⟨d + 1, by omega, by go_num, Ho2.out, Hbi.out⟩
              case measure => simp [intOf]; omega
      · obtain rfl : d = N.n := by omega
        obtain ⟨A2, c2, rfl, _, hm⟩ := Ho.out.rd (F := BF b H N.n) (fun k hk => Hoff.out k (by have := B2.out.size; omega)) (fun _ h => h)
        have CS := Lib.hid (CS.out wr Hbw.out _ A2 c2 hm (put_64 _ _ _ _ (by omega) (by rw [H4.out]; omega)))
        clear hm Ho
        go_wp2_with fail
        refine CS.out.mono ?_
        rintro e w5 ⟨rfl, ht⟩
        have Ht := Lib.hid (BC.below Hbw.out ht)
        clear ht
        go_wp2
        go_ret
        exact ⟨by rw [HE.out]; rfl, by rw [HE.out]; exact Ht.out⟩
end Go.Proofs.YtoomdgidpplpfaaDoor
end
