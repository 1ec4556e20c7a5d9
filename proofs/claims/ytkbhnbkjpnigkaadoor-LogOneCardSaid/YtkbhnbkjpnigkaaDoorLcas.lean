/- Texts put together: SlotMath, LogMath. -/
import Derived.Test.YtkbhnbkjpnigkaaDoorLcaq
import Derived.Test.YtkbhnbkjpnigkaaDoorLcac
section
set_option linter.unusedVariables false
set_option linter.unusedSimpArgs false
namespace Go.Proofs.YtkbhnbkjpnigkaaDoor

/-- The Super in a slot, if there is one. -/
def slotL (D : Dsk) (k : Nat) : List Su := if D.f = true then [] else if decO (secAt D.now k) = true then [decS (secAt D.now k)] else []
def dskSu (D : Dsk) : List Su := slotL D 0 ++ slotL D 1
def pickS (b x : Su) : Su := if b.g < x.g then x else b
def bestTo (N : Bch) : Nat → Su
  | 0 => suZ
  | i + 1 => (dskSu (N.D i)).foldl pickS (bestTo N i)
def bestE (N : Bch) : Int := if N.down = true then 6 else if (bestTo N N.n).g = 0 then 3 else 0
def bestS (N : Bch) : Su := if bestE N = 0 then bestTo N N.n else suZ
def hasB (N : Bch) (b : Su) (i : Nat) : Bool := (dskSu (N.D i)).any fun x => decide (b.g - 1 ≤ x.g)
def hasL (N : Bch) : List Bool := if bestE N = 0 then (List.range N.n).map (hasB N (bestTo N N.n)) else []
theorem hasL_none {N : Bch} (h : bestE N ≠ 0) : hasL N = [] := if_neg h
theorem hasL_some {N : Bch} (h : bestE N = 0) : hasL N = (List.range N.n).map (hasB N (bestTo N N.n)) := if_pos h
theorem bestS_none {N : Bch} (h : bestE N ≠ 0) : bestS N = suZ := if_neg h
theorem bestS_some {N : Bch} (h : bestE N = 0) : bestS N = bestTo N N.n := if_pos h
def slotI (g : Int) : Nat := if g % 2 = 0 then 0 else 1
theorem slotI_lt (g : Int) : slotI g < 2 := by unfold slotI; split <;> omega
def wroteS (N : Bch) (lv : List Bool) (s : Su) : Int × Bch := onTo (wrF (slotI s.g) (suB s)) lv N (min N.n lv.length)
def storeS (N : Bch) (lv : List Bool) (s : Su) : Int × Bch :=
  if suOk s = false then (1, N) else if (wroteS N lv s).1 ≠ 0 then wroteS N lv s else onTo flF lv (wroteS N lv s).2 (min N.n lv.length)
theorem decS_in (bs : List UInt8) : decO bs = true → SuIn (decS bs) := fun h => by rw [decS_yes h]; exact suIn ((decO_iff bs).1 h).2.1
theorem dskSu_in {D : Dsk} {x : Su} (h : x ∈ dskSu D) : SuIn x := by
  have one : ∀ k, x ∈ slotL D k → SuIn x := fun k hk => by
    unfold slotL at hk
    repeat' split at hk
    · cases hk
    · rw [List.mem_singleton.1 hk]; exact decS_in _ (by assumption)
    · cases hk
  rcases List.mem_append.1 h with h | h
  · exact one 0 h
  · exact one 1 h
theorem dskSu_len (D : Dsk) : (dskSu D).length ≤ 2 := by
  have one : ∀ k, (slotL D k).length ≤ 1 := fun k => by unfold slotL; (repeat' split) <;> simp
  have := one 0; have := one 1
  unfold dskSu; rw [List.length_append]; omega
theorem pickS_in {b x : Su} (hb : b = suZ ∨ SuIn b) (hx : SuIn x) : pickS b x = suZ ∨ SuIn (pickS b x) := by
  unfold pickS; split
  · exact .inr hx
  · exact hb
theorem fold_in : ∀ (l : List Su) (b : Su), (b = suZ ∨ SuIn b) → (∀ x ∈ l, SuIn x) → l.foldl pickS b = suZ ∨ SuIn (l.foldl pickS b)
  | [], _, hb, _ => hb
  | x :: l, b, hb, hl => fold_in l _ (pickS_in hb (hl x (List.mem_cons_self ..))) fun y hy => hl y (List.mem_cons_of_mem _ hy)
theorem bestTo_in (N : Bch) : ∀ i, bestTo N i = suZ ∨ SuIn (bestTo N i)
  | 0 => .inl rfl
  | i + 1 => fold_in _ _ (bestTo_in N i) fun _ h => dskSu_in h
theorem su64_in {s : Su} (h : s = suZ ∨ SuIn s) : (0 ≤ s.g ∧ s.g ≤ 2147483647) ∧ Su64 s := by
  rcases h with rfl | h
  · exact ⟨by show (0 : Int) ≤ 0 ∧ (0 : Int) ≤ _; omega, by constructor <;> (show _ ∧ _; decide)⟩
  · obtain ⟨a1, a2, a3, a4, a5, a6, a7, a8, a9, a10⟩ := h
    exact ⟨by omega, ⟨by omega, by omega, by omega, by omega, by omega, by omega, by omega, by omega, by omega, by omega⟩⟩
end Go.Proofs.YtkbhnbkjpnigkaaDoor
end
section
set_option linter.unusedVariables false
set_option linter.unusedSimpArgs false
namespace Go.Proofs.YtkbhnbkjpnigkaaDoor

def itWr (N : Bch) (x : It) : Int × Bch := (N.writeE x.d x.a x.b.length, N.write x.d x.a x.b)
def itFl (N : Bch) (x : It) : Int × Bch := (N.flushE x.d, N.flush x.d)
/-- What is done Item by Item, up to the first error. -/
def runTo (f : Bch → It → Int × Bch) (l : List It) (N : Bch) : Nat → Int × Bch
  | 0 => (0, N)
  | i + 1 => if (runTo f l N i).1 ≠ 0 then runTo f l N i else
      if (f (runTo f l N i).2 (itN l i)).1 = 5 then (0, (f (runTo f l N i).2 (itN l i)).2) else f (runTo f l N i).2 (itN l i)
def wroteI (N : Bch) (l : List It) : Int × Bch := runTo itWr l N l.length
def settleS (N : Bch) (l : List It) : Int × Bch := if (wroteI N l).1 ≠ 0 then wroteI N l else runTo itFl l (wroteI N l).2 l.length
section
variable {f : Bch → It → Int × Bch} {l : List It} {N : Bch}
theorem runTo_pass {i : Nat} (h : (runTo f l N i).1 = 0) (hq : (f (runTo f l N i).2 (itN l i)).1 = 5) : runTo f l N (i + 1) = (0, (f (runTo f l N i).2 (itN l i)).2) := by
  rw [runTo, if_neg (by simp [h]), if_pos hq]
theorem runTo_goes {i : Nat} (h : (runTo f l N i).1 = 0) (hq : (f (runTo f l N i).2 (itN l i)).1 ≠ 5) : runTo f l N (i + 1) = f (runTo f l N i).2 (itN l i) := by
  rw [runTo, if_neg (by simp [h]), if_neg hq]
theorem runTo_stop {i : Nat} (h : (runTo f l N i).1 ≠ 0) : ∀ m, i ≤ m → runTo f l N m = runTo f l N i
  | 0, hm => by obtain rfl : i = 0 := by omega
                rfl
  | m + 1, hm => by
    by_cases e : i = m + 1
    · rw [e]
    · have ih := runTo_stop h m (by omega)
      rw [runTo, if_pos (by rw [ih]; exact h), ih]
theorem runTo_any (P : Bch → Prop) (h0 : P N) (hs : ∀ M x, P M → P (f M x).2) : ∀ i, P (runTo f l N i).2
  | 0 => h0
  | i + 1 => by
    have ih := runTo_any P h0 hs i
    rw [runTo]
    repeat' split
    · exact ih
    · exact hs _ _ ih
    · exact hs _ _ ih
end
section
variable {l : List It} {N : Bch}
theorem ran_n (i : Nat) : (runTo itWr l N i).2.n = N.n := runTo_any (fun M => M.n = N.n) rfl (fun M x h => (Bch.write_n M _ _ _).trans h) i
theorem ranF_n (i : Nat) : (runTo itFl l N i).2.n = N.n := runTo_any (fun M => M.n = N.n) rfl (fun M x h => (flush_n M _).trans h) i
theorem settle_n : (settleS N l).2.n = N.n := by
  unfold settleS wroteI; split
  · exact ran_n _
  · exact (ranF_n _).trans (ran_n _)
theorem ran_done : ∀ i, (runTo itWr l N i).2.done ≤ N.done + i
  | 0 => Nat.le_refl _
  | i + 1 => by
    have ih := ran_done i
    have h := write_done (runTo itWr l N i).2 (itN l i).d (itN l i).a (itN l i).b
    rw [runTo]
    repeat' split
    · omega
    · exact Nat.le_trans h (by omega)
    · exact Nat.le_trans h (by omega)
theorem ran_len (j : Nat) : ∀ i, ((runTo itWr l N i).2.D j).ps.length ≤ (N.D j).ps.length + i
  | 0 => Nat.le_refl _
  | i + 1 => by
    have ih := ran_len j i
    have h := write_len (runTo itWr l N i).2 (itN l i).d (itN l i).a (itN l i).b j
    rw [runTo]
    repeat' split
    · omega
    · exact Nat.le_trans h (by omega)
    · exact Nat.le_trans h (by omega)
end
/-! What is put. -/
def liveD (n : Nat) (lv : List Bool) (d : Int) : Bool := decide (d < (n : Int)) && lv.getD d.toNat false
def secIt (d : Nat) (rs : List (List UInt8)) (k : Nat) : It := ⟨(d : Int), ((2 + k : Nat) : Int), rs.getD k []⟩
def secIts (d : Nat) (rs : List (List UInt8)) (i : Nat) : List It := (List.range i).map (secIt d rs)
theorem secIts_succ (d : Nat) (rs : List (List UInt8)) (i : Nat) : secIts d rs (i + 1) = secIts d rs i ++ [secIt d rs i] := by simp [secIts, List.range_succ]
theorem secIts_len (d : Nat) (rs : List (List UInt8)) (i : Nat) : (secIts d rs i).length = i := by simp [secIts]
def putTo (n : Nat) (lv : List Bool) (rs : List (List UInt8)) : Nat → List It
  | 0 => []
  | d + 1 => putTo n lv rs d ++ if liveD n lv (d : Int) = true then secIts d rs rs.length else []
theorem putTo_no {n : Nat} {lv : List Bool} {rs : List (List UInt8)} {d : Nat} (h : liveD n lv (d : Int) = false) : putTo n lv rs (d + 1) = putTo n lv rs d := by
  rw [putTo, if_neg (by simp [h]), List.append_nil]
theorem putTo_yes {n : Nat} {lv : List Bool} {rs : List (List UInt8)} {d : Nat} (h : liveD n lv (d : Int) = true) : putTo n lv rs (d + 1) = putTo n lv rs d ++ secIts d rs rs.length := by
  rw [putTo, if_pos h]
theorem putTo_len (n : Nat) (lv : List Bool) (rs : List (List UInt8)) : ∀ d, (putTo n lv rs d).length ≤ d * rs.length
  | 0 => by simp [putTo]
  | d + 1 => by
    have ih := putTo_len n lv rs d
    have e : (d + 1) * rs.length = d * rs.length + rs.length := Nat.succ_mul _ _
    rw [putTo, List.length_append, e]
    split
    · rw [secIts_len]; omega
    · simp; omega
theorem mem_put {n : Nat} {lv : List Bool} {rs : List (List UInt8)} {x : It} : ∀ {d : Nat}, x ∈ putTo n lv rs d ↔ ∃ j k, j < d ∧ k < rs.length ∧ liveD n lv (j : Int) = true ∧ x = secIt j rs k
  | 0 => by simp [putTo]
  | d + 1 => by
    rw [putTo, List.mem_append, mem_put (d := d)]
    constructor
    · rintro (⟨j, k, hj, hk, hl, e⟩ | h)
      · exact ⟨j, k, by omega, hk, hl, e⟩
      · by_cases hl : liveD n lv (d : Int) = true
        · rw [if_pos hl] at h
          obtain ⟨k, hk, e⟩ := List.mem_map.1 h
          exact ⟨d, k, by omega, List.mem_range.1 hk, hl, e.symm⟩
        · rw [if_neg hl] at h; cases h
    · rintro ⟨j, k, hj, hk, hl, e⟩
      by_cases h : j = d
      · subst h; exact .inr (by rw [if_pos hl]; exact List.mem_map.2 ⟨k, List.mem_range.2 hk, e.symm⟩)
      · exact .inl ⟨j, k, by omega, hk, hl, e⟩
def putS (N : Bch) (lv : List Bool) (s : Int) (l : List It) : Int × Bch := if recOk s l = true then settleS N (putTo N.n lv (recB s l) N.n) else (1, N)
/-! What is applied. -/
def liveI (n : Nat) (lv : List Bool) (x : It) : Bool := liveD n lv x.d
def appS (N : Bch) (lv : List Bool) (s : Int) (l : List It) : Int × Bch := if recOk s l = true then settleS N (l.filter (liveI N.n lv)) else (1, N)
theorem put_n (N : Bch) (lv : List Bool) (s : Int) (l : List It) : (putS N lv s l).2.n = N.n := by
  unfold putS; split
  · exact settle_n
  · rfl
theorem app_n (N : Bch) (lv : List Bool) (s : Int) (l : List It) : (appS N lv s l).2.n = N.n := by
  unfold appS; split
  · exact settle_n
  · rfl
/-! What is found. -/
def logR (D : Dsk) : List (List UInt8) := (List.range 4).map fun k => secAt D.now (2 + k)
def goneD (N : Bch) (d : Nat) : Bool := N.down || (N.D d).f
def onB (N : Bch) (d : Nat) : Bool := if goneD N d = true then false else rcO (logR (N.D d))
def onS (N : Bch) (d : Nat) : Int := if goneD N d = true then 0 else rcS (logR (N.D d))
def onL (N : Bch) (d : Nat) : List It := if goneD N d = true then [] else rcL (logR (N.D d))
/-- The Record of the greatest number, of the first disks that are live. -/
def getTo (N : Bch) (lv : List Bool) : Nat → Int × List It
  | 0 => (0, [])
  | d + 1 => if liveD N.n lv (d : Int) = true ∧ onB N d = true ∧ (getTo N lv d).1 < onS N d then (onS N d, onL N d) else getTo N lv d
def getS (N : Bch) (lv : List Bool) : Int × List It := getTo N lv N.n
theorem rcS_le (rs : List (List UInt8)) : 0 ≤ rcS rs ∧ rcS rs ≤ 2147483647 := by
  unfold rcS
  split
  · rename_i h
    have := ((recOk_iff _ _).1 ((rcO_iff rs).1 h).2.1).1
    omega
  · omega
theorem onS_le (N : Bch) (d : Nat) : 0 ≤ onS N d ∧ onS N d ≤ 2147483647 := by
  unfold onS; split
  · omega
  · exact rcS_le _
theorem getTo_le (N : Bch) (lv : List Bool) : ∀ d, 0 ≤ (getTo N lv d).1 ∧ (getTo N lv d).1 ≤ 2147483647
  | 0 => ⟨Int.le_refl _, by show (0 : Int) ≤ _; omega⟩
  | d + 1 => by
    rw [getTo]; split
    · exact onS_le N d
    · exact getTo_le N lv d
theorem rcL_len (rs : List (List UInt8)) : (rcL rs).length ≤ 3 := by
  unfold rcL
  split
  · unfold itsO; rw [itsN_len]; omega
  · simp
theorem onL_len (N : Bch) (d : Nat) : (onL N d).length ≤ 3 := by
  unfold onL; split
  · simp
  · exact rcL_len _
end Go.Proofs.YtkbhnbkjpnigkaaDoor
end
