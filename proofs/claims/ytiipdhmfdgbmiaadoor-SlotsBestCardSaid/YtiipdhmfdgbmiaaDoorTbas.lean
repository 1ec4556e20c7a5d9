/- Texts put together: SlotMath. -/
import Derived.Test.YtiipdhmfdgbmiaaDoorTbaq
import Derived.Test.YtiipdhmfdgbmiaaDoorTbaf
section
set_option linter.unusedVariables false
set_option linter.unusedSimpArgs false
namespace Go.Proofs.YtiipdhmfdgbmiaaDoor

/-- The Super in a slot, if there is one. -/
def slotL (D : Dsk) (k : Nat) : List Su := if D.f = true then [] else if decO (secAt D.now k) = true then [decS (secAt D.now k)] else []
def dskSu (D : Dsk) : List Su := slotL D 0 ++ slotL D 1
def pickS (b x : Su) : Su := if b.g < x.g then x else b
def bestTo (N : Bch) : Nat → Su
  | 0 => suZ
  | i + 1 => (dskSu (N.D i)).foldl pickS (bestTo N i)
def bestE (N : Bch) : Int := if N.down = true then 6 else if (bestTo N N.n).g = 0 then 3 else 0
def bestS (N : Bch) : Su := if bestE N = 0 then bestTo N N.n else suZ
def hasB (N : Bch) (b : Su) (i : Nat) : Bool := (dskSu (N.D i)).any fun x => decide (b.g - 1 ≤ x.g)
def hasL (N : Bch) : List Bool := if bestE N = 0 then (List.range N.n).map (hasB N (bestTo N N.n)) else []
theorem hasL_none {N : Bch} (h : bestE N ≠ 0) : hasL N = [] := if_neg h
theorem hasL_some {N : Bch} (h : bestE N = 0) : hasL N = (List.range N.n).map (hasB N (bestTo N N.n)) := if_pos h
theorem bestS_none {N : Bch} (h : bestE N ≠ 0) : bestS N = suZ := if_neg h
theorem bestS_some {N : Bch} (h : bestE N = 0) : bestS N = bestTo N N.n := if_pos h
def slotI (g : Int) : Nat := if g % 2 = 0 then 0 else 1
theorem slotI_lt (g : Int) : slotI g < 2 := by unfold slotI; split <;> omega
def wroteS (N : Bch) (lv : List Bool) (s : Su) : Int × Bch := onTo (wrF (slotI s.g) (suB s)) lv N (min N.n lv.length)
def storeS (N : Bch) (lv : List Bool) (s : Su) : Int × Bch :=
  if suOk s = false then (1, N) else if (wroteS N lv s).1 ≠ 0 then wroteS N lv s else onTo flF lv (wroteS N lv s).2 (min N.n lv.length)
theorem decS_in (bs : List UInt8) : decO bs = true → SuIn (decS bs) := fun h => by rw [decS_yes h]; exact suIn ((decO_iff bs).1 h).2.1
theorem dskSu_in {D : Dsk} {x : Su} (h : x ∈ dskSu D) : SuIn x := by
  have one : ∀ k, x ∈ slotL D k → SuIn x := fun k hk => by
    unfold slotL at hk
    repeat' split at hk
    · cases hk
    · rw [List.mem_singleton.1 hk]; exact decS_in _ (by assumption)
    · cases hk
  rcases List.mem_append.1 h with h | h
  · exact one 0 h
  · exact one 1 h
theorem dskSu_len (D : Dsk) : (dskSu D).length ≤ 2 := by
  have one : ∀ k, (slotL D k).length ≤ 1 := fun k => by unfold slotL; (repeat' split) <;> simp
  have := one 0; have := one 1
  unfold dskSu; rw [List.length_append]; omega
theorem pickS_in {b x : Su} (hb : b = suZ ∨ SuIn b) (hx : SuIn x) : pickS b x = suZ ∨ SuIn (pickS b x) := by
  unfold pickS; split
  · exact .inr hx
  · exact hb
theorem fold_in : ∀ (l : List Su) (b : Su), (b = suZ ∨ SuIn b) → (∀ x ∈ l, SuIn x) → l.foldl pickS b = suZ ∨ SuIn (l.foldl pickS b)
  | [], _, hb, _ => hb
  | x :: l, b, hb, hl => fold_in l _ (pickS_in hb (hl x (List.mem_cons_self ..))) fun y hy => hl y (List.mem_cons_of_mem _ hy)
theorem bestTo_in (N : Bch) : ∀ i, bestTo N i = suZ ∨ SuIn (bestTo N i)
  | 0 => .inl rfl
  | i + 1 => fold_in _ _ (bestTo_in N i) fun _ h => dskSu_in h
theorem su64_in {s : Su} (h : s = suZ ∨ SuIn s) : (0 ≤ s.g ∧ s.g ≤ 2147483647) ∧ Su64 s := by
  rcases h with rfl | h
  · exact ⟨by show (0 : Int) ≤ 0 ∧ (0 : Int) ≤ _; omega, by constructor <;> (show _ ∧ _; decide)⟩
  · obtain ⟨a1, a2, a3, a4, a5, a6, a7, a8, a9, a10⟩ := h
    exact ⟨by omega, ⟨by omega, by omega, by omega, by omega, by omega, by omega, by omega, by omega, by omega, by omega⟩⟩
end Go.Proofs.YtiipdhmfdgbmiaaDoor
end
