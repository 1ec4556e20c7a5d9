/- Texts put together: RowKit, StpMath, RowLost, SlotMath, LogMath. -/
import Derived.Test.YtenkkdnepmoihaaGreatDoorUdau
import Derived.Test.YtenkkdnepmoihaaGreatDoorUdak
import Derived.Test.YtenkkdnepmoihaaGreatDoorUdab
import Derived.Test.YtenkkdnepmoihaaGreatDoorUdaa
import Derived.Carry
import Derived.Test.YtenkkdnepmoihaaGreatDoorUdaj
import Derived.Test.YtenkkdnepmoihaaGreatDoorUdat
import Derived.Test.YtenkkdnepmoihaaGreatDoorUdam
import Derived.Test.YtenkkdnepmoihaaGreatDoorUdaf
section
set_option maxRecDepth 8000
set_option linter.unusedVariables false
set_option linter.unusedSimpArgs false
namespace Go.Proofs.YtenkkdnepmoihaaGreatDoor
open Go.RowKit

/-- Sectors that are made, as they are read. -/
theorem sectors_rd {A : Option Addr} {zs : List Int} {m cp n : Nat} {w : World} (hm : m = zs.length) (hr : RdZ w w.heap.size A zs) (hn : n ≤ 8) :
    Calls Tryz.prog 40 #[.slice A m cp, .int .i64 (n : Int)] w fun e w' => ∃ A' c', e = .returned (.slice A' n c') ∧ OwV w.heap.size w' (.slice A' n c') (sectorsB zs n) ∧ RdR w' w'.heap.size A' (sectorsB zs n) ∧ Below w.heap.size w w' :=
  (sectors_any A zs m cp n w hm hr hn).mono fun _ _ ⟨v, he, ho, hb⟩ => by
    obtain ⟨A', c', rfl, _, hrd⟩ := ho.rd (by rw [sectorsB_len]; omega)
    rw [sectorsB_len] at he ho
    exact ⟨A', c', he, ho, hrd, hb⟩
/-- A good geometry, a row of it: what stands where. -/
structure Gr (n : Int) (l c r : Int) (D F W : Nat) : Prop where
  ok : plOk l (D : Int) c r = true
  R : Ro l (D : Int) c r
  eD : roD (D : Int) = D
  eF : roF l (D : Int) c r = F
  eW : roW l (D : Int) = W
  hF : F < D
  hW : W < D
  w1 : 1 ≤ W
  w7 : W ≤ 7
  d8 : D ≤ 8
  d3 : 3 ≤ D
  lv : (l = 5 ∧ D = W + 1) ∨ (l = 6 ∧ D = W + 2)
  wd : gWid l (D : Int) c = (W : Int)
  l64 : -9223372036854775808 ≤ l ∧ l ≤ 9223372036854775807
  d64 : -9223372036854775808 ≤ (D : Int) ∧ (D : Int) ≤ 9223372036854775807
  c64 : -9223372036854775808 ≤ c ∧ c ≤ 9223372036854775807
  r64 : -9223372036854775808 ≤ r ∧ r ≤ 9223372036854775807
  r0 : 0 ≤ r ∧ r < 16
theorem gr_of (n : Int) {r : Int} (h0 : 0 ≤ r) (h1 : r < 16) : ∃ D F W : Nat, goD n = (D : Int) ∧ Gr n (goL n) (goC n) r D F W := by
  have hg := go_ok n
  have hb := gOk_bd hg
  have hok := plOk_mk hg h0 h1
  have R := ro_of hok
  obtain ⟨D, hD⟩ : ∃ D : Nat, goD n = (D : Int) := ⟨_, R.dd.symm⟩
  rw [hD] at hg hb hok R
  exact ⟨D, roF (goL n) D (goC n) r, roW (goL n) D, hD, hok, R, rfl, rfl, rfl, R.hF, R.hW, R.w1, R.w7, R.d8, R.d3, R.lv, R.wd, by omega, by omega, by omega, by omega, ⟨h0, h1⟩⟩
section
variable {n l c r : Int} {D F W : Nat}
theorem Gr.fok (h : Gr n l c r D F W) {rs : List (List UInt8)} (hl : rs.length = W) (ha : ∀ x ∈ rs, x.length = 32) : fillOk l (D : Int) c r rs = true := fillOk_mk h.ok (by rw [h.eW]; exact hl) ha
theorem Gr.fills (h : Gr n l c r D F W) {rs : List (List UInt8)} (hl : rs.length = W) (ha : ∀ x ∈ rs, x.length = 32) {i : Nat} (hi : i < D) : ((fillL D F rs).getD i []).length = 32 := by
  have := fill_32 (h.fok hl ha) (i := i) (by rw [h.eD]; exact hi)
  rwa [h.eD, h.eF] at this
end
end Go.Proofs.YtenkkdnepmoihaaGreatDoor
end
section
set_option linter.unusedVariables false
set_option linter.unusedSimpArgs false
namespace Go.Proofs.YtenkkdnepmoihaaGreatDoor

/-- A disk of the bench that is live; and has not failed. -/
def livD (N : Bch) (lv : List Bool) (i : Nat) : Bool := decide (i < N.n) && lv.getD i false
def srvD (N : Bch) (lv : List Bool) (i : Nat) : Bool := livD N lv i && !(N.D i).f
theorem srvD_yes {N : Bch} {lv : List Bool} {i : Nat} (h : srvD N lv i = true) : i < N.n ∧ lv.getD i false = true ∧ (N.D i).f = false := by
  unfold srvD livD at h
  simp only [Bool.and_eq_true, decide_eq_true_eq, Bool.not_eq_true'] at h
  exact ⟨h.1.1, h.1.2, h.2⟩
theorem srvD_mk {N : Bch} {lv : List Bool} {i : Nat} (h1 : i < N.n) (h2 : lv.getD i false = true) (h3 : (N.D i).f = false) : srvD N lv i = true := by
  unfold srvD livD; rw [h2, h3, decide_eq_true h1]; rfl
theorem srvD_no {N : Bch} {lv : List Bool} {i : Nat} (h : ¬ (i < N.n ∧ lv.getD i false = true ∧ (N.D i).f = false)) : srvD N lv i = false := by
  cases e : srvD N lv i with
  | false => rfl
  | true => exact absurd (srvD_yes e) h
theorem srvD_congr {N M : Bch} {lv : List Bool} {i : Nat} (hn : M.n = N.n) (hf : (M.D i).f = (N.D i).f) : srvD M lv i = srvD N lv i := by unfold srvD livD; rw [hn, hf]
/-- The sectors of a row, as far as disk k was asked. -/
def ssTo (N : Bch) (lv : List Bool) (a D k : Nat) : List (List UInt8) := (List.range D).map fun i => if i < k ∧ srvD N lv i = true then secAt (N.D i).now a else []
def ssL (N : Bch) (lv : List Bool) (a D : Nat) : List (List UInt8) := ssTo N lv a D D
theorem ssTo_len (N : Bch) (lv : List Bool) (a D k : Nat) : (ssTo N lv a D k).length = D := by simp [ssTo]
theorem ssL_len (N : Bch) (lv : List Bool) (a D : Nat) : (ssL N lv a D).length = D := ssTo_len _ _ _ _ _
theorem ssTo_get {N : Bch} {lv : List Bool} {a D k i : Nat} (hi : i < D) : (ssTo N lv a D k).getD i [] = if i < k ∧ srvD N lv i = true then secAt (N.D i).now a else [] := by
  simp [ssTo, List.getD_eq_getElem?_getD, hi]
theorem ssL_get {N : Bch} {lv : List Bool} {a D i : Nat} (hi : i < D) : (ssL N lv a D).getD i [] = if srvD N lv i = true then secAt (N.D i).now a else [] := by
  unfold ssL; rw [ssTo_get hi]; simp only [hi, true_and]
theorem ssTo_zero (N : Bch) (lv : List Bool) (a D : Nat) : ssTo N lv a D 0 = List.replicate D [] := by
  apply List.ext_getElem (by simp [ssTo])
  intro i h1 h2
  simp [ssTo]
theorem ssTo_skip {N : Bch} {lv : List Bool} {a D k : Nat} (hs : srvD N lv k = false) : ssTo N lv a D (k + 1) = ssTo N lv a D k := ext_getD (by rw [ssTo_len, ssTo_len]) fun i hi => by
  rw [ssTo_len] at hi
  rw [ssTo_get hi, ssTo_get hi]
  by_cases e : i = k
  · subst e; rw [if_neg (by rw [hs]; simp), if_neg (by omega)]
  · by_cases h : i < k
    · simp only [h, show i < k + 1 by omega]
    · rw [if_neg (by omega), if_neg (by omega)]
theorem ssTo_goes {N : Bch} {lv : List Bool} {a D k : Nat} (hk : k < D) (hs : srvD N lv k = true) : (ssTo N lv a D k).set k (secAt (N.D k).now a) = ssTo N lv a D (k + 1) := ext_getD (by rw [List.length_set, ssTo_len, ssTo_len]) fun i hi => by
  rw [List.length_set, ssTo_len] at hi
  rw [ssTo_get hi]
  by_cases e : k = i
  · subst e
    rw [getD_set_same (by rw [ssTo_len]; exact hi), if_pos ⟨by omega, hs⟩]
  · rw [getD_set_other e, ssTo_get hi]
    by_cases h : i < k
    · simp only [h, show i < k + 1 by omega]
    · rw [if_neg (by omega), if_neg (by omega)]
/-- What Read tells. -/
def anyS (N : Bch) (lv : List Bool) (k : Nat) : Bool := (List.range k).any (srvD N lv)
theorem anyS_no {N : Bch} {lv : List Bool} {k : Nat} (h : ∀ i, i < k → srvD N lv i = false) : anyS N lv k = false := by
  unfold anyS
  rw [List.any_eq_false]
  intro i hi
  simp [h i (List.mem_range.1 hi)]
theorem anyS_yes {N : Bch} {lv : List Bool} {k i : Nat} (hi : i < k) (h : srvD N lv i = true) : anyS N lv k = true := by
  unfold anyS
  rw [List.any_eq_true]
  exact ⟨i, List.mem_range.2 hi, h⟩
def srdE (N : Bch) (lv : List Bool) (l d c r : Int) : Int :=
  if plOk l d c r = false then 1 else if N.down = true ∧ anyS N lv (roD d) = true then 6 else if (roTake l d c r (ssL N lv (36 + r.toNat) (roD d))).isSome = true then 0 else 7
def srdL (N : Bch) (lv : List Bool) (l d c r : Int) : List (List UInt8) := if srdE N lv l d c r = 0 then (roTake l d c r (ssL N lv (36 + r.toNat) (roD d))).getD [] else []
theorem srdE_bad {N : Bch} {lv : List Bool} {l d c r : Int} (h : plOk l d c r = false) : srdE N lv l d c r = 1 ∧ srdL N lv l d c r = [] := by
  have e : srdE N lv l d c r = 1 := if_pos h
  exact ⟨e, by unfold srdL; rw [e]; rfl⟩
theorem srdE_down {N : Bch} {lv : List Bool} {l d c r : Int} (h : plOk l d c r = true) (hd : N.down = true) (ha : anyS N lv (roD d) = true) : srdE N lv l d c r = 6 ∧ srdL N lv l d c r = [] := by
  have e : srdE N lv l d c r = 6 := by unfold srdE; rw [if_neg (by simp [h]), if_pos ⟨hd, ha⟩]
  exact ⟨e, by unfold srdL; rw [e]; rfl⟩
theorem srdE_lost {N : Bch} {lv : List Bool} {l d c r : Int} (h : plOk l d c r = true) (hd : N.down = false ∨ anyS N lv (roD d) = false) (ht : roTake l d c r (ssL N lv (36 + r.toNat) (roD d)) = none) : srdE N lv l d c r = 7 ∧ srdL N lv l d c r = [] := by
  have e : srdE N lv l d c r = 7 := by
    unfold srdE; rw [if_neg (by simp [h]), if_neg, ht]; rfl
    rintro ⟨h1, h2⟩
    rcases hd with e | e
    · rw [e] at h1; cases h1
    · rw [e] at h2; cases h2
  exact ⟨e, by unfold srdL; rw [e]; rfl⟩
theorem srdE_ok {N : Bch} {lv : List Bool} {l d c r : Int} {rs : List (List UInt8)} (h : plOk l d c r = true) (hd : N.down = false ∨ anyS N lv (roD d) = false) (ht : roTake l d c r (ssL N lv (36 + r.toNat) (roD d)) = some rs) : srdE N lv l d c r = 0 ∧ srdL N lv l d c r = rs := by
  have e : srdE N lv l d c r = 0 := by
    unfold srdE; rw [if_neg (by simp [h]), if_neg, ht]; rfl
    rintro ⟨h1, h2⟩
    rcases hd with e | e
    · rw [e] at h1; cases h1
    · rw [e] at h2; cases h2
  exact ⟨e, by unfold srdL; rw [if_pos e, ht]; rfl⟩
/-- What One tells. -/
def kOf (l d c n : Int) : Nat := (n / c % (d - (l - 4))).toNat
def soneE (N : Bch) (lv : List Bool) (l d c n : Int) : Int :=
  if plOfOk l d c n = false then 4 else if srvD N lv (plOfD l d c n).toNat = true then (if N.down = true then 6 else 0) else srdE N lv l d c (plOfR l d c n)
def soneB (N : Bch) (lv : List Bool) (l d c n : Int) : List UInt8 :=
  if soneE N lv l d c n ≠ 0 then [] else if srvD N lv (plOfD l d c n).toNat = true then secAt (N.D (plOfD l d c n).toNat).now (36 + (plOfR l d c n).toNat) else (srdL N lv l d c (plOfR l d c n)).getD (kOf l d c n) []
section
variable {lv : List Bool} {a : Nat} {xs : List (List UInt8)} {N : Bch}
end
end Go.Proofs.YtenkkdnepmoihaaGreatDoor
end
section
set_option linter.unusedVariables false
set_option linter.unusedSimpArgs false
namespace Go.Proofs.YtenkkdnepmoihaaGreatDoor
open Go.RowKit

end Go.Proofs.YtenkkdnepmoihaaGreatDoor
end
section
set_option linter.unusedVariables false
set_option linter.unusedSimpArgs false
namespace Go.Proofs.YtenkkdnepmoihaaGreatDoor

end Go.Proofs.YtenkkdnepmoihaaGreatDoor
end
section
set_option linter.unusedVariables false
set_option linter.unusedSimpArgs false
namespace Go.Proofs.YtenkkdnepmoihaaGreatDoor

def itWr (N : Bch) (x : It) : Int × Bch := (N.writeE x.d x.a x.b.length, N.write x.d x.a x.b)
def itFl (N : Bch) (x : It) : Int × Bch := (N.flushE x.d, N.flush x.d)
/-- What is done Item by Item, up to the first error. -/
def runTo (f : Bch → It → Int × Bch) (l : List It) (N : Bch) : Nat → Int × Bch
  | 0 => (0, N)
  | i + 1 => if (runTo f l N i).1 ≠ 0 then runTo f l N i else
      if (f (runTo f l N i).2 (itN l i)).1 = 5 then (0, (f (runTo f l N i).2 (itN l i)).2) else f (runTo f l N i).2 (itN l i)
def wroteI (N : Bch) (l : List It) : Int × Bch := runTo itWr l N l.length
def settleS (N : Bch) (l : List It) : Int × Bch := if (wroteI N l).1 ≠ 0 then wroteI N l else runTo itFl l (wroteI N l).2 l.length
section
variable {f : Bch → It → Int × Bch} {l : List It} {N : Bch}
theorem runTo_pass {i : Nat} (h : (runTo f l N i).1 = 0) (hq : (f (runTo f l N i).2 (itN l i)).1 = 5) : runTo f l N (i + 1) = (0, (f (runTo f l N i).2 (itN l i)).2) := by
  rw [runTo, if_neg (by simp [h]), if_pos hq]
theorem runTo_goes {i : Nat} (h : (runTo f l N i).1 = 0) (hq : (f (runTo f l N i).2 (itN l i)).1 ≠ 5) : runTo f l N (i + 1) = f (runTo f l N i).2 (itN l i) := by
  rw [runTo, if_neg (by simp [h]), if_neg hq]
theorem runTo_stop {i : Nat} (h : (runTo f l N i).1 ≠ 0) : ∀ m, i ≤ m → runTo f l N m = runTo f l N i
  | 0, hm => by obtain rfl : i = 0 := by omega
                rfl
  | m + 1, hm => by
    by_cases e : i = m + 1
    · rw [e]
    · have ih := runTo_stop h m (by omega)
      rw [runTo, if_pos (by rw [ih]; exact h), ih]
theorem runTo_any (P : Bch → Prop) (h0 : P N) (hs : ∀ M x, P M → P (f M x).2) : ∀ i, P (runTo f l N i).2
  | 0 => h0
  | i + 1 => by
    have ih := runTo_any P h0 hs i
    rw [runTo]
    repeat' split
    · exact ih
    · exact hs _ _ ih
    · exact hs _ _ ih
end
section
variable {l : List It} {N : Bch}
theorem ran_n (i : Nat) : (runTo itWr l N i).2.n = N.n := runTo_any (fun M => M.n = N.n) rfl (fun M x h => (Bch.write_n M _ _ _).trans h) i
theorem ranF_n (i : Nat) : (runTo itFl l N i).2.n = N.n := runTo_any (fun M => M.n = N.n) rfl (fun M x h => (flush_n M _).trans h) i
theorem settle_n : (settleS N l).2.n = N.n := by
  unfold settleS wroteI; split
  · exact ran_n _
  · exact (ranF_n _).trans (ran_n _)
theorem ran_done : ∀ i, (runTo itWr l N i).2.done ≤ N.done + i
  | 0 => Nat.le_refl _
  | i + 1 => by
    have ih := ran_done i
    have h := write_done (runTo itWr l N i).2 (itN l i).d (itN l i).a (itN l i).b
    rw [runTo]
    repeat' split
    · omega
    · exact Nat.le_trans h (by omega)
    · exact Nat.le_trans h (by omega)
theorem ran_len (j : Nat) : ∀ i, ((runTo itWr l N i).2.D j).ps.length ≤ (N.D j).ps.length + i
  | 0 => Nat.le_refl _
  | i + 1 => by
    have ih := ran_len j i
    have h := write_len (runTo itWr l N i).2 (itN l i).d (itN l i).a (itN l i).b j
    rw [runTo]
    repeat' split
    · omega
    · exact Nat.le_trans h (by omega)
    · exact Nat.le_trans h (by omega)
end
/-! What is put. -/
def liveD (n : Nat) (lv : List Bool) (d : Int) : Bool := decide (d < (n : Int)) && lv.getD d.toNat false
def secIt (d : Nat) (rs : List (List UInt8)) (k : Nat) : It := ⟨(d : Int), ((2 + k : Nat) : Int), rs.getD k []⟩
def secIts (d : Nat) (rs : List (List UInt8)) (i : Nat) : List It := (List.range i).map (secIt d rs)
theorem secIts_succ (d : Nat) (rs : List (List UInt8)) (i : Nat) : secIts d rs (i + 1) = secIts d rs i ++ [secIt d rs i] := by simp [secIts, List.range_succ]
theorem secIts_len (d : Nat) (rs : List (List UInt8)) (i : Nat) : (secIts d rs i).length = i := by simp [secIts]
def putTo (n : Nat) (lv : List Bool) (rs : List (List UInt8)) : Nat → List It
  | 0 => []
  | d + 1 => putTo n lv rs d ++ if liveD n lv (d : Int) = true then secIts d rs rs.length else []
theorem putTo_no {n : Nat} {lv : List Bool} {rs : List (List UInt8)} {d : Nat} (h : liveD n lv (d : Int) = false) : putTo n lv rs (d + 1) = putTo n lv rs d := by
  rw [putTo, if_neg (by simp [h]), List.append_nil]
theorem putTo_yes {n : Nat} {lv : List Bool} {rs : List (List UInt8)} {d : Nat} (h : liveD n lv (d : Int) = true) : putTo n lv rs (d + 1) = putTo n lv rs d ++ secIts d rs rs.length := by
  rw [putTo, if_pos h]
theorem putTo_len (n : Nat) (lv : List Bool) (rs : List (List UInt8)) : ∀ d, (putTo n lv rs d).length ≤ d * rs.length
  | 0 => by simp [putTo]
  | d + 1 => by
    have ih := putTo_len n lv rs d
    have e : (d + 1) * rs.length = d * rs.length + rs.length := Nat.succ_mul _ _
    rw [putTo, List.length_append, e]
    split
    · rw [secIts_len]; omega
    · simp; omega
theorem mem_put {n : Nat} {lv : List Bool} {rs : List (List UInt8)} {x : It} : ∀ {d : Nat}, x ∈ putTo n lv rs d ↔ ∃ j k, j < d ∧ k < rs.length ∧ liveD n lv (j : Int) = true ∧ x = secIt j rs k
  | 0 => by simp [putTo]
  | d + 1 => by
    rw [putTo, List.mem_append, mem_put (d := d)]
    constructor
    · rintro (⟨j, k, hj, hk, hl, e⟩ | h)
      · exact ⟨j, k, by omega, hk, hl, e⟩
      · by_cases hl : liveD n lv (d : Int) = true
        · rw [if_pos hl] at h
          obtain ⟨k, hk, e⟩ := List.mem_map.1 h
          exact ⟨d, k, by omega, List.mem_range.1 hk, hl, e.symm⟩
        · rw [if_neg hl] at h; cases h
    · rintro ⟨j, k, hj, hk, hl, e⟩
      by_cases h : j = d
      · subst h; exact .inr (by rw [if_pos hl]; exact List.mem_map.2 ⟨k, List.mem_range.2 hk, e.symm⟩)
      · exact .inl ⟨j, k, by omega, hk, hl, e⟩
def putS (N : Bch) (lv : List Bool) (s : Int) (l : List It) : Int × Bch := if recOk s l = true then settleS N (putTo N.n lv (recB s l) N.n) else (1, N)
/-! What is applied. -/
def liveI (n : Nat) (lv : List Bool) (x : It) : Bool := liveD n lv x.d
def appS (N : Bch) (lv : List Bool) (s : Int) (l : List It) : Int × Bch := if recOk s l = true then settleS N (l.filter (liveI N.n lv)) else (1, N)
theorem put_n (N : Bch) (lv : List Bool) (s : Int) (l : List It) : (putS N lv s l).2.n = N.n := by
  unfold putS; split
  · exact settle_n
  · rfl
theorem app_n (N : Bch) (lv : List Bool) (s : Int) (l : List It) : (appS N lv s l).2.n = N.n := by
  unfold appS; split
  · exact settle_n
  · rfl
/-! What is found. -/
def logR (D : Dsk) : List (List UInt8) := (List.range 4).map fun k => secAt D.now (2 + k)
def goneD (N : Bch) (d : Nat) : Bool := N.down || (N.D d).f
def onB (N : Bch) (d : Nat) : Bool := if goneD N d = true then false else rcO (logR (N.D d))
def onS (N : Bch) (d : Nat) : Int := if goneD N d = true then 0 else rcS (logR (N.D d))
def onL (N : Bch) (d : Nat) : List It := if goneD N d = true then [] else rcL (logR (N.D d))
/-- The Record of the greatest number, of the first disks that are live. -/
def getTo (N : Bch) (lv : List Bool) : Nat → Int × List It
  | 0 => (0, [])
  | d + 1 => if liveD N.n lv (d : Int) = true ∧ onB N d = true ∧ (getTo N lv d).1 < onS N d then (onS N d, onL N d) else getTo N lv d
def getS (N : Bch) (lv : List Bool) : Int × List It := getTo N lv N.n
theorem rcS_le (rs : List (List UInt8)) : 0 ≤ rcS rs ∧ rcS rs ≤ 2147483647 := by
  unfold rcS
  split
  · rename_i h
    have := ((recOk_iff _ _).1 ((rcO_iff rs).1 h).2.1).1
    omega
  · omega
theorem onS_le (N : Bch) (d : Nat) : 0 ≤ onS N d ∧ onS N d ≤ 2147483647 := by
  unfold onS; split
  · omega
  · exact rcS_le _
theorem getTo_le (N : Bch) (lv : List Bool) : ∀ d, 0 ≤ (getTo N lv d).1 ∧ (getTo N lv d).1 ≤ 2147483647
  | 0 => ⟨Int.le_refl _, by show (0 : Int) ≤ _; omega⟩
  | d + 1 => by
    rw [getTo]; split
    · exact onS_le N d
    · exact getTo_le N lv d
end Go.Proofs.YtenkkdnepmoihaaGreatDoor
end
