/- Texts put together: RowKit, RowLost, SlotMath, LogMath. -/
import Derived.Test.YtenkkdnepmoihaaGreatDoorUeat
import Derived.Test.YtenkkdnepmoihaaGreatDoorUeai
import Derived.Test.YtenkkdnepmoihaaGreatDoorUeab
import Derived.Test.YtenkkdnepmoihaaGreatDoorUeaa
import Derived.Carry
import Derived.Test.YtenkkdnepmoihaaGreatDoorUeak
import Derived.Test.YtenkkdnepmoihaaGreatDoorUeas
import Derived.Test.YtenkkdnepmoihaaGreatDoorUeaf
section
set_option maxRecDepth 8000
set_option linter.unusedVariables false
set_option linter.unusedSimpArgs false
namespace Go.Proofs.YtenkkdnepmoihaaGreatDoor
open Go.RowKit

/-- Sectors that are made, as they are read. -/
theorem sectors_rd {A : Option Addr} {zs : List Int} {m cp n : Nat} {w : World} (hm : m = zs.length) (hr : RdZ w w.heap.size A zs) (hn : n ≤ 8) :
    Calls Tryz.prog 40 #[.slice A m cp, .int .i64 (n : Int)] w fun e w' => ∃ A' c', e = .returned (.slice A' n c') ∧ OwV w.heap.size w' (.slice A' n c') (sectorsB zs n) ∧ RdR w' w'.heap.size A' (sectorsB zs n) ∧ Below w.heap.size w w' :=
  (sectors_any A zs m cp n w hm hr hn).mono fun _ _ ⟨v, he, ho, hb⟩ => by
    obtain ⟨A', c', rfl, _, hrd⟩ := ho.rd (by rw [sectorsB_len]; omega)
    rw [sectorsB_len] at he ho
    exact ⟨A', c', he, ho, hrd, hb⟩
/-- A good geometry, a row of it: what stands where. -/
structure Gr (n : Int) (l c r : Int) (D F W : Nat) : Prop where
  ok : plOk l (D : Int) c r = true
  R : Ro l (D : Int) c r
  eD : roD (D : Int) = D
  eF : roF l (D : Int) c r = F
  eW : roW l (D : Int) = W
  hF : F < D
  hW : W < D
  w1 : 1 ≤ W
  w7 : W ≤ 7
  d8 : D ≤ 8
  d3 : 3 ≤ D
  lv : (l = 5 ∧ D = W + 1) ∨ (l = 6 ∧ D = W + 2)
  wd : gWid l (D : Int) c = (W : Int)
  l64 : -9223372036854775808 ≤ l ∧ l ≤ 9223372036854775807
  d64 : -9223372036854775808 ≤ (D : Int) ∧ (D : Int) ≤ 9223372036854775807
  c64 : -9223372036854775808 ≤ c ∧ c ≤ 9223372036854775807
  r64 : -9223372036854775808 ≤ r ∧ r ≤ 9223372036854775807
  r0 : 0 ≤ r ∧ r < 16
theorem gr_of (n : Int) {r : Int} (h0 : 0 ≤ r) (h1 : r < 16) : ∃ D F W : Nat, goD n = (D : Int) ∧ Gr n (goL n) (goC n) r D F W := by
  have hg := go_ok n
  have hb := gOk_bd hg
  have hok := plOk_mk hg h0 h1
  have R := ro_of hok
  obtain ⟨D, hD⟩ : ∃ D : Nat, goD n = (D : Int) := ⟨_, R.dd.symm⟩
  rw [hD] at hg hb hok R
  exact ⟨D, roF (goL n) D (goC n) r, roW (goL n) D, hD, hok, R, rfl, rfl, rfl, R.hF, R.hW, R.w1, R.w7, R.d8, R.d3, R.lv, R.wd, by omega, by omega, by omega, by omega, ⟨h0, h1⟩⟩
section
variable {n l c r : Int} {D F W : Nat}
theorem Gr.fok (h : Gr n l c r D F W) {rs : List (List UInt8)} (hl : rs.length = W) (ha : ∀ x ∈ rs, x.length = 32) : fillOk l (D : Int) c r rs = true := fillOk_mk h.ok (by rw [h.eW]; exact hl) ha
theorem Gr.fills (h : Gr n l c r D F W) {rs : List (List UInt8)} (hl : rs.length = W) (ha : ∀ x ∈ rs, x.length = 32) {i : Nat} (hi : i < D) : ((fillL D F rs).getD i []).length = 32 := by
  have := fill_32 (h.fok hl ha) (i := i) (by rw [h.eD]; exact hi)
  rwa [h.eD, h.eF] at this
end
end Go.Proofs.YtenkkdnepmoihaaGreatDoor
end
section
set_option linter.unusedVariables false
set_option linter.unusedSimpArgs false
namespace Go.Proofs.YtenkkdnepmoihaaGreatDoor
open Go.RowKit

theorem some_if {P Q : Prop} [Decidable P] [Decidable Q] (x : List (List UInt8)) (h : P ↔ Q) : (if (true && (decide P && (true && true))) = true then some x else none).isSome = decide Q := by
  by_cases hp : P
  · rw [decide_eq_true hp, decide_eq_true (h.1 hp)]; rfl
  · rw [decide_eq_false hp, decide_eq_false fun q => hp (h.2 q)]; rfl
def thereN (l : Int) (lp lq : Nat) : Nat := (if 0 < lp then 1 else 0) + (if l = 6 ∧ 0 < lq then 1 else 0)
/-- Whether what is left tells the data. -/
theorem lose_end {n l c r : Int} {D F W : Nat} (gr : Gr n l c r D F W) {xs : List (List UInt8)} (hl : xs.length = D) (hs : ∀ i, i < D → (xs.getD i []).length = 0 ∨ (xs.getD i []).length = 32) :
    (roTake l (D : Int) c r xs).isSome = decide (cntB D (fun k : Nat => emptyB xs k && (!decide (k = roS D F W) && !decide ((k : Int) = if l = 6 then ((roS D F (W + 1) : Nat) : Int) else -1))) ≤ thereN l (xs.getD (roS D F W) []).length (xs.getD (roS D F (W + 1)) []).length) := by
  have hF := gr.hF; have hW := gr.hW; have w7 := gr.w7; have w1 := gr.w1; have hlv := gr.lv
  rw [roTake_yes gr.ok (by rw [gr.eD]; exact hl)]
  have ed := data_cnt (l := l) (d := (D : Int)) (c := c) (r := r) xs
  have edl := dataL_len l (D : Int) c r xs
  rw [gr.eD, gr.eF, gr.eW] at ed
  rw [gr.eW] at edl
  have hdat : sizedB 32 (dataL l (D : Int) c r xs) = true := sizedB_iff.2 fun k hk => by
    rw [dataL_get (by rw [gr.eW]; omega), gr.eD, gr.eF]
    exact hs _ (roS_lt hF (by omega))
  have eP : parL l (D : Int) c r xs = xs.getD (roS D F W) [] := by unfold parL; rw [gr.eD, gr.eF, gr.eW]
  have eQ : parQ l (D : Int) c r xs = if l = 6 then xs.getD (roS D F (W + 1)) [] else [] := by unfold parQ; rw [gr.eD, gr.eF, gr.eW]
  have hp := hs _ (roS_lt hF hW)
  have hask : askB 32 (parL l (D : Int) c r xs) (parQ l (D : Int) c r xs) (dataL l (D : Int) c r xs) = true := by
    unfold askB
    rw [hdat, Bool.and_true, Bool.and_eq_true]
    refine ⟨rfl, sizedB_iff.2 fun k hk => ?_⟩
    match k, hk with
    | 0, _ => show (parL l (D : Int) c r xs).length = 0 ∨ _; rw [eP]; exact hp
    | 1, _ =>
      show (parQ l (D : Int) c r xs).length = 0 ∨ _
      rw [eQ]
      split
      · exact hs _ (roS_lt hF (by omega))
      · exact .inl rfl
  have ecnt : cntB D (fun k : Nat => emptyB xs k && (!decide (k = roS D F W) && !decide ((k : Int) = if l = 6 then ((roS D F (W + 1) : Nat) : Int) else -1))) = (missB (dataL l (D : Int) c r xs)).length := by
    rw [ed, cntB_roS hF]
    have inj : ∀ a b, a < D → b < D → a ≠ b → roS D F a ≠ roS D F b := fun a b h1 h2 h3 h4 => h3 (roS_inj hF h1 h2 h4)
    have low : ∀ (q : Int), (∀ k, k < W → ((roS D F k : Nat) : Int) ≠ q) → cntB W (fun k => emptyB xs (roS D F k) && (!decide (roS D F k = roS D F W) && !decide (((roS D F k : Nat) : Int) = q))) = cntB W (fun k => emptyB xs (roS D F k)) := fun q hq => cntB_congr fun k hk => by
      rw [decide_eq_false (inj k W (by omega) hW (by omega)), decide_eq_false (hq k hk)]
      simp
    rcases hlv with ⟨h5, hD⟩ | ⟨h6, hD⟩
    · rw [if_neg (by omega)]
      have hl := low (-1) (fun k hk => by omega)
      generalize hf : (fun k => emptyB xs (roS D F k) && (!decide (roS D F k = roS D F W) && !decide (((roS D F k : Nat) : Int) = -1))) = f at hl ⊢
      have hfW : f W = false := by rw [← hf]; simp
      rw [show cntB D f = cntB (W + 1) f by rw [hD], cntB_succ, hfW]
      exact hl
    · rw [if_pos h6]
      have hl := low ((roS D F (W + 1) : Nat) : Int) (fun k hk => by have := inj k (W + 1) (by omega) (by omega) (by omega); omega)
      generalize hf : (fun k => emptyB xs (roS D F k) && (!decide (roS D F k = roS D F W) && !decide (((roS D F k : Nat) : Int) = ((roS D F (W + 1) : Nat) : Int)))) = f at hl ⊢
      have hfW : f W = false := by rw [← hf]; simp
      have hfW1 : f (W + 1) = false := by rw [← hf]; simp
      rw [show cntB D f = cntB (W + 2) f by rw [hD], cntB_succ, hfW1, cntB_succ, hfW]
      exact hl
  rw [ecnt]
  unfold solveB canB
  rw [hask, edl, decide_eq_true (show 0 < W by omega), decide_eq_true (show W ≤ 8 by omega), missB_pair, eP, eQ]
  generalize (missB (dataL l (D : Int) c r xs)).length = m
  unfold thereN
  generalize (xs.getD (roS D F W) []).length = lp
  rcases hlv with ⟨h5, _⟩ | ⟨h6, _⟩
  · rw [if_neg (show ¬ l = 6 by omega)]
    refine some_if _ ?_
    rw [if_neg (show ¬ (l = 6 ∧ _) by omega), if_pos (show ([] : List UInt8).length = 0 from rfl)]
    by_cases h0 : lp = 0
    · rw [if_pos h0, if_neg (by omega)]
    · rw [if_neg h0, if_pos (by omega)]
  · rw [if_pos h6]
    generalize (xs.getD (roS D F (W + 1)) []).length = lq
    refine some_if _ ?_
    by_cases h0 : lp = 0
    · by_cases h1 : lq = 0
      · rw [if_pos h0, if_pos h1, if_neg (by omega), if_neg (by omega)]
      · rw [if_pos h0, if_neg h1, if_neg (by omega), if_pos ⟨h6, by omega⟩]
    · by_cases h1 : lq = 0
      · rw [if_neg h0, if_pos h1, if_pos (by omega), if_neg (by omega)]
      · rw [if_neg h0, if_neg h1, if_pos (by omega), if_pos ⟨h6, by omega⟩]
end Go.Proofs.YtenkkdnepmoihaaGreatDoor
end
section
set_option linter.unusedVariables false
set_option linter.unusedSimpArgs false
namespace Go.Proofs.YtenkkdnepmoihaaGreatDoor

end Go.Proofs.YtenkkdnepmoihaaGreatDoor
end
section
set_option linter.unusedVariables false
set_option linter.unusedSimpArgs false
namespace Go.Proofs.YtenkkdnepmoihaaGreatDoor

def itWr (N : Bch) (x : It) : Int × Bch := (N.writeE x.d x.a x.b.length, N.write x.d x.a x.b)
def itFl (N : Bch) (x : It) : Int × Bch := (N.flushE x.d, N.flush x.d)
/-- What is done Item by Item, up to the first error. -/
def runTo (f : Bch → It → Int × Bch) (l : List It) (N : Bch) : Nat → Int × Bch
  | 0 => (0, N)
  | i + 1 => if (runTo f l N i).1 ≠ 0 then runTo f l N i else
      if (f (runTo f l N i).2 (itN l i)).1 = 5 then (0, (f (runTo f l N i).2 (itN l i)).2) else f (runTo f l N i).2 (itN l i)
def wroteI (N : Bch) (l : List It) : Int × Bch := runTo itWr l N l.length
def settleS (N : Bch) (l : List It) : Int × Bch := if (wroteI N l).1 ≠ 0 then wroteI N l else runTo itFl l (wroteI N l).2 l.length
section
variable {f : Bch → It → Int × Bch} {l : List It} {N : Bch}
theorem runTo_pass {i : Nat} (h : (runTo f l N i).1 = 0) (hq : (f (runTo f l N i).2 (itN l i)).1 = 5) : runTo f l N (i + 1) = (0, (f (runTo f l N i).2 (itN l i)).2) := by
  rw [runTo, if_neg (by simp [h]), if_pos hq]
theorem runTo_goes {i : Nat} (h : (runTo f l N i).1 = 0) (hq : (f (runTo f l N i).2 (itN l i)).1 ≠ 5) : runTo f l N (i + 1) = f (runTo f l N i).2 (itN l i) := by
  rw [runTo, if_neg (by simp [h]), if_neg hq]
theorem runTo_stop {i : Nat} (h : (runTo f l N i).1 ≠ 0) : ∀ m, i ≤ m → runTo f l N m = runTo f l N i
  | 0, hm => by obtain rfl : i = 0 := by omega
                rfl
  | m + 1, hm => by
    by_cases e : i = m + 1
    · rw [e]
    · have ih := runTo_stop h m (by omega)
      rw [runTo, if_pos (by rw [ih]; exact h), ih]
theorem runTo_any (P : Bch → Prop) (h0 : P N) (hs : ∀ M x, P M → P (f M x).2) : ∀ i, P (runTo f l N i).2
  | 0 => h0
  | i + 1 => by
    have ih := runTo_any P h0 hs i
    rw [runTo]
    repeat' split
    · exact ih
    · exact hs _ _ ih
    · exact hs _ _ ih
end
section
variable {l : List It} {N : Bch}
theorem ran_n (i : Nat) : (runTo itWr l N i).2.n = N.n := runTo_any (fun M => M.n = N.n) rfl (fun M x h => (Bch.write_n M _ _ _).trans h) i
theorem ranF_n (i : Nat) : (runTo itFl l N i).2.n = N.n := runTo_any (fun M => M.n = N.n) rfl (fun M x h => (flush_n M _).trans h) i
theorem settle_n : (settleS N l).2.n = N.n := by
  unfold settleS wroteI; split
  · exact ran_n _
  · exact (ranF_n _).trans (ran_n _)
theorem ran_done : ∀ i, (runTo itWr l N i).2.done ≤ N.done + i
  | 0 => Nat.le_refl _
  | i + 1 => by
    have ih := ran_done i
    have h := write_done (runTo itWr l N i).2 (itN l i).d (itN l i).a (itN l i).b
    rw [runTo]
    repeat' split
    · omega
    · exact Nat.le_trans h (by omega)
    · exact Nat.le_trans h (by omega)
theorem ran_len (j : Nat) : ∀ i, ((runTo itWr l N i).2.D j).ps.length ≤ (N.D j).ps.length + i
  | 0 => Nat.le_refl _
  | i + 1 => by
    have ih := ran_len j i
    have h := write_len (runTo itWr l N i).2 (itN l i).d (itN l i).a (itN l i).b j
    rw [runTo]
    repeat' split
    · omega
    · exact Nat.le_trans h (by omega)
    · exact Nat.le_trans h (by omega)
end
/-! What is put. -/
def liveD (n : Nat) (lv : List Bool) (d : Int) : Bool := decide (d < (n : Int)) && lv.getD d.toNat false
def secIt (d : Nat) (rs : List (List UInt8)) (k : Nat) : It := ⟨(d : Int), ((2 + k : Nat) : Int), rs.getD k []⟩
def secIts (d : Nat) (rs : List (List UInt8)) (i : Nat) : List It := (List.range i).map (secIt d rs)
theorem secIts_succ (d : Nat) (rs : List (List UInt8)) (i : Nat) : secIts d rs (i + 1) = secIts d rs i ++ [secIt d rs i] := by simp [secIts, List.range_succ]
theorem secIts_len (d : Nat) (rs : List (List UInt8)) (i : Nat) : (secIts d rs i).length = i := by simp [secIts]
def putTo (n : Nat) (lv : List Bool) (rs : List (List UInt8)) : Nat → List It
  | 0 => []
  | d + 1 => putTo n lv rs d ++ if liveD n lv (d : Int) = true then secIts d rs rs.length else []
theorem putTo_no {n : Nat} {lv : List Bool} {rs : List (List UInt8)} {d : Nat} (h : liveD n lv (d : Int) = false) : putTo n lv rs (d + 1) = putTo n lv rs d := by
  rw [putTo, if_neg (by simp [h]), List.append_nil]
theorem putTo_yes {n : Nat} {lv : List Bool} {rs : List (List UInt8)} {d : Nat} (h : liveD n lv (d : Int) = true) : putTo n lv rs (d + 1) = putTo n lv rs d ++ secIts d rs rs.length := by
  rw [putTo, if_pos h]
theorem putTo_len (n : Nat) (lv : List Bool) (rs : List (List UInt8)) : ∀ d, (putTo n lv rs d).length ≤ d * rs.length
  | 0 => by simp [putTo]
  | d + 1 => by
    have ih := putTo_len n lv rs d
    have e : (d + 1) * rs.length = d * rs.length + rs.length := Nat.succ_mul _ _
    rw [putTo, List.length_append, e]
    split
    · rw [secIts_len]; omega
    · simp; omega
theorem mem_put {n : Nat} {lv : List Bool} {rs : List (List UInt8)} {x : It} : ∀ {d : Nat}, x ∈ putTo n lv rs d ↔ ∃ j k, j < d ∧ k < rs.length ∧ liveD n lv (j : Int) = true ∧ x = secIt j rs k
  | 0 => by simp [putTo]
  | d + 1 => by
    rw [putTo, List.mem_append, mem_put (d := d)]
    constructor
    · rintro (⟨j, k, hj, hk, hl, e⟩ | h)
      · exact ⟨j, k, by omega, hk, hl, e⟩
      · by_cases hl : liveD n lv (d : Int) = true
        · rw [if_pos hl] at h
          obtain ⟨k, hk, e⟩ := List.mem_map.1 h
          exact ⟨d, k, by omega, List.mem_range.1 hk, hl, e.symm⟩
        · rw [if_neg hl] at h; cases h
    · rintro ⟨j, k, hj, hk, hl, e⟩
      by_cases h : j = d
      · subst h; exact .inr (by rw [if_pos hl]; exact List.mem_map.2 ⟨k, List.mem_range.2 hk, e.symm⟩)
      · exact .inl ⟨j, k, by omega, hk, hl, e⟩
def putS (N : Bch) (lv : List Bool) (s : Int) (l : List It) : Int × Bch := if recOk s l = true then settleS N (putTo N.n lv (recB s l) N.n) else (1, N)
/-! What is applied. -/
def liveI (n : Nat) (lv : List Bool) (x : It) : Bool := liveD n lv x.d
def appS (N : Bch) (lv : List Bool) (s : Int) (l : List It) : Int × Bch := if recOk s l = true then settleS N (l.filter (liveI N.n lv)) else (1, N)
theorem put_n (N : Bch) (lv : List Bool) (s : Int) (l : List It) : (putS N lv s l).2.n = N.n := by
  unfold putS; split
  · exact settle_n
  · rfl
theorem app_n (N : Bch) (lv : List Bool) (s : Int) (l : List It) : (appS N lv s l).2.n = N.n := by
  unfold appS; split
  · exact settle_n
  · rfl
/-! What is found. -/
def logR (D : Dsk) : List (List UInt8) := (List.range 4).map fun k => secAt D.now (2 + k)
def goneD (N : Bch) (d : Nat) : Bool := N.down || (N.D d).f
def onB (N : Bch) (d : Nat) : Bool := if goneD N d = true then false else rcO (logR (N.D d))
def onS (N : Bch) (d : Nat) : Int := if goneD N d = true then 0 else rcS (logR (N.D d))
def onL (N : Bch) (d : Nat) : List It := if goneD N d = true then [] else rcL (logR (N.D d))
end Go.Proofs.YtenkkdnepmoihaaGreatDoor
end
