/- Texts put together: Only, RbdMath. -/
import Derived.Test.YtadmofpipfdedaaRqbc
import Derived.Test.YtadmofpipfdedaaRqaw
section
set_option linter.unusedVariables false
set_option linter.unusedSimpArgs false
namespace Go.Proofs.Ytadmofpipfdedaa

/-! A bench on which, where it serves, a geometry's rows stand. -/
def only (N : Bch) (lv : List Bool) : Bch := { N with D := fun i => if srvD N lv i = true then N.D i else Dsk.failed }
theorem only_srv (N : Bch) (lv : List Bool) (i : Nat) : srvD (only N lv) lv i = srvD N lv i := by
  cases h : srvD N lv i with
  | true =>
    obtain ⟨h1, h2, h3⟩ := srvD_yes h
    exact srvD_mk h1 h2 (by show Dsk.f (if srvD N lv i = true then N.D i else Dsk.failed) = false; rw [if_pos h]; exact h3)
  | false =>
    refine srvD_no fun ⟨_, _, h3⟩ => ?_
    have : Dsk.f (if srvD N lv i = true then N.D i else Dsk.failed) = false := h3
    rw [if_neg (by rw [h]; decide)] at this
    cases this
theorem only_D {N : Bch} {lv : List Bool} {i : Nat} (h : srvD N lv i = true) : (only N lv).D i = N.D i := if_pos h
theorem only_ss (N : Bch) (lv : List Bool) (a D : Nat) : ssL (only N lv) lv a D = ssL N lv a D := ext_getD (by rw [ssL_len, ssL_len]) fun i hi => by
  rw [ssL_len] at hi
  rw [ssL_get hi, ssL_get hi, only_srv]
  split
  · next h => rw [only_D h]
  · rfl
theorem only_any (N : Bch) (lv : List Bool) (k : Nat) : anyS (only N lv) lv k = anyS N lv k := by
  unfold anyS; congr 1; funext i; exact only_srv N lv i
theorem only_srd (N : Bch) (lv : List Bool) (l d c r : Int) : srdE (only N lv) lv l d c r = srdE N lv l d c r ∧ srdL (only N lv) lv l d c r = srdL N lv l d c r := by
  have e : srdE (only N lv) lv l d c r = srdE N lv l d c r := by
    unfold srdE; rw [only_ss, only_any]; rfl
  refine ⟨e, ?_⟩
  unfold srdL; rw [e, only_ss]
end Go.Proofs.Ytadmofpipfdedaa
end
section
set_option linter.unusedVariables false
set_option linter.unusedSimpArgs false
namespace Go.Proofs.Ytadmofpipfdedaa

/-- Of two numbers the second one below the split, the first one from there on. -/
def rg (s x x' : Int) (r : Nat) : Int := if (r : Int) < s then x' else x
/-- What a row has on a disk. -/
def rbRow (N : Bch) (lv : List Bool) (l d c : Int) (r dd : Nat) : List UInt8 := (fillL (roD d) (roF l d c (r : Int)) (srdL N lv l d c (r : Int))).getD dd []
/-- A row's renewal. -/
def renS (N : Bch) (lv : List Bool) (l d c : Int) (r dd : Nat) : Int × Bch :=
  if srdE N lv l d c (r : Int) ≠ 0 then (srdE N lv l d c (r : Int), N) else (N.writeE (dd : Int) ((36 + r : Nat) : Int) (rbRow N lv l d c r dd).length, N.write (dd : Int) ((36 + r : Nat) : Int) (rbRow N lv l d c r dd))
structure RG where
  l : Int
  d : Int
  c : Int
  l' : Int
  d' : Int
  c' : Int
  s : Int
namespace RG
def L (G : RG) (r : Nat) : Int := rg G.s G.l G.l' r
def D (G : RG) (r : Nat) : Int := rg G.s G.d G.d' r
def C (G : RG) (r : Nat) : Int := rg G.s G.c G.c' r
def ok (G : RG) : Bool := gOk G.l G.d G.c && (decide (0 ≤ G.s) && (decide (G.s ≤ 16) && (decide (G.s = 0) || gOk G.l' G.d' G.c')))
end RG
def rbTo (lv : List Bool) (G : RG) (dd : Nat) (N : Bch) : Nat → Int × Bch
  | 0 => (0, N)
  | r + 1 => if (rbTo lv G dd N r).1 ≠ 0 then rbTo lv G dd N r else if G.D r ≤ (dd : Int) then rbTo lv G dd N r else renS (rbTo lv G dd N r).2 lv (G.L r) (G.D r) (G.C r) r dd
def rbS (N : Bch) (lv : List Bool) (dd : Int) (G : RG) : Int × Bch :=
  if N.pickE dd ≠ 0 ∨ alvD N.n lv dd = true ∨ G.ok = false then (1, N) else if (N.D dd.toNat).f = true then (5, N) else
  if (rbTo lv G dd.toNat N 16).1 ≠ 0 then rbTo lv G dd.toNat N 16 else ((rbTo lv G dd.toNat N 16).2.flushE dd, (rbTo lv G dd.toNat N 16).2.flush dd)
theorem RG.ok_yes {G : RG} (h : G.ok = true) : gOk G.l G.d G.c = true ∧ 0 ≤ G.s ∧ G.s ≤ 16 ∧ (G.s = 0 ∨ gOk G.l' G.d' G.c' = true) := by
  unfold RG.ok at h
  simp only [Bool.and_eq_true, Bool.or_eq_true, decide_eq_true_eq] at h
  exact ⟨h.1, h.2.1, h.2.2.1, h.2.2.2⟩
theorem RG.ok_mk {G : RG} (h1 : gOk G.l G.d G.c = true) (h2 : 0 ≤ G.s) (h3 : G.s ≤ 16) (h4 : G.s = 0 ∨ gOk G.l' G.d' G.c' = true) : G.ok = true := by
  unfold RG.ok
  simp only [Bool.and_eq_true, Bool.or_eq_true, decide_eq_true_eq]
  exact ⟨h1, h2, h3, h4⟩
theorem RG.good {G : RG} (h : G.ok = true) (r : Nat) : gOk (G.L r) (G.D r) (G.C r) = true := by
  obtain ⟨h1, h2, h3, h4⟩ := RG.ok_yes h
  unfold RG.L RG.D RG.C rg
  split
  · rcases h4 with h4 | h4
    · omega
    · exact h4
  · exact h1
/-- Any good geometry, any row of it. -/
theorem gr_mk {l c r : Int} {D : Nat} (hg : gOk l (D : Int) c = true) (h0 : 0 ≤ r) (h1 : r < 16) : Gr 0 l c r D (roF l (D : Int) c r) (roW l (D : Int)) := by
  have hb := gOk_bd hg
  have hok := plOk_mk hg h0 h1
  have R := ro_of hok
  have e : roD (D : Int) = D := by unfold roD; omega
  have hF := R.hF
  have hW := R.hW
  have d8 := R.d8
  have d3 := R.d3
  have lv := R.lv
  rw [e] at hF hW d8 d3 lv
  exact ⟨hok, R, e, rfl, rfl, hF, hW, R.w1, R.w7, d8, d3, lv, R.wd, by omega, by omega, by omega, by omega, ⟨h0, h1⟩⟩
section
variable {lv : List Bool} {G : RG} {dd : Nat} {N : Bch}
theorem rbTo_skip {r : Nat} (h : (rbTo lv G dd N r).1 = 0) (hd : G.D r ≤ (dd : Int)) : rbTo lv G dd N (r + 1) = rbTo lv G dd N r := by
  rw [rbTo, if_neg (by simp [h]), if_pos hd]
theorem rbTo_goes {r : Nat} (h : (rbTo lv G dd N r).1 = 0) (hd : ¬ G.D r ≤ (dd : Int)) : rbTo lv G dd N (r + 1) = renS (rbTo lv G dd N r).2 lv (G.L r) (G.D r) (G.C r) r dd := by
  rw [rbTo, if_neg (by simp [h]), if_neg hd]
theorem rbTo_stop {r : Nat} (h : (rbTo lv G dd N r).1 ≠ 0) : ∀ m, r ≤ m → rbTo lv G dd N m = rbTo lv G dd N r
  | 0, hm => by obtain rfl : r = 0 := by omega
                rfl
  | m + 1, hm => by
    by_cases e : r = m + 1
    · rw [e]
    · have ih := rbTo_stop h m (by omega)
      rw [rbTo, if_pos (by rw [ih]; exact h), ih]
theorem rbTo_any (P : Bch → Prop) (h0 : P N) (hs : ∀ M k x, P M → P (M.write (dd : Int) k x)) : ∀ r, P (rbTo lv G dd N r).2
  | 0 => h0
  | r + 1 => by
    have ih := rbTo_any P h0 hs r
    rw [rbTo]
    repeat' split
    · exact ih
    · exact ih
    · unfold renS
      split
      · exact ih
      · exact hs _ _ _ ih
theorem rbTo_n (r : Nat) : (rbTo lv G dd N r).2.n = N.n := rbTo_any (fun M => M.n = N.n) rfl (fun M k x h => (Bch.write_n M _ _ _).trans h) r
theorem renS_done (N : Bch) (l d c : Int) (r : Nat) : (renS N lv l d c r dd).2.done ≤ N.done + 1 := by
  unfold renS
  split
  · exact Nat.le_add_right _ _
  · exact write_done _ _ _ _
theorem renS_len (N : Bch) (l d c : Int) (r j : Nat) : ((renS N lv l d c r dd).2.D j).ps.length ≤ (N.D j).ps.length + 1 := by
  unfold renS
  split
  · exact Nat.le_add_right _ _
  · exact write_len _ _ _ _ _
theorem rbTo_done : ∀ r, (rbTo lv G dd N r).2.done ≤ N.done + r
  | 0 => Nat.le_refl _
  | r + 1 => by
    have ih := rbTo_done r
    have h := renS_done (lv := lv) (dd := dd) (rbTo lv G dd N r).2 (G.L r) (G.D r) (G.C r) r
    rw [rbTo]
    repeat' split
    · omega
    · omega
    · omega
theorem rbTo_pend (j : Nat) : ∀ r, ((rbTo lv G dd N r).2.D j).ps.length ≤ (N.D j).ps.length + r
  | 0 => Nat.le_refl _
  | r + 1 => by
    have ih := rbTo_pend j r
    have h := renS_len (lv := lv) (dd := dd) (rbTo lv G dd N r).2 (G.L r) (G.D r) (G.C r) r j
    rw [rbTo]
    repeat' split
    · omega
    · omega
    · omega
end
end Go.Proofs.Ytadmofpipfdedaa
end
