/- Texts put together: RbdFld. -/
import Derived.Test.YtadmofpipfdedaaRqbd
import Derived.Test.YtadmofpipfdedaaRqay
import Derived.Test.YtadmofpipfdedaaRqbb
section
set_option linter.unusedVariables false
set_option linter.unusedSimpArgs false
namespace Go.Proofs.Ytadmofpipfdedaa

/-- What stands at sector k of disk i: the rows below s, and of row s what is on disks below j; zeros elsewhere. -/
def fbV (fl : Nat → List (List UInt8)) (s j i k : Nat) : List UInt8 := if 36 ≤ k ∧ (k - 36 < s ∨ (k - 36 = s ∧ i < j)) ∧ i < (fl (k - 36)).length then (fl (k - 36)).getD i [] else zeroL 32
structure Fb (N : Bch) (m : Nat) (fl : Nat → List (List UInt8)) (s j : Nat) : Prop where
  gd : Gd N m
  at' : ∀ i, i < m → ∀ k, k < 52 → secAt (N.D i).now k = fbV fl s j i k
theorem sec_zeroS {k : Nat} (hk : k < 52) : secAt zeroS k = zeroL 32 := by
  apply List.ext_getElem?
  intro i
  rw [secAt_get]
  unfold zeroS zeroL
  split
  · next h => rw [List.getElem?_replicate, if_pos (by omega), List.getElem?_replicate, if_pos h]
  · next h => rw [List.getElem?_replicate, if_neg h]
theorem fb_new (m : Nat) (fl : Nat → List (List UInt8)) : Fb (Bch.new m) m fl 0 0 := ⟨gd_new m, fun i _ k hk => by
  unfold fbV
  rw [if_neg (by omega)]
  exact sec_zeroS hk⟩
theorem fb_damage {N : Bch} {m : Nat} {fl : Nat → List (List UInt8)} {s j : Nat} (h : Fb N m fl s j) (hj : j < m) (hs : s < 16) (hl : j < (fl s).length) (hx : ((fl s).getD j []).length = 32) : Fb (N.damage (j : Int) ((36 + s : Nat) : Int) ((fl s).getD j [])) m fl s (j + 1) := by
  refine ⟨gd_damage h.gd hj (by omega) hx, fun i hi k hk => ?_⟩
  rw [sec_damage h.gd hj (by omega) hx, h.at' i hi k hk]
  unfold fbV
  by_cases e : i = j ∧ k = 36 + s
  · rw [if_pos e]
    obtain ⟨rfl, rfl⟩ := e
    rw [show 36 + s - 36 = s by omega, if_pos ⟨by omega, .inr ⟨rfl, by omega⟩, hl⟩]
  · rw [if_neg e]
    by_cases c : 36 ≤ k ∧ (k - 36 < s ∨ (k - 36 = s ∧ i < j)) ∧ i < (fl (k - 36)).length
    · rw [if_pos c, if_pos ⟨c.1, by omega, c.2.2⟩]
    · rw [if_neg c, if_neg]
      rintro ⟨c1, c2, c3⟩
      exact c ⟨c1, by omega, c3⟩
theorem fb_next {N : Bch} {m D : Nat} {fl : Nat → List (List UInt8)} {s : Nat} (h : Fb N m fl s D) (hD : (fl s).length = D) : Fb N m fl (s + 1) 0 := ⟨h.gd, fun i hi k hk => by
  rw [h.at' i hi k hk]
  unfold fbV
  by_cases c : 36 ≤ k ∧ (k - 36 < s ∨ (k - 36 = s ∧ i < D)) ∧ i < (fl (k - 36)).length
  · rw [if_pos c, if_pos ⟨c.1, by omega, c.2.2⟩]
  · rw [if_neg c, if_neg]
    rintro ⟨c1, c2, c3⟩
    refine c ⟨c1, ?_, c3⟩
    by_cases e : k - 36 = s
    · rw [e, hD] at c3; omega
    · omega⟩
/-- Filled. -/
theorem Fb.row {N : Bch} {m : Nat} {fl : Nat → List (List UInt8)} (h : Fb N m fl 16 0) {i t : Nat} (hi : i < m) (ht : t < 16) : secAt (N.D i).now (36 + t) = if i < (fl t).length then (fl t).getD i [] else zeroL 32 := by
  rw [h.at' i hi _ (by omega)]
  unfold fbV
  rw [show 36 + t - 36 = t by omega]
  by_cases c : i < (fl t).length
  · rw [if_pos ⟨by omega, .inl ht, c⟩, if_pos c]
  · rw [if_neg (fun e => c e.2.2), if_neg c]
theorem Fb.low {N : Bch} {m : Nat} {fl : Nat → List (List UInt8)} (h : Fb N m fl 16 0) {i k : Nat} (hi : i < m) (hk : k < 36) : secAt (N.D i).now k = zeroL 32 := by
  rw [h.at' i hi _ (by omega)]
  unfold fbV
  rw [if_neg (by omega)]
/-- A row of two geometries' rows, filled by numbers. -/
def rowG (G : RG) (zs : List Int) (t : Nat) : List (List UInt8) := fillL (G.D t).toNat (roF (G.L t) (G.D t) (G.C t) (t : Int)) (datL zs t (roW (G.L t) (G.D t)))
theorem rowG_len (G : RG) (zs : List Int) (t : Nat) : (rowG G zs t).length = (G.D t).toNat := fillL_len _ _ _
/-- Each row's geometry. -/
theorem RG.gr {G : RG} (h : G.ok = true) {t : Nat} (ht : t < 16) : ∃ D : Nat, G.D t = (D : Int) ∧ Gr 0 (G.L t) (G.C t) (t : Int) D (roF (G.L t) (G.D t) (G.C t) (t : Int)) (roW (G.L t) (G.D t)) := by
  have hg := RG.good h t
  have hb := gOk_bd hg
  obtain ⟨D, hD⟩ : ∃ D : Nat, G.D t = (D : Int) := ⟨(G.D t).toNat, by omega⟩
  rw [hD] at hg ⊢
  exact ⟨D, rfl, gr_mk hg (by omega) (by omega)⟩
theorem rowG_32 {G : RG} (h : G.ok = true) {zs : List Int} {t i : Nat} (ht : t < 16) (hi : i < (G.D t).toNat) : ((rowG G zs t).getD i []).length = 32 := by
  obtain ⟨D, hD, gr⟩ := RG.gr h ht
  unfold rowG
  have e : (G.D t).toNat = D := by omega
  rw [e] at hi ⊢
  exact gr.fills (datL_len _ _ _) datL_mem hi
end Go.Proofs.Ytadmofpipfdedaa
end
