/- Texts put together: BakLaw, BakHave. -/
import Derived.Test.YtjnemopocmhfkaaDoorBnau
section
set_option maxRecDepth 20000
set_option linter.unusedVariables false
set_option linter.unusedSimpArgs false
namespace Go.Proofs.YtjnemopocmhfkaaDoor
open Go.RowKit

theorem got_no {N : Bch} {lv : List Bool} {e x : Int} (h : ∀ i, i < N.n → lv.getD i false = true → hitB N e.toNat x.toNat i = false) : gotB N lv e x = false ∧ gotL N lv e x = [] := by
  have h1 : getB N lv e.toNat x.toNat N.n = false := by
    rw [Bool.eq_false_iff]
    intro q
    obtain ⟨j, hj, hl, hh⟩ := getB_iff.1 q
    rw [h j hj hl] at hh
    exact absurd hh (by decide)
  unfold gotB gotL
  rw [h1, getL_none h1]
  exact ⟨Bool.and_false _, by split <;> rfl⟩
/-- What some live disk has, and whoever has one has the same. -/
theorem got_yes {N : Bch} {lv : List Bool} {e x : Nat} {ds : List (List UInt8)} (hm : bkMay (e : Int) (x : Int) = true) {k : Nat} (hk : k < N.n) (hl : lv.getD k false = true) (hh : hitB N e x k = true) (hd : ∀ i, i < N.n → hitB N e x i = true → hitL N i = ds) : gotB N lv (e : Int) (x : Int) = true ∧ gotL N lv (e : Int) (x : Int) = ds := by
  have h1 : getB N lv e x N.n = true := getB_iff.2 ⟨k, hk, hl, hh⟩
  obtain ⟨j, hj, _, h3, h4⟩ := getL_of h1
  unfold gotB gotL
  rw [hm, if_pos rfl]
  exact ⟨h1, h4.trans (hd j hj h3)⟩
theorem bkBad_secs {e x : Int} (h : bkMay e x = true) (zs : List Int) {n : Nat} (hn : n ≤ 28) : bkBad e x (sectorsB zs n) = false := bkBad_ok h (by rw [sectorsB_len]; omega) sectorsB_mem
end Go.Proofs.YtjnemopocmhfkaaDoor
end
section
set_option maxRecDepth 20000
set_option linter.unusedVariables false
set_option linter.unusedSimpArgs false
namespace Go.Proofs.YtjnemopocmhfkaaDoor
open Go.RowKit

def hv3 (h : Nat → Nat) : Array Value := #[.int .i64 (h 0 : Int), .int .i64 (h 1 : Int), .int .i64 (h 2 : Int)]
def hU (lv : List Bool) (z : Nat) (h : Nat → Nat) (j d : Nat) : Nat := if d < j ∧ lv.getD d false = true then z else h d
theorem hU_zero (lv : List Bool) (z : Nat) (h : Nat → Nat) : hU lv z h 0 = h := funext fun d => if_neg (by omega)
theorem hU_no {lv : List Bool} {z : Nat} {h : Nat → Nat} {j : Nat} (hb : lv.getD j false = false) : hU lv z h (j + 1) = hU lv z h j := funext fun d => by
  unfold hU
  by_cases e : d = j
  · subst e; rw [if_neg (by rw [hb]; simp), if_neg (by omega)]
  · simp only [show d < j + 1 ↔ d < j by omega]
theorem hU_same {lv : List Bool} {z : Nat} {h : Nat → Nat} {j : Nat} (hb : lv.getD j false = true) : hU lv z h (j + 1) j = z := if_pos ⟨by omega, hb⟩
theorem hU_other {lv : List Bool} {z : Nat} {h : Nat → Nat} {j d : Nat} (e : d ≠ j) : hU lv z h (j + 1) d = hU lv z h j d := by
  unfold hU; simp only [show d < j + 1 ↔ d < j by omega]
theorem hv3_set {lv : List Bool} {z : Nat} {h : Nat → Nat} {j : Nat} (hj : j < 3) (hb : lv.getD j false = true) : (hv3 (hU lv z h j)).setIfInBounds j (.int .i64 (z : Int)) = hv3 (hU lv z h (j + 1)) := by
  unfold hv3
  obtain rfl | rfl | rfl : j = 0 ∨ j = 1 ∨ j = 2 := by omega
  · rw [hU_same hb, hU_other (by omega), hU_other (by omega)]; rfl
  · rw [hU_same hb, hU_other (show 0 ≠ 1 by omega), hU_other (show 2 ≠ 1 by omega)]; rfl
  · rw [hU_same hb, hU_other (show 0 ≠ 2 by omega), hU_other (show 1 ≠ 2 by omega)]; rfl
theorem hv3_cell (h : Nat → Nat) {d : Nat} (hd : d < 3) : (hv3 h)[d]? = some (.int .i64 (h d : Int)) := by
  obtain rfl | rfl | rfl : d = 0 ∨ d = 1 ∨ d = 2 := by omega
  · rfl
  · rfl
  · rfl
section
variable {W w : World} {b : Nat} {H : BH} {N : Bch} {K : List (Nat × Obj)} {gh : Nat} {h : Nat → Nat}
theorem ks_hcell (k : KS W w b H N K [] []) (hm : (gh, Obj.cells (hv3 h) 27 (0, 0)) ∈ K) {d : Nat} (hd : d < 3) : w.cell? ⟨gh, d, none⟩ = some (.int .i64 (h d : Int)) ∧ w.frozen? ⟨gh, d, none⟩ = false := by
  have h1 := (k.kx.kp _ hm).1
  exact ⟨by rw [cell_of_row w gh d _ _ _ h1]; exact hv3_cell h hd, frozen_of_row w gh d _ _ h1⟩
theorem ks_hput {o1 o2 : Nat × Obj} (k : KS W w b H N [o1, (gh, Obj.cells (hv3 h) 27 (0, 0)), o2] [] []) (n1 : o1.1 ≠ gh) (n2 : o2.1 ≠ gh) {d : Nat} {v : Value} {cs : Array Value} (hc : (hv3 h).setIfInBounds d v = cs) : KS W (w.setCell ⟨gh, d, none⟩ v) b H N [o1, (gh, Obj.cells cs 27 (0, 0)), o2] [] [] := by
  have h1 := (k.kx.kp (gh, Obj.cells (hv3 h) 27 (0, 0)) (by simp)).1
  have hg : w.grownBy (w.setCell ⟨gh, d, none⟩ v) (some gh) := ⟨rfl, rfl, rfl, by simp, fun k _ hk => heap_setCell_other w ⟨gh, d, none⟩ k v (fun e => hk (by rw [e]))⟩
  have h2 := heap_setCell_same w gh d _ _ v h1
  rw [hc] at h2
  exact (k.kx.put (K1 := [o1]) (K2 := [o2]) rfl hg h2 (by simp [n1, n2])).ks
end
def datB (zs : List Int) (k : Nat) : List (List UInt8) := sectorsB (zs.drop (min k zs.length)) (1 + k % 3)
theorem datB_len (zs : List Int) (k : Nat) : (datB zs k).length = 1 + k % 3 := sectorsB_len _ _
def Nst (N : Bch) (h : Nat → Nat) (i : Nat) (zs : List Int) : Prop :=
  ∀ d, d < 3 → (h d = 0 ∧ secAt (N.D d).now 6 = List.replicate 32 0) ∨ ∃ k, k < i ∧ h d = k + 1 ∧ Has (N.D d) 1 k (datB zs k)
theorem nst_new (zs : List Int) : Nst (Bch.new 3) (fun _ => 0) 0 zs := fun d _ => .inl ⟨rfl, new_sec6 3 d (by omega)⟩
theorem nst_put {N : Bch} {h : Nat → Nat} {i : Nat} {zs : List Int} (hc : Cl N 3) (hs : Nst N h i zs) (hi : i < 10) (lv : List Bool) : ∃ M, bkS N lv 1 (i : Int) (datB zs i) = (0, M) ∧ Cl M 3 ∧ M.done ≤ N.done + 12 ∧ Nst M (hU lv (i + 1) h 3) (i + 1) zs := by
  have hm : bkMay ((1 : Nat) : Int) (i : Int) = true := (bkMay_iff _ _).2 (by omega)
  obtain ⟨h0, P⟩ := cl_put hc (lv := lv) (bkBad_secs hm (zs.drop (min i zs.length)) (n := 1 + i % 3) (by omega))
  obtain ⟨r, hr⟩ : ∃ r, bkS N lv ((1 : Nat) : Int) (i : Int) (sectorsB (zs.drop (min i zs.length)) (1 + i % 3)) = r := ⟨_, rfl⟩
  rw [hr] at h0 P
  obtain ⟨e', M⟩ := r
  have h0' : e' = 0 := h0
  subst h0'
  have P' : Cp N M 3 lv (bkB 1 i (datB zs i) :: datB zs i) := P
  have hlen := datB_len zs i
  refine ⟨M, hr, P'.cl, ?_, fun d hd => ?_⟩
  · rw [P'.done]
    have h2 : cntTo N lv 3 * ((datB zs i).length + 1) ≤ 3 * 4 := Nat.mul_le_mul (cntTo_le N lv 3) (by omega)
    show N.done + cntTo N lv 3 * ((datB zs i).length + 1) ≤ _
    omega
  · cases hb : lv.getD d false with
    | true => exact .inr ⟨i, by omega, if_pos ⟨hd, hb⟩, P'.has (by omega) hd hb⟩
    | false =>
      have e1 : hU lv (i + 1) h 3 d = h d := if_neg (by rw [hb]; simp)
      rcases hs d hd with ⟨h1, h2⟩ | ⟨k, hk, h1, h2⟩
      · exact .inl ⟨e1.trans h1, (P'.other hd hb 6).trans h2⟩
      · exact .inr ⟨k, by omega, e1.trans h1, has_other h2 (P'.other hd hb)⟩
/-- Has some disk that one? -/
def fnd (h : Nat → Nat) (k : Nat) : Bool := decide (h 0 = k + 1) || (decide (h 1 = k + 1) || decide (h 2 = k + 1))
theorem nst_hit {N : Bch} {h : Nat → Nat} {i : Nat} {zs : List Int} (hc : Cl N 3) (hs : Nst N h i zs) (hi : i ≤ 10) {d k e : Nat} (hd : d < 3) (hk : k < 10) (he : e < 3) : hitB N e k d = (decide (e = 1) && decide (h d = k + 1)) ∧ (hitB N e k d = true → hitL N d = datB zs k) := by
  rcases hs d hd with ⟨h1, h2⟩ | ⟨q, hq, h1, h2⟩
  · have h3 := hit_none h2 e k
    exact ⟨by rw [h3, h1, decide_eq_false (show ¬ 0 = k + 1 by omega), Bool.and_false], fun h => by rw [h3] at h; exact absurd h (by decide)⟩
  · obtain ⟨h3, h4⟩ := hit_has hc h2 (e' := e) (x' := k) (by omega) (by omega) (by omega) (by omega)
    refine ⟨?_, fun h => ?_⟩
    · rw [h3, h1, Bool.decide_and]
      congr 1
      exact decide_eq_decide.2 (by omega)
    · rw [h3, decide_eq_true_iff] at h
      rw [h4, h.2]
theorem nst_get {N : Bch} {h : Nat → Nat} {i : Nat} {zs : List Int} (hc : Cl N 3) (hs : Nst N h i zs) (hi : i ≤ 10) {k : Nat} (hk : k < 10) :
    gotB N [true, true, true] 1 (k : Int) = fnd h k ∧ (fnd h k = true → gotL N [true, true, true] 1 (k : Int) = datB zs k) ∧ gotB N [true, true, true] 2 (k : Int) = false := by
  have hm : bkMay ((1 : Nat) : Int) (k : Int) = true := (bkMay_iff _ _).2 (by omega)
  have hlv : ∀ d, d < 3 → [true, true, true].getD d false = true := fun d hd => by
    obtain rfl | rfl | rfl : d = 0 ∨ d = 1 ∨ d = 2 := by omega
    · rfl
    · rfl
    · rfl
  have hit := fun d (hd : d < 3) => nst_hit hc hs hi (d := d) (k := k) (e := 1) hd hk (by omega)
  have yes : ∀ d, d < 3 → h d = k + 1 → gotB N [true, true, true] ((1 : Nat) : Int) (k : Int) = true ∧ gotL N [true, true, true] ((1 : Nat) : Int) (k : Int) = datB zs k := fun d hd hh =>
    got_yes hm (k := d) (by rw [hc.n]; exact hd) (hlv d hd) (by rw [(hit d hd).1, decide_eq_true hh]; rfl) fun j hj hq => (hit j (by rw [hc.n] at hj; exact hj)).2 hq
  have no2 : gotB N [true, true, true] 2 (k : Int) = false := (got_no fun d hd _ => by
    rw [show (2 : Int).toNat = 2 from rfl, Int.toNat_natCast, (nst_hit hc hs hi (d := d) (k := k) (e := 2) (by rw [hc.n] at hd; exact hd) hk (by omega)).1]; rfl).1
  by_cases f0 : h 0 = k + 1
  · have := yes 0 (by omega) f0
    exact ⟨by unfold fnd; rw [decide_eq_true f0]; exact this.1, fun _ => this.2, no2⟩
  by_cases f1 : h 1 = k + 1
  · have := yes 1 (by omega) f1
    exact ⟨by unfold fnd; rw [decide_eq_false f0, decide_eq_true f1]; exact this.1, fun _ => this.2, no2⟩
  by_cases f2 : h 2 = k + 1
  · have := yes 2 (by omega) f2
    exact ⟨by unfold fnd; rw [decide_eq_false f0, decide_eq_false f1, decide_eq_true f2]; exact this.1, fun _ => this.2, no2⟩
  · have hf : fnd h k = false := by unfold fnd; rw [decide_eq_false f0, decide_eq_false f1, decide_eq_false f2]; rfl
    rw [hf]
    refine ⟨(got_no fun d hd _ => ?_).1, fun h => absurd h (by decide), no2⟩
    have hd3 : d < 3 := by rw [hc.n] at hd; exact hd
    rw [show (1 : Int).toNat = 1 from rfl, Int.toNat_natCast, (hit d hd3).1]
    obtain rfl | rfl | rfl : d = 0 ∨ d = 1 ∨ d = 2 := by omega
    · rw [decide_eq_false f0]; rfl
    · rw [decide_eq_false f1]; rfl
    · rw [decide_eq_false f2]; rfl
end Go.Proofs.YtjnemopocmhfkaaDoor
end
