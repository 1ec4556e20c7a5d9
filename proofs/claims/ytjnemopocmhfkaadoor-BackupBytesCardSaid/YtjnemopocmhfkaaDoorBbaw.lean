/- Texts put together: BakLaw, BakBytes. -/
import Derived.Test.YtjnemopocmhfkaaDoorBbav
import Derived.Test.YtjnemopocmhfkaaDoorBbai
section
set_option maxRecDepth 20000
set_option linter.unusedVariables false
set_option linter.unusedSimpArgs false
namespace Go.Proofs.YtjnemopocmhfkaaDoor
open Go.RowKit

theorem got_no {N : Bch} {lv : List Bool} {e x : Int} (h : ∀ i, i < N.n → lv.getD i false = true → hitB N e.toNat x.toNat i = false) : gotB N lv e x = false ∧ gotL N lv e x = [] := by
  have h1 : getB N lv e.toNat x.toNat N.n = false := by
    rw [Bool.eq_false_iff]
    intro q
    obtain ⟨j, hj, hl, hh⟩ := getB_iff.1 q
    rw [h j hj hl] at hh
    exact absurd hh (by decide)
  unfold gotB gotL
  rw [h1, getL_none h1]
  exact ⟨Bool.and_false _, by split <;> rfl⟩
/-- What some live disk has, and whoever has one has the same. -/
theorem got_yes {N : Bch} {lv : List Bool} {e x : Nat} {ds : List (List UInt8)} (hm : bkMay (e : Int) (x : Int) = true) {k : Nat} (hk : k < N.n) (hl : lv.getD k false = true) (hh : hitB N e x k = true) (hd : ∀ i, i < N.n → hitB N e x i = true → hitL N i = ds) : gotB N lv (e : Int) (x : Int) = true ∧ gotL N lv (e : Int) (x : Int) = ds := by
  have h1 : getB N lv e x N.n = true := getB_iff.2 ⟨k, hk, hl, hh⟩
  obtain ⟨j, hj, _, h3, h4⟩ := getL_of h1
  unfold gotB gotL
  rw [hm, if_pos rfl]
  exact ⟨h1, h4.trans (hd j hj h3)⟩
end Go.Proofs.YtjnemopocmhfkaaDoor
end
section
set_option maxRecDepth 20000
set_option linter.unusedVariables false
set_option linter.unusedSimpArgs false
namespace Go.Proofs.YtjnemopocmhfkaaDoor
open Go.RowKit

def wantB (l : Bool) (hd : List UInt8) (ds : List (List UInt8)) (i : Nat) : List UInt8 := if l = false then List.replicate 32 0 else if i = 0 then hd else ds.getD (i - 1) []
def anyL (lv : List Bool) : Bool := lv.getD 0 false || (lv.getD 1 false || lv.getD 2 false)
theorem anyL_iff (lv : List Bool) : anyL lv = true ↔ ∃ d, d < 3 ∧ lv.getD d false = true := by
  unfold anyL
  simp only [Bool.or_eq_true]
  constructor
  · rintro (h | h | h)
    · exact ⟨0, by omega, h⟩
    · exact ⟨1, by omega, h⟩
    · exact ⟨2, by omega, h⟩
  · rintro ⟨d, hd, h⟩
    obtain rfl | rfl | rfl : d = 0 ∨ d = 1 ∨ d = 2 := by omega
    · exact .inl h
    · exact .inr (.inl h)
    · exact .inr (.inr h)
structure BbG (lv : List Bool) (en xn : Nat) (ds : List (List UInt8)) (M : Bch) : Prop where
  put : bkS (Bch.new 3) lv (en : Int) (xn : Int) ds = (0, M)
  cl : Cl M 3
  rd : ∀ d : Nat, d < 3 → ∀ i : Nat, i ≤ ds.length → M.readE (d : Int) ((6 + i : Nat) : Int) = 0 ∧ M.read (d : Int) ((6 + i : Nat) : Int) = wantB (lv.getD d false) (bkB en xn ds) ds i
  got : gotB M lv (en : Int) (xn : Int) = anyL lv ∧ (anyL lv = true → gotL M lv (en : Int) (xn : Int) = ds)
  oth : ∀ e' : Nat, e' < 65536 → e' ≠ en → gotB M lv (e' : Int) (xn : Int) = false
  thr : ∀ x' : Nat, x' < 256 → x' ≠ xn → gotB M lv (en : Int) (x' : Int) = false
theorem bb_good {en xn : Nat} (hm : bkMay (en : Int) (xn : Int) = true) {ds : List (List UInt8)} (h28 : ds.length ≤ 28) (h32 : ∀ y ∈ ds, y.length = 32) (lv : List Bool) : ∃ M, BbG lv en xn ds M := by
  obtain ⟨h0, P⟩ := cl_put (Cl.new 3) (lv := lv) (bkBad_ok hm h28 h32)
  obtain ⟨r, hr⟩ : ∃ r, bkS (Bch.new 3) lv (en : Int) (xn : Int) ds = r := ⟨_, rfl⟩
  rw [hr] at h0 P
  obtain ⟨e', M⟩ := r
  have h0' : e' = 0 := h0
  subst h0'
  have P' : Cp (Bch.new 3) M 3 lv (bkB en xn ds :: ds) := P
  obtain ⟨m0, m1, m2, m3⟩ := (bkMay_iff _ _).1 hm
  have hn3 := P'.cl.n
  have hL : ∀ d, d < 3 → lv.getD d false = true → Has (M.D d) en xn ds := fun d hd hl => P'.has h28 hd hl
  have hZ : ∀ d, d < 3 → lv.getD d false = false → secAt (M.D d).now 6 = List.replicate 32 0 := fun d hd hl => (P'.other hd hl 6).trans (new_sec6 3 d (by omega))
  have hit : ∀ d, d < 3 → ∀ e x : Nat, e < 65536 → x < 256 → hitB M e x d = (lv.getD d false && decide (e = en ∧ x = xn)) := fun d hd e x he hx => by
    cases hl : lv.getD d false with
    | true => rw [(hit_has P'.cl (hL d hd hl) (by omega) he (by omega) hx).1]; rfl
    | false => rw [hit_none (hZ d hd hl)]; rfl
  refine ⟨M, hr, P'.cl, fun d hd i hi => ?_, ?_, fun e he hne => ?_, fun x hx hne => ?_⟩
  · obtain ⟨a, b⟩ := Bch.read_ok (N := M) (d := d) (k := 6 + i) (by omega) (by omega) (P'.cl.f d) P'.cl.dn
    refine ⟨a, b.trans ?_⟩
    unfold wantB
    cases hl : lv.getD d false with
    | false => rw [if_pos rfl, P'.other hd hl]; exact new_sec6 3 d (by omega)
    | true =>
      rw [if_neg (by decide), P'.sec d hd, if_pos ⟨hl, by omega, by show 6 + i < 6 + (ds.length + 1); omega⟩, show 6 + i - 6 = i by omega]
      by_cases h : i = 0
      · rw [if_pos h, h]; rfl
      · obtain ⟨j, rfl⟩ : ∃ j, i = j + 1 := ⟨i - 1, by omega⟩
        rw [if_neg h]; rfl
  · cases ha : anyL lv with
    | true =>
      obtain ⟨d, hd, hl⟩ := (anyL_iff lv).1 ha
      have := got_yes hm (N := M) (lv := lv) (ds := ds) (k := d) (by omega) hl (by rw [hit d hd en xn (by omega) (by omega), hl]; simp) fun i hi hh => by
        have hi3 : i < 3 := by omega
        rw [hit i hi3 en xn (by omega) (by omega), Bool.and_eq_true] at hh
        exact (hit_has P'.cl (hL i hi3 hh.1) (e' := en) (x' := xn) (by omega) (by omega) (by omega) (by omega)).2
      exact ⟨this.1, fun _ => this.2⟩
    | false =>
      refine ⟨(got_no fun i hi hl => ?_).1, fun h => absurd h (by decide)⟩
      exact absurd ((anyL_iff lv).2 ⟨i, by omega, hl⟩) (by rw [ha]; decide)
  · refine (got_no fun i hi hl => ?_).1
    rw [Int.toNat_natCast, Int.toNat_natCast, hit i (by omega) e xn he (by omega), decide_eq_false (fun h => hne h.1), Bool.and_false]
  · refine (got_no fun i hi hl => ?_).1
    rw [Int.toNat_natCast, Int.toNat_natCast, hit i (by omega) en x (by omega) hx, decide_eq_false (fun h => hne h.2), Bool.and_false]
end Go.Proofs.YtjnemopocmhfkaaDoor
end
