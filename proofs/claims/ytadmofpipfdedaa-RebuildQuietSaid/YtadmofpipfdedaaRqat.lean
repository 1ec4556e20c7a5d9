/- Texts put together: RowKit, StpMath, RowLost, BchDown. -/
import Derived.Test.YtadmofpipfdedaaRqar
import Derived.Test.YtadmofpipfdedaaRqah
import Derived.Test.YtadmofpipfdedaaRqab
import Derived.Test.YtadmofpipfdedaaRqaa
import Derived.Carry
import Derived.Test.YtadmofpipfdedaaRqai
import Derived.Test.YtadmofpipfdedaaRqaq
import Derived.Test.YtadmofpipfdedaaRqak
section
set_option maxRecDepth 8000
set_option linter.unusedVariables false
set_option linter.unusedSimpArgs false
namespace Go.Proofs.Ytadmofpipfdedaa
open Go.RowKit

/-- Fill of what may be filled. -/
theorem fill_good {A : Option Addr} {rs : List (List UInt8)} {n cp D F : Nat} {l d c r : Int} {w : World} (hrd : RdR w w.heap.size A rs) (hn : rs.length = n) (hT : fillOk l d c r rs = true) (hD : roD d = D) (hF : roF l d c r = F)
    (hl : -9223372036854775808 ≤ l ∧ l ≤ 9223372036854775807) (hd : -9223372036854775808 ≤ d ∧ d ≤ 9223372036854775807) (hc : -9223372036854775808 ≤ c ∧ c ≤ 9223372036854775807) (hr : -9223372036854775808 ≤ r ∧ r ≤ 9223372036854775807) :
    Calls Try.prog 72 #[.agg #[.int .i64 l, .int .i64 d, .int .i64 c], .int .i64 r, .slice A n cp] w fun e w' => ∃ g xs, e = .returned (.tuple #[.slice (some ⟨g, 0, none⟩) D D, .bool true]) ∧ Rq w.heap.size w' g D D xs (fillL D F rs) ∧ Below w.heap.size w w' := by
  subst hD hF
  refine (fill_yes A rs n cp l d c r w hn hrd hT hl hd hc hr).mono ?_
  rintro e w' ⟨g, xs, he, hq, hb⟩
  rw [fillL_len] at he hq
  exact ⟨g, xs, he, hq, hb⟩
/-- Sectors that are made, as they are read. -/
theorem sectors_rd {A : Option Addr} {zs : List Int} {m cp n : Nat} {w : World} (hm : m = zs.length) (hr : RdZ w w.heap.size A zs) (hn : n ≤ 8) :
    Calls Try.prog 37 #[.slice A m cp, .int .i64 (n : Int)] w fun e w' => ∃ A' c', e = .returned (.slice A' n c') ∧ OwV w.heap.size w' (.slice A' n c') (sectorsB zs n) ∧ RdR w' w'.heap.size A' (sectorsB zs n) ∧ Below w.heap.size w w' :=
  (sectors_any A zs m cp n w hm hr hn).mono fun _ _ ⟨v, he, ho, hb⟩ => by
    obtain ⟨A', c', rfl, _, hrd⟩ := ho.rd (by rw [sectorsB_len]; omega)
    rw [sectorsB_len] at he ho
    exact ⟨A', c', he, ho, hrd, hb⟩
/-- A good geometry, a row of it: what stands where. -/
structure Gr (n : Int) (l c r : Int) (D F W : Nat) : Prop where
  ok : plOk l (D : Int) c r = true
  R : Ro l (D : Int) c r
  eD : roD (D : Int) = D
  eF : roF l (D : Int) c r = F
  eW : roW l (D : Int) = W
  hF : F < D
  hW : W < D
  w1 : 1 ≤ W
  w7 : W ≤ 7
  d8 : D ≤ 8
  d3 : 3 ≤ D
  lv : (l = 5 ∧ D = W + 1) ∨ (l = 6 ∧ D = W + 2)
  wd : gWid l (D : Int) c = (W : Int)
  l64 : -9223372036854775808 ≤ l ∧ l ≤ 9223372036854775807
  d64 : -9223372036854775808 ≤ (D : Int) ∧ (D : Int) ≤ 9223372036854775807
  c64 : -9223372036854775808 ≤ c ∧ c ≤ 9223372036854775807
  r64 : -9223372036854775808 ≤ r ∧ r ≤ 9223372036854775807
  r0 : 0 ≤ r ∧ r < 16
section
variable {n l c r : Int} {D F W : Nat}
theorem Gr.fok (h : Gr n l c r D F W) {rs : List (List UInt8)} (hl : rs.length = W) (ha : ∀ x ∈ rs, x.length = 32) : fillOk l (D : Int) c r rs = true := fillOk_mk h.ok (by rw [h.eW]; exact hl) ha
theorem Gr.fill (h : Gr n l c r D F W) {A : Option Addr} {rs : List (List UInt8)} {cp : Nat} {w : World} (hrd : RdR w w.heap.size A rs) (hl : rs.length = W) (ha : ∀ x ∈ rs, x.length = 32) :
    Calls Try.prog 72 #[.agg #[.int .i64 l, .int .i64 (D : Int), .int .i64 c], .int .i64 r, .slice A W cp] w fun e w' => ∃ g xs, e = .returned (.tuple #[.slice (some ⟨g, 0, none⟩) D D, .bool true]) ∧ Rq w.heap.size w' g D D xs (fillL D F rs) ∧ Below w.heap.size w w' :=
  fill_good hrd hl (h.fok hl ha) h.eD h.eF h.l64 h.d64 h.c64 h.r64
theorem Gr.fills (h : Gr n l c r D F W) {rs : List (List UInt8)} (hl : rs.length = W) (ha : ∀ x ∈ rs, x.length = 32) {i : Nat} (hi : i < D) : ((fillL D F rs).getD i []).length = 32 := by
  have := fill_32 (h.fok hl ha) (i := i) (by rw [h.eD]; exact hi)
  rwa [h.eD, h.eF] at this
end
end Go.Proofs.Ytadmofpipfdedaa
end
section
set_option linter.unusedVariables false
set_option linter.unusedSimpArgs false
namespace Go.Proofs.Ytadmofpipfdedaa

/-- A disk of the bench that is live; and has not failed. -/
def livD (N : Bch) (lv : List Bool) (i : Nat) : Bool := decide (i < N.n) && lv.getD i false
def srvD (N : Bch) (lv : List Bool) (i : Nat) : Bool := livD N lv i && !(N.D i).f
theorem srvD_yes {N : Bch} {lv : List Bool} {i : Nat} (h : srvD N lv i = true) : i < N.n ∧ lv.getD i false = true ∧ (N.D i).f = false := by
  unfold srvD livD at h
  simp only [Bool.and_eq_true, decide_eq_true_eq, Bool.not_eq_true'] at h
  exact ⟨h.1.1, h.1.2, h.2⟩
theorem srvD_mk {N : Bch} {lv : List Bool} {i : Nat} (h1 : i < N.n) (h2 : lv.getD i false = true) (h3 : (N.D i).f = false) : srvD N lv i = true := by
  unfold srvD livD; rw [h2, h3, decide_eq_true h1]; rfl
theorem srvD_no {N : Bch} {lv : List Bool} {i : Nat} (h : ¬ (i < N.n ∧ lv.getD i false = true ∧ (N.D i).f = false)) : srvD N lv i = false := by
  cases e : srvD N lv i with
  | false => rfl
  | true => exact absurd (srvD_yes e) h
theorem srvD_congr {N M : Bch} {lv : List Bool} {i : Nat} (hn : M.n = N.n) (hf : (M.D i).f = (N.D i).f) : srvD M lv i = srvD N lv i := by unfold srvD livD; rw [hn, hf]
/-- The sectors of a row, as far as disk k was asked. -/
def ssTo (N : Bch) (lv : List Bool) (a D k : Nat) : List (List UInt8) := (List.range D).map fun i => if i < k ∧ srvD N lv i = true then secAt (N.D i).now a else []
def ssL (N : Bch) (lv : List Bool) (a D : Nat) : List (List UInt8) := ssTo N lv a D D
theorem ssTo_len (N : Bch) (lv : List Bool) (a D k : Nat) : (ssTo N lv a D k).length = D := by simp [ssTo]
theorem ssL_len (N : Bch) (lv : List Bool) (a D : Nat) : (ssL N lv a D).length = D := ssTo_len _ _ _ _ _
theorem ssTo_get {N : Bch} {lv : List Bool} {a D k i : Nat} (hi : i < D) : (ssTo N lv a D k).getD i [] = if i < k ∧ srvD N lv i = true then secAt (N.D i).now a else [] := by
  simp [ssTo, List.getD_eq_getElem?_getD, hi]
theorem ssL_get {N : Bch} {lv : List Bool} {a D i : Nat} (hi : i < D) : (ssL N lv a D).getD i [] = if srvD N lv i = true then secAt (N.D i).now a else [] := by
  unfold ssL; rw [ssTo_get hi]; simp only [hi, true_and]
theorem ssTo_zero (N : Bch) (lv : List Bool) (a D : Nat) : ssTo N lv a D 0 = List.replicate D [] := by
  apply List.ext_getElem (by simp [ssTo])
  intro i h1 h2
  simp [ssTo]
theorem ssTo_skip {N : Bch} {lv : List Bool} {a D k : Nat} (hs : srvD N lv k = false) : ssTo N lv a D (k + 1) = ssTo N lv a D k := ext_getD (by rw [ssTo_len, ssTo_len]) fun i hi => by
  rw [ssTo_len] at hi
  rw [ssTo_get hi, ssTo_get hi]
  by_cases e : i = k
  · subst e; rw [if_neg (by rw [hs]; simp), if_neg (by omega)]
  · by_cases h : i < k
    · simp only [h, show i < k + 1 by omega]
    · rw [if_neg (by omega), if_neg (by omega)]
theorem ssTo_goes {N : Bch} {lv : List Bool} {a D k : Nat} (hk : k < D) (hs : srvD N lv k = true) : (ssTo N lv a D k).set k (secAt (N.D k).now a) = ssTo N lv a D (k + 1) := ext_getD (by rw [List.length_set, ssTo_len, ssTo_len]) fun i hi => by
  rw [List.length_set, ssTo_len] at hi
  rw [ssTo_get hi]
  by_cases e : k = i
  · subst e
    rw [getD_set_same (by rw [ssTo_len]; exact hi), if_pos ⟨by omega, hs⟩]
  · rw [getD_set_other e, ssTo_get hi]
    by_cases h : i < k
    · simp only [h, show i < k + 1 by omega]
    · rw [if_neg (by omega), if_neg (by omega)]
/-- What Read tells. -/
def anyS (N : Bch) (lv : List Bool) (k : Nat) : Bool := (List.range k).any (srvD N lv)
theorem anyS_no {N : Bch} {lv : List Bool} {k : Nat} (h : ∀ i, i < k → srvD N lv i = false) : anyS N lv k = false := by
  unfold anyS
  rw [List.any_eq_false]
  intro i hi
  simp [h i (List.mem_range.1 hi)]
theorem anyS_yes {N : Bch} {lv : List Bool} {k i : Nat} (hi : i < k) (h : srvD N lv i = true) : anyS N lv k = true := by
  unfold anyS
  rw [List.any_eq_true]
  exact ⟨i, List.mem_range.2 hi, h⟩
def srdE (N : Bch) (lv : List Bool) (l d c r : Int) : Int :=
  if plOk l d c r = false then 1 else if N.down = true ∧ anyS N lv (roD d) = true then 6 else if (roTake l d c r (ssL N lv (36 + r.toNat) (roD d))).isSome = true then 0 else 7
def srdL (N : Bch) (lv : List Bool) (l d c r : Int) : List (List UInt8) := if srdE N lv l d c r = 0 then (roTake l d c r (ssL N lv (36 + r.toNat) (roD d))).getD [] else []
theorem srdE_bad {N : Bch} {lv : List Bool} {l d c r : Int} (h : plOk l d c r = false) : srdE N lv l d c r = 1 ∧ srdL N lv l d c r = [] := by
  have e : srdE N lv l d c r = 1 := if_pos h
  exact ⟨e, by unfold srdL; rw [e]; rfl⟩
theorem srdE_down {N : Bch} {lv : List Bool} {l d c r : Int} (h : plOk l d c r = true) (hd : N.down = true) (ha : anyS N lv (roD d) = true) : srdE N lv l d c r = 6 ∧ srdL N lv l d c r = [] := by
  have e : srdE N lv l d c r = 6 := by unfold srdE; rw [if_neg (by simp [h]), if_pos ⟨hd, ha⟩]
  exact ⟨e, by unfold srdL; rw [e]; rfl⟩
theorem srdE_lost {N : Bch} {lv : List Bool} {l d c r : Int} (h : plOk l d c r = true) (hd : N.down = false ∨ anyS N lv (roD d) = false) (ht : roTake l d c r (ssL N lv (36 + r.toNat) (roD d)) = none) : srdE N lv l d c r = 7 ∧ srdL N lv l d c r = [] := by
  have e : srdE N lv l d c r = 7 := by
    unfold srdE; rw [if_neg (by simp [h]), if_neg, ht]; rfl
    rintro ⟨h1, h2⟩
    rcases hd with e | e
    · rw [e] at h1; cases h1
    · rw [e] at h2; cases h2
  exact ⟨e, by unfold srdL; rw [e]; rfl⟩
theorem srdE_ok {N : Bch} {lv : List Bool} {l d c r : Int} {rs : List (List UInt8)} (h : plOk l d c r = true) (hd : N.down = false ∨ anyS N lv (roD d) = false) (ht : roTake l d c r (ssL N lv (36 + r.toNat) (roD d)) = some rs) : srdE N lv l d c r = 0 ∧ srdL N lv l d c r = rs := by
  have e : srdE N lv l d c r = 0 := by
    unfold srdE; rw [if_neg (by simp [h]), if_neg, ht]; rfl
    rintro ⟨h1, h2⟩
    rcases hd with e | e
    · rw [e] at h1; cases h1
    · rw [e] at h2; cases h2
  exact ⟨e, by unfold srdL; rw [if_pos e, ht]; rfl⟩
section
variable {lv : List Bool} {a : Nat} {xs : List (List UInt8)} {N : Bch}
end
end Go.Proofs.Ytadmofpipfdedaa
end
section
set_option linter.unusedVariables false
set_option linter.unusedSimpArgs false
namespace Go.Proofs.Ytadmofpipfdedaa
open Go.RowKit

end Go.Proofs.Ytadmofpipfdedaa
end
section
namespace Go.Proofs.Ytadmofpipfdedaa
open Go.RowKit

section
variable (B b : Nat) (H : BH) (N : Bch) (w : World) (h : BAt w B b H N)
include h
theorem bch_down_any : Calls Try.prog 19 #[ptr b] w fun e w' => e = .returned (.bool N.down) ∧ w' = w := by
  have hc := h.cell 2 _ rfl
  clear h
  unfold ptr
  go_enter Try.func19, Try.ntmps19
  go_wp2
  go_ret
  exact ⟨rfl, rfl⟩
end
end Go.Proofs.Ytadmofpipfdedaa
end
