/- Texts put together: StpLawKit, StpOneMath, StripeErrorsLoop, StpLost. -/
import Derived.Test.YtenkkdnepmoihaaUpbd
import Derived.Test.YtenkkdnepmoihaaUpba
import Derived.Test.YtenkkdnepmoihaaUpbc
import Derived.Test.YtenkkdnepmoihaaUpal
import Derived.Test.YtenkkdnepmoihaaUpay
import Derived.Test.YtenkkdnepmoihaaUpaj
import Derived.Test.YtenkkdnepmoihaaUpab
section
set_option maxRecDepth 20000
set_option linter.unusedVariables false
set_option linter.unusedSimpArgs false
namespace Go.Proofs.Ytenkkdnepmoihaa
open Go.RowKit

section
variable {W w w' : World} {b : Nat} {H : BH} {N : Bch} {K : List (Nat × Obj)} {R : List (Option Addr × List (List UInt8))} {S : List (Option Addr × List UInt8)}
/-- A block that was made since. -/
theorem KS.block (h : KS W w b H N K R S) (hb : Below w.heap.size w w') {g : Nat} {o : Obj} (hg : w'.heap[g]? = some o) (hw : w.heap.size ≤ g) : KS W w' b H N ((g, o) :: K) R S := by
  have h' := h.below hb
  refine ⟨⟨h'.bp, fun p hp => ?_⟩, h'.rx, h'.sx⟩
  rcases List.mem_cons.1 hp with rfl | hp
  · exact ⟨hg, fun e => by have := h.flt _ e; omega, by have := h.bp.bel.size; omega⟩
  · exact h'.kx.kp p hp
theorem KS.rdz (h : KS W w b H N K R S) {A : Option Addr} {zs : List Int} (hz : RdZ W W.heap.size A zs) : RdZ w w.heap.size A zs := (hz.below h.bp.bel (Nat.le_refl _)).keep h.bp.bel.size fun _ _ => rfl
end
section
variable {W w : World} {b : Nat} {H : BH} {N : Bch} {K : List (Nat × Obj)} {R : List (Option Addr × List (List UInt8))} {S : List (Option Addr × List UInt8)} (h : KS W w b H N K R S)
include h
theorem ks_live (n : Int) (d : Nat) (hn : (-9223372036854775808 ≤ n ∧ n ≤ 9223372036854775807)) (hd : 1 ≤ d ∧ d ≤ 8) :
    Calls Try.prog 6 #[.int .i64 n, .int .i64 (d : Int)] w fun e w' => ∃ g, e = .returned (.slice (some ⟨g, 0, none⟩) d d) ∧ KS W w' b H N ((g, Obj.cells ((liveL n d).map Value.bool).toArray 4 (0, 0)) :: K) R S := by
  refine (live_any n d w hn hd).mono ?_
  rintro e w' ⟨g, rfl, hg, hw, hb⟩
  exact ⟨g, rfl, h.block hb hg hw⟩
end
/-- A filled bench, beside the box of its geometry. -/
theorem filled_open {n l c r : Int} {D F Wd : Nat} (gr : Gr n l c r D F Wd) (m : Nat) (hD : D ≤ m) (hm : m ≤ 8) {A : Option Addr} {zs : List Int} (k cp : Nat) {W w1 : World} (hb : Below W.heap.size W w1) (hk : k = zs.length) (hcp : zs.length ≤ cp) (hz : RdZ W W.heap.size A zs) :
    Calls Try.prog 5 #[.agg #[.int .i64 l, .int .i64 (D : Int), .int .i64 c], .int .i64 (m : Int), .slice A k cp] (w1.alloc (.cells #[.int .i64 l, .int .i64 (D : Int), .int .i64 c] 24)) fun e w' => ∃ b H N, e = .returned (.pointer (some ⟨b, 0, none⟩)) ∧ KS W w' b H N [(w1.heap.size, Obj.cells #[.int .i64 l, .int .i64 (D : Int), .int .i64 c] 24 (0, 0))] [] [] ∧ Fld N m D (rowL l c D Wd zs) 16 0 := by
  have hb1 := hb.alloc hb.size (.cells #[.int .i64 l, .int .i64 (D : Int), .int .i64 c] 24)
  refine (stpFilled_any gr m hD hm A zs k cp _ hk hcp ((hz.below hb1 (Nat.le_refl _)).keep hb1.size fun _ _ => rfl)).mono ?_
  rintro e w' ⟨b, H, N, rfl, k, f⟩
  exact ⟨b, H, N, rfl, k.open hb1 (hp_new _ _ _ rfl) hb.size, f⟩
end Go.Proofs.Ytenkkdnepmoihaa
end
section
set_option linter.unusedVariables false
set_option linter.unusedSimpArgs false
namespace Go.Proofs.Ytenkkdnepmoihaa
open Go.RowKit

/-- Where the number of a row's data chunk is. -/
theorem num_place {n l c : Int} {ρ D F W k : Nat} (gr : Gr n l c (ρ : Int) D F W) (hk : k < W) : plOfOk l (D : Int) c (plN l (D : Int) c (ρ : Int) (k : Int)) = true ∧ plOfD l (D : Int) c (plN l (D : Int) c (ρ : Int) (k : Int)) = ((roS D F k : Nat) : Int) ∧ plOfR l (D : Int) c (plN l (D : Int) c (ρ : Int) (k : Int)) = (ρ : Int) ∧ kOf l (D : Int) c (plN l (D : Int) c (ρ : Int) (k : Int)) = k := by
  have hg := (plOk_yes gr.ok).1
  have hwd := gr.wd
  have hw : gWid l (D : Int) c = (D : Int) - (l - 4) := gWid_yes hg
  have hd := plDok_mk (k := (k : Int)) gr.ok (by omega) (by omega)
  obtain ⟨h1, h2, h3⟩ := of_num hd
  have hp := gr.R.pD k (by rw [gr.eW]; exact hk)
  rw [gr.eD, gr.eF] at hp
  refine ⟨h1, h2.trans hp, h3, ?_⟩
  have := (num_row hd).2.2.2
  unfold kOf
  rw [this]; omega
theorem row_setCell {w : World} {b k : Nat} {cur : Array Value} {u : Value} {t : TypeId} (h : w.heap[b]? = some (.cells cur t (0, 0))) : (w.setCell ⟨b, k, none⟩ u).heap[b]? = some (.cells (cur.setIfInBounds k u) t (0, 0)) := by
  obtain ⟨hlt, hb⟩ := Array.getElem?_eq_some_iff.1 h
  show (w.heap.modify b _)[b]? = _
  rw [Array.getElem?_eq_getElem (by simpa using hlt), Array.getElem_modify_self, hb]
  rfl
theorem row_frozen {w : World} {b k : Nat} {cur : Array Value} {t : TypeId} (h : w.heap[b]? = some (.cells cur t (0, 0))) : w.frozen? ⟨b, k, none⟩ = false := by
  simp [World.frozen?, h]
theorem lv_setCell {w : World} {g d : Nat} {lv : List Bool} {t : TypeId} (h : w.heap[g]? = some (.cells (lv.map Value.bool).toArray t (0, 0))) (hd : d < lv.length) (v : Bool) : w.cell? ⟨g, d, none⟩ = some (.bool (lv.getD d false)) ∧ w.frozen? ⟨g, d, none⟩ = false ∧ (w.setCell ⟨g, d, none⟩ (.bool v)).heap[g]? = some (.cells ((lv.set d v).map Value.bool).toArray t (0, 0)) ∧ w.grownBy (w.setCell ⟨g, d, none⟩ (.bool v)) (some g) := by
  refine ⟨?_, row_frozen h, ?_, ⟨rfl, rfl, rfl, by simp, fun k _ hne => Below.heap_setCell w _ _ k (fun e => hne (by rw [e]))⟩⟩
  · rw [cell_of_row w g d _ t _ h, List.getElem?_toArray, List.getElem?_map, List.getElem?_eq_getElem hd]
    simp [List.getD_eq_getElem?_getD, hd]
  · rw [row_setCell h, List.setIfInBounds_toArray, List.map_set]
end Go.Proofs.Ytenkkdnepmoihaa
end
section
set_option linter.unusedVariables false
set_option linter.unusedSimpArgs false
namespace Go.Proofs.Ytenkkdnepmoihaa
open Go.RowKit

section
variable {W w : World} {b : Nat} {H : BH} {N : Bch} {K : List (Nat × Obj)} {R : List (Option Addr × List (List UInt8))} {S : List (Option Addr × List UInt8)} (h : KS W w b H N K R S)
include h
end
end Go.Proofs.Ytenkkdnepmoihaa
end
section
set_option maxRecDepth 20000
set_option linter.unusedVariables false
set_option linter.unusedSimpArgs false
namespace Go.Proofs.Ytenkkdnepmoihaa
open Go.RowKit

/-- The numbers of the first k disks that do not serve. -/
def gonL (N : Bch) (lv : List Bool) : Nat → List Int
  | 0 => []
  | k + 1 => if srvD N lv k = false then (k : Int) :: gonL N lv k else gonL N lv k
theorem gonL_mem {N : Bch} {lv : List Bool} {x : Int} : ∀ {k : Nat}, x ∈ gonL N lv k ↔ ∃ j : Nat, j < k ∧ x = (j : Int) ∧ srvD N lv j = false
  | 0 => by simp [gonL]
  | k + 1 => by
    have ih := gonL_mem (N := N) (lv := lv) (x := x) (k := k)
    unfold gonL
    by_cases h : srvD N lv k = false
    · rw [if_pos h, List.mem_cons, ih]
      constructor
      · rintro (rfl | ⟨j, h1, h2⟩)
        · exact ⟨k, by omega, rfl, h⟩
        · exact ⟨j, by omega, h2⟩
      · rintro ⟨j, h1, h2, h3⟩
        by_cases e : j = k
        · subst e; exact .inl h2
        · exact .inr ⟨j, by omega, h2, h3⟩
    · rw [if_neg h, ih]
      constructor
      · rintro ⟨j, h1, h2⟩
        exact ⟨j, by omega, h2⟩
      · rintro ⟨j, h1, h2, h3⟩
        by_cases e : j = k
        · subst e; exact absurd h3 h
        · exact ⟨j, by omega, h2, h3⟩
theorem gonL_has {N : Bch} {lv : List Bool} {k d : Nat} (h : d < k) : decide ((d : Int) ∈ gonL N lv k) = !srvD N lv d := by
  cases hs : srvD N lv d with
  | false => exact decide_eq_true (gonL_mem.2 ⟨d, h, rfl, hs⟩)
  | true =>
    refine decide_eq_false fun e => ?_
    obtain ⟨j, _, h2, h3⟩ := gonL_mem.1 e
    obtain rfl : d = j := by omega
    rw [hs] at h3; cases h3
/-- A disk of parity. -/
def parB (l d c r : Int) (i : Nat) : Bool := ((i : Int) == plP l d c r) || ((i : Int) == plQ l d c r)
def canN (l d c r : Int) (D : Nat) (g : Nat → Bool) : Bool := decide (cntB D (fun i => g i && !parB l d c r i) ≤ cntB D (fun i => parB l d c r i && !g i))
end Go.Proofs.Ytenkkdnepmoihaa
end
