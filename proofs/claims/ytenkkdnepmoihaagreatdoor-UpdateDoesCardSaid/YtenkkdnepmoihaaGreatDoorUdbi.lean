/- Texts put together: StpLawKit, StpOneMath, StripeErrorsLoop. -/
import Derived.Test.YtenkkdnepmoihaaGreatDoorUdbg
import Derived.Test.YtenkkdnepmoihaaGreatDoorUdbb
import Derived.Test.YtenkkdnepmoihaaGreatDoorUdbf
import Derived.Test.YtenkkdnepmoihaaGreatDoorUdbc
import Derived.Test.YtenkkdnepmoihaaGreatDoorUdam
import Derived.Test.YtenkkdnepmoihaaGreatDoorUdaz
section
set_option maxRecDepth 20000
set_option linter.unusedVariables false
set_option linter.unusedSimpArgs false
namespace Go.Proofs.YtenkkdnepmoihaaGreatDoor
open Go.RowKit

section
variable {W w w' : World} {b : Nat} {H : BH} {N : Bch} {K : List (Nat × Obj)} {R : List (Option Addr × List (List UInt8))} {S : List (Option Addr × List UInt8)}
/-- A block that was made since. -/
theorem KS.block (h : KS W w b H N K R S) (hb : Below w.heap.size w w') {g : Nat} {o : Obj} (hg : w'.heap[g]? = some o) (hw : w.heap.size ≤ g) : KS W w' b H N ((g, o) :: K) R S := by
  have h' := h.below hb
  refine ⟨⟨h'.bp, fun p hp => ?_⟩, h'.rx, h'.sx⟩
  rcases List.mem_cons.1 hp with rfl | hp
  · exact ⟨hg, fun e => by have := h.flt _ e; omega, by have := h.bp.bel.size; omega⟩
  · exact h'.kx.kp p hp
theorem KS.rdz (h : KS W w b H N K R S) {A : Option Addr} {zs : List Int} (hz : RdZ W W.heap.size A zs) : RdZ w w.heap.size A zs := (hz.below h.bp.bel (Nat.le_refl _)).keep h.bp.bel.size fun _ _ => rfl
end
section
variable {W w : World} {b : Nat} {H : BH} {N : Bch} {K : List (Nat × Obj)} {R : List (Option Addr × List (List UInt8))} {S : List (Option Addr × List UInt8)} (h : KS W w b H N K R S)
include h
theorem ks_live (n : Int) (d : Nat) (hn : (-9223372036854775808 ≤ n ∧ n ≤ 9223372036854775807)) (hd : 1 ≤ d ∧ d ≤ 8) :
    Calls Tryz.prog 9 #[.int .i64 n, .int .i64 (d : Int)] w fun e w' => ∃ g, e = .returned (.slice (some ⟨g, 0, none⟩) d d) ∧ KS W w' b H N ((g, Obj.cells ((liveL n d).map Value.bool).toArray 4 (0, 0)) :: K) R S := by
  refine (live_any n d w hn hd).mono ?_
  rintro e w' ⟨g, rfl, hg, hw, hb⟩
  exact ⟨g, rfl, h.block hb hg hw⟩
end
/-- A filled bench, beside the box of its geometry. -/
theorem filled_open {n l c r : Int} {D F Wd : Nat} (gr : Gr n l c r D F Wd) (m : Nat) (hD : D ≤ m) (hm : m ≤ 8) {A : Option Addr} {zs : List Int} (k cp : Nat) {W w1 : World} (hb : Below W.heap.size W w1) (hk : k = zs.length) (hcp : zs.length ≤ cp) (hz : RdZ W W.heap.size A zs) :
    Calls Tryz.prog 8 #[.agg #[.int .i64 l, .int .i64 (D : Int), .int .i64 c], .int .i64 (m : Int), .slice A k cp] (w1.alloc (.cells #[.int .i64 l, .int .i64 (D : Int), .int .i64 c] 24)) fun e w' => ∃ b H N, e = .returned (.pointer (some ⟨b, 0, none⟩)) ∧ KS W w' b H N [(w1.heap.size, Obj.cells #[.int .i64 l, .int .i64 (D : Int), .int .i64 c] 24 (0, 0))] [] [] ∧ Fld N m D (rowL l c D Wd zs) 16 0 := by
  have hb1 := hb.alloc hb.size (.cells #[.int .i64 l, .int .i64 (D : Int), .int .i64 c] 24)
  refine (stpFilled_any gr m hD hm A zs k cp _ hk hcp ((hz.below hb1 (Nat.le_refl _)).keep hb1.size fun _ _ => rfl)).mono ?_
  rintro e w' ⟨b, H, N, rfl, k, f⟩
  exact ⟨b, H, N, rfl, k.open hb1 (hp_new _ _ _ rfl) hb.size, f⟩
theorem live0 {d i : Nat} (hi : i < d) : (liveL 0 d).getD i false = true := by
  rw [liveL_get 0 hi]
  unfold liveB
  rw [if_neg, if_neg]
  · rintro ⟨h, _⟩; revert h; decide
  · rintro ⟨h, _⟩; revert h; decide
end Go.Proofs.YtenkkdnepmoihaaGreatDoor
end
section
set_option linter.unusedVariables false
set_option linter.unusedSimpArgs false
namespace Go.Proofs.YtenkkdnepmoihaaGreatDoor
open Go.RowKit

/-- Where the number of a row's data chunk is. -/
theorem num_place {n l c : Int} {ρ D F W k : Nat} (gr : Gr n l c (ρ : Int) D F W) (hk : k < W) : plOfOk l (D : Int) c (plN l (D : Int) c (ρ : Int) (k : Int)) = true ∧ plOfD l (D : Int) c (plN l (D : Int) c (ρ : Int) (k : Int)) = ((roS D F k : Nat) : Int) ∧ plOfR l (D : Int) c (plN l (D : Int) c (ρ : Int) (k : Int)) = (ρ : Int) ∧ kOf l (D : Int) c (plN l (D : Int) c (ρ : Int) (k : Int)) = k := by
  have hg := (plOk_yes gr.ok).1
  have hwd := gr.wd
  have hw : gWid l (D : Int) c = (D : Int) - (l - 4) := gWid_yes hg
  have hd := plDok_mk (k := (k : Int)) gr.ok (by omega) (by omega)
  obtain ⟨h1, h2, h3⟩ := of_num hd
  have hp := gr.R.pD k (by rw [gr.eW]; exact hk)
  rw [gr.eD, gr.eF] at hp
  refine ⟨h1, h2.trans hp, h3, ?_⟩
  have := (num_row hd).2.2.2
  unfold kOf
  rw [this]; omega
theorem one_own {N : Bch} {lv : List Bool} {n l c : Int} {ρ D F W k : Nat} (gr : Gr n l c (ρ : Int) D F W) (hk : k < W) (hd : N.down = false) (hs : srvD N lv (roS D F k) = true) : soneE N lv l (D : Int) c (plN l (D : Int) c (ρ : Int) (k : Int)) = 0 ∧ soneB N lv l (D : Int) c (plN l (D : Int) c (ρ : Int) (k : Int)) = secAt (N.D (roS D F k)).now (36 + ρ) := by
  obtain ⟨h1, h2, h3, _⟩ := num_place gr hk
  have h := soneE_own (N := N) (lv := lv) h1 (by rw [h2]; exact hs)
  rw [hd, h2, h3] at h
  exact h
theorem one_row {N : Bch} {lv : List Bool} {n l c : Int} {ρ D F W k : Nat} (gr : Gr n l c (ρ : Int) D F W) (hk : k < W) (hs : srvD N lv (roS D F k) = false) : soneE N lv l (D : Int) c (plN l (D : Int) c (ρ : Int) (k : Int)) = srdE N lv l (D : Int) c (ρ : Int) ∧ soneB N lv l (D : Int) c (plN l (D : Int) c (ρ : Int) (k : Int)) = if srdE N lv l (D : Int) c (ρ : Int) ≠ 0 then [] else (srdL N lv l (D : Int) c (ρ : Int)).getD k [] := by
  obtain ⟨h1, h2, h3, h4⟩ := num_place gr hk
  have h := soneE_row (N := N) (lv := lv) h1 (by rw [h2]; exact hs)
  rw [h3, h4] at h
  exact h
/-- One by one: each sector of a row that is told. -/
theorem Std.one {N : Bch} {lv : List Bool} {n l c : Int} {m ρ D F W k : Nat} {fl : Nat → List (List UInt8)} {rs : List (List UInt8)} (h : Std N m D fl) (gr : Gr n l c (ρ : Int) D F W) (hρ : ρ < 16) (hrs : rs.length = W) (hfl : fl ρ = fillL D F rs) (hE : srdE N lv l (D : Int) c (ρ : Int) = 0 ∧ srdL N lv l (D : Int) c (ρ : Int) = rs) (hk : k < W) :
    soneE N lv l (D : Int) c (plN l (D : Int) c (ρ : Int) (k : Int)) = 0 ∧ soneB N lv l (D : Int) c (plN l (D : Int) c (ρ : Int) (k : Int)) = rs.getD k [] := by
  have hW := gr.hW
  cases hs : srvD N lv (roS D F k) with
  | true =>
    obtain ⟨h1, h2⟩ := one_own gr hk h.dn hs
    refine ⟨h1, h2.trans ?_⟩
    rw [h.at' _ (roS_lt gr.hF (by omega)) ρ hρ (srvD_yes hs).2.2, hfl, fillL_at gr.hF (by omega), allL_data (by omega)]
  | false =>
    obtain ⟨h1, h2⟩ := one_row (N := N) (lv := lv) gr hk hs
    rw [hE.1] at h1 h2
    rw [if_neg (by simp), hE.2] at h2
    exact ⟨h1, h2⟩
theorem row_setCell {w : World} {b k : Nat} {cur : Array Value} {u : Value} {t : TypeId} (h : w.heap[b]? = some (.cells cur t (0, 0))) : (w.setCell ⟨b, k, none⟩ u).heap[b]? = some (.cells (cur.setIfInBounds k u) t (0, 0)) := by
  obtain ⟨hlt, hb⟩ := Array.getElem?_eq_some_iff.1 h
  show (w.heap.modify b _)[b]? = _
  rw [Array.getElem?_eq_getElem (by simpa using hlt), Array.getElem_modify_self, hb]
  rfl
theorem row_frozen {w : World} {b k : Nat} {cur : Array Value} {t : TypeId} (h : w.heap[b]? = some (.cells cur t (0, 0))) : w.frozen? ⟨b, k, none⟩ = false := by
  simp [World.frozen?, h]
theorem lv_setCell {w : World} {g d : Nat} {lv : List Bool} {t : TypeId} (h : w.heap[g]? = some (.cells (lv.map Value.bool).toArray t (0, 0))) (hd : d < lv.length) (v : Bool) : w.cell? ⟨g, d, none⟩ = some (.bool (lv.getD d false)) ∧ w.frozen? ⟨g, d, none⟩ = false ∧ (w.setCell ⟨g, d, none⟩ (.bool v)).heap[g]? = some (.cells ((lv.set d v).map Value.bool).toArray t (0, 0)) ∧ w.grownBy (w.setCell ⟨g, d, none⟩ (.bool v)) (some g) := by
  refine ⟨?_, row_frozen h, ?_, ⟨rfl, rfl, rfl, by simp, fun k _ hne => Below.heap_setCell w _ _ k (fun e => hne (by rw [e]))⟩⟩
  · rw [cell_of_row w g d _ t _ h, List.getElem?_toArray, List.getElem?_map, List.getElem?_eq_getElem hd]
    simp [List.getD_eq_getElem?_getD, hd]
  · rw [row_setCell h, List.setIfInBounds_toArray, List.map_set]
theorem KS.put {W w w' : World} {b : Nat} {H : BH} {N : Bch} {p : Nat} {o o' : Obj} {K : List (Nat × Obj)} (h : KS W w b H N ((p, o) :: K) [] []) (hg : w.grownBy w' (some p)) (hb : w'.heap[p]? = some o') (hne : ∀ r ∈ K, r.1 ≠ p) : KS W w' b H N ((p, o') :: K) [] [] :=
  ⟨h.kx.put (K1 := []) rfl hg hb (by simpa using hne), fun _ hp => absurd hp (by simp), fun _ hp => absurd hp (by simp)⟩
theorem cnt_one {N : Bch} {D d : Nat} {lv : List Bool} (hn : D ≤ N.n) (hf : ∀ i, i < D → (N.D i).f = false) (hl : ∀ i, i < D → i ≠ d → lv.getD i false = true) : cntB D (fun i => !srvD N lv i) ≤ 1 := by
  have h : cntB D (fun i => !srvD N lv i) ≤ cntB D (fun i => decide (i = d)) := by
    unfold cntB
    refine len_le_map (f := id) (List.nodup_range.filter _) (fun a _ b _ e => e) fun i hi => ?_
    obtain ⟨h1, h2⟩ := List.mem_filter.1 hi
    have h1' := List.mem_range.1 h1
    refine List.mem_filter.2 ⟨h1, ?_⟩
    show decide (i = d) = true
    by_cases e : i = d
    · exact decide_eq_true e
    · rw [srvD_mk (by omega) (hl i h1' e) (hf i h1')] at h2; cases h2
  exact Nat.le_trans h (cntB_one_le _ _)
end Go.Proofs.YtenkkdnepmoihaaGreatDoor
end
section
set_option linter.unusedVariables false
set_option linter.unusedSimpArgs false
namespace Go.Proofs.YtenkkdnepmoihaaGreatDoor
open Go.RowKit

section
variable {W w : World} {b : Nat} {H : BH} {N : Bch} {K : List (Nat × Obj)} {R : List (Option Addr × List (List UInt8))} {S : List (Option Addr × List UInt8)} (h : KS W w b H N K R S)
include h
end
end Go.Proofs.YtenkkdnepmoihaaGreatDoor
end
