/- Texts put together: PlayLive, LawArgs, SlotsOnlyMath. -/
import Derived.Test.YtcjmebnbbpllnaaDoorMak
import Derived.Test.YtcjmebnbbpllnaaDoorMab
import Derived.Deep.Grids
import Derived.Test.YtcjmebnbbpllnaaDoorMal
section
set_option maxRecDepth 8000
set_option linter.unusedVariables false
set_option linter.unusedSimpArgs false
namespace Go.Proofs.YtcjmebnbbpllnaaDoor
open Go.RowKit

def liveB (n : Int) (d i : Nat) : Bool := if 0 < withinI n 3 ∧ withinI (n.tdiv 3) d = (i : Int) then false else if withinI n 9 = 8 ∧ withinI (n.tdiv 27) d = (i : Int) then false else true
def liveL (n : Int) (d : Nat) : List Bool := (List.range d).map (liveB n d)
theorem liveL_len (n : Int) (d : Nat) : (liveL n d).length = d := by unfold liveL; simp
theorem liveL_get (n : Int) {d i : Nat} (h : i < d) : (liveL n d).getD i false = liveB n d i := by unfold liveL; simp [h]
theorem live_some (n : Int) : ∃ j, j < 4 ∧ liveB n 4 j = true := by
  obtain ⟨j, h1, h2, h3⟩ : ∃ j : Nat, j < 4 ∧ withinI (n.tdiv 3) (4 : Nat) ≠ (j : Int) ∧ withinI (n.tdiv 27) (4 : Nat) ≠ (j : Int) := by
    generalize withinI (n.tdiv 3) (4 : Nat) = a
    generalize withinI (n.tdiv 27) (4 : Nat) = b
    by_cases c0 : a ≠ ((0 : Nat) : Int) ∧ b ≠ ((0 : Nat) : Int)
    · exact ⟨0, by omega, c0.1, c0.2⟩
    · by_cases c1 : a ≠ ((1 : Nat) : Int) ∧ b ≠ ((1 : Nat) : Int)
      · exact ⟨1, by omega, c1.1, c1.2⟩
      · exact ⟨2, by omega, by omega, by omega⟩
  refine ⟨j, h1, ?_⟩
  unfold liveB
  rw [if_neg (fun h => h2 h.2), if_neg (fun h => h3 h.2)]
theorem live_row {w : World} {g d : Nat} {G : Nat → Value} {n : Int} (h : w.heap[g]? = some (.cells (rowOf G d).toArray 4 (0, 0))) (hG : ∀ j, j < d → G j = .bool (liveB n d j)) : w.heap[g]? = some (.cells ((liveL n d).map Value.bool).toArray 4 (0, 0)) := by
  rw [h]
  have : rowOf G d = (liveL n d).map Value.bool := by
    unfold rowOf liveL
    rw [List.map_map]
    exact List.map_congr_left fun j hj => hG j (List.mem_range.1 hj)
  rw [this]
theorem tdiv_bd (n k : Int) (hn : (-9223372036854775808 ≤ n ∧ n ≤ 9223372036854775807)) (hk : 1 ≤ k) : (-9223372036854775808 ≤ n.tdiv k ∧ n.tdiv k ≤ 9223372036854775807) := by
  have h : (n.tdiv k).natAbs ≤ n.natAbs := by rw [Int.natAbs_tdiv]; exact Nat.div_le_self _ _
  rcases Int.le_total 0 n with h0 | h0
  · have := Int.tdiv_nonneg h0 (show 0 ≤ k by omega)
    omega
  · have : n.tdiv k ≤ 0 := by
      have h1 := Int.tdiv_nonneg (a := -n) (b := k) (by omega) (by omega)
      rw [Int.neg_tdiv] at h1; omega
    omega
set_option maxRecDepth 100000 in
set_option maxHeartbeats 4000000 in
theorem live_any (n : Int) (d : Nat) (w : World) (hn : (-9223372036854775808 ≤ n ∧ n ≤ 9223372036854775807)) (hd : 1 ≤ d ∧ d ≤ 8) :
    Calls Tryd.prog 19 #[.int .i64 n, .int .i64 (d : Int)] w fun e w' => ∃ g, e = .returned (.slice (some ⟨g, 0, none⟩) d d) ∧ w'.heap[g]? = some (.cells ((liveL n d).map Value.bool).toArray 4 (0, 0)) ∧ w.heap.size ≤ g ∧ Below w.heap.size w w' := by
  have hmb := make_bools d (by omega)
  have W3 := Lib.hid (fun V => within_any n 3 V hn (by omega))
  have W9 := Lib.hid (fun V => within_any n 9 V hn (by omega))
  have Wa := Lib.hid (fun V => within_any (n.tdiv 3) (d : Int) V (tdiv_bd n 3 hn (by omega)) (by omega))
  have Wb := Lib.hid (fun V => within_any (n.tdiv 27) (d : Int) V (tdiv_bd n 27 hn (by omega)) (by omega))
  have HL := Lib.hid (fun (V : World) (g : Nat) (G : Nat → Value) => live_row (w := V) (g := g) (d := d) (G := G) (n := n))
  have Hlb : Hid (∀ j, liveB n d j = if 0 < withinI n 3 ∧ withinI (n.tdiv 3) d = (j : Int) then false else if withinI n 9 = 8 ∧ withinI (n.tdiv 27) d = (j : Int) then false else true) := fun j => rfl
  have ba := withinI_bd (n.tdiv 3) (d : Int) (by omega)
  have bb := withinI_bd (n.tdiv 27) (d : Int) (by omega)
  obtain ⟨a, ha⟩ := Int.eq_ofNat_of_zero_le ba.1
  obtain ⟨c, hc⟩ := Int.eq_ofNat_of_zero_le bb.1
  rw [ha] at Wa ba Hlb
  rw [hc] at Wb bb Hlb
  generalize withinI n 3 = q3 at W3 Hlb
  generalize withinI n 9 = q9 at W9 Hlb
  have d0 : (0 : Int) ≤ (d : Int) := by omega
  have d1 : (0 : Int) < (d : Int) := by omega
  have a0 : (0 : Int) ≤ (a : Int) := by omega
  have c0 : (0 : Int) ≤ (c : Int) := by omega
  have ad : a < d := by omega
  have cd : c < d := by omega
  have hi3 := tdiv_bd n 3 hn (by omega)
  have hi27 := tdiv_bd n 27 hn (by omega)
  clear ha hc
  go_enter Tryd.func19, Tryd.ntmps19
  go_wp2
  go_name_world w1 hw1
  have h1 : w1.heap[w.heap.size]? = some (.cells (rowOf (fun _ => .bool false) d).toArray 4 (0, 0)) := by rw [← hw1]; exact hp_new _ _ _ rfl
  have B1 := Lib.hid (show Below w.heap.size w w1 by rw [← hw1]; exact below1 _ _)
  have H1 := Lib.hid h1
  clear hw1 h1
  generalize hgw : w.heap.size = g at *
  have Hgw := Lib.hid hgw
  clear hgw
  go_loopw [11] (fun i wr => ∃ (j : Nat) (G : Nat → Value), j ≤ d ∧ i = .int .i64 j ∧ wr.heap[g]? = some (.cells (rowOf G d).toArray 4 (0, 0)) ∧ (∀ k, k < j → G k = .bool true) ∧ Below g w wr) (fun i _ => d - (intOf i).toNat)
  case atStart => exact ⟨0, _, Nat.zero_le _, rfl, H1.out, fun k hk => by omega, B1.out⟩
  case round =>
    obtain ⟨j, G, hj, rfl, hG, hall, hb⟩ := hrel
    have HG := Lib.hid hG
    have Hall := Lib.hid hall
    have Hb := Lib.hid hb
    clear hG hall hb H1
    have hgl := (Array.getElem?_eq_some_iff.1 HG.out).1
    by_cases hlt : j < d
    · have i0 : (0 : Int) ≤ (j : Int) := by omega
      have i1 : (j : Int) < (d : Int) := by omega
      go_wp2_with (refine wpList_store_blk rfl 4 _ _ (by rfl) g j (.bool true) (by rfl) (by rfl) (rowOf G d) 4 HG.out [.bool true] (by rfl) 1 rfl size_bool1 (by rw [rowOf_len]; omega) (by intro u hu; rw [List.mem_singleton.1 hu]; rfl) (rowOf (upd G j (.bool true)) d) (rowOf_set G _ hlt) ?_; intro w2 h2 g2)
      go_roundw
      case rel => exact ⟨j + 1, upd G j (.bool true), by omega, by go_num, h2, fun k hk => by
        by_cases e : k = j
        · subst e; rw [upd_same]
        · rw [upd_other _ _ e]; exact Hall.out k (by omega), Hb.out.grown g2 (by have := Hb.out.size; rw [Hgw.out] at this; omega) (fun j e => by injection e with e; omega)⟩
      case measure => simp [intOf]; omega
    · obtain rfl : j = d := by omega
      have hz : g ≤ wr.heap.size := by have := Hb.out.size; rw [Hgw.out] at this; exact this
      by_cases h3 : 0 < q3
      · by_cases h9 : q9 = 8
        · have Hl := Lib.hid (fun i => (Hlb.out i).trans (show _ = if (a : Int) = (i : Int) then false else if (c : Int) = (i : Int) then false else true by simp only [h3, h9, true_and]))
          subst h9
          go_wp2_with (first
        | (go_at_call 8; (with_reducible refine (W3.out _).mono ?_); rintro e wxW3 ⟨rfl, rfl⟩)
        | (go_at_call 8; (with_reducible refine (Wa.out _).mono ?_); rintro e wxWa ⟨rfl, rfl⟩)
        | (go_at_call 8; (with_reducible refine (W9.out _).mono ?_); rintro e wxW9 ⟨rfl, rfl⟩)
        | (go_at_call 8; (with_reducible refine (Wb.out _).mono ?_); rintro e wxWb ⟨rfl, rfl⟩)
        | (refine wpList_store_blk rfl 4 _ _ (by rfl) g a (.bool false) (by rfl) (by rfl) (rowOf G j) 4 HG.out [.bool false] (by rfl) 1 rfl size_bool1 (by rw [rowOf_len]; omega) (by intro u hu; rw [List.mem_singleton.1 hu]; rfl) (rowOf (upd G a (.bool false)) j) (rowOf_set _ _ ad) ?_
           intro w2 h2 g2
           have HG2 := Lib.hid h2
           have Hb2 := Lib.hid (Hb.out.grown g2 (by have := Hb.out.size; rw [Hgw.out] at this; exact this) (fun j e => by injection e with e; omega))
           clear h2 g2)
        | (refine wpList_store_blk rfl 4 _ _ (by rfl) g c (.bool false) (by rfl) (by rfl) (rowOf (upd G a (.bool false)) j) 4 HG2.out [.bool false] (by rfl) 1 rfl size_bool1 (by rw [rowOf_len]; omega) (by intro u hu; rw [List.mem_singleton.1 hu]; rfl) (rowOf (upd (upd G a (.bool false)) c (.bool false)) j) (rowOf_set _ _ cd) ?_
           intro w3 h3 g3
           have HG3 := Lib.hid h3
           have Hb3 := Lib.hid (Hb2.out.grown g3 (by have := Hb2.out.size; rw [Hgw.out] at this; exact this) (fun j e => by injection e with e; omega))
           clear h3 g3))
          go_ret
          exact ⟨g, rfl, HL.out _ _ _ HG3.out (fun i hi => by
            rw [Hl.out i]
            by_cases e1 : i = c
            · subst e1; rw [upd_same]; split; rfl; rw [if_pos rfl]
            · rw [upd_other _ _ e1]
              by_cases e2 : i = a
              · subst e2; rw [upd_same, if_pos rfl]
              · rw [upd_other _ _ e2, if_neg (by omega), if_neg (by omega)]; exact Hall.out i hi), Nat.le_of_eq Hgw.out, by rw [Hgw.out]; exact Hb3.out⟩
        · have Hl := Lib.hid (fun i => (Hlb.out i).trans (show _ = if (a : Int) = (i : Int) then false else true by simp only [h3, h9, true_and, false_and, if_false]))
          have b9 : (q9 == 8) = false := by rw [beq_eq_false_iff_ne]; exact h9
          go_wp2_with (first
        | (go_at_call 8; (with_reducible refine (W3.out _).mono ?_); rintro e wxW3 ⟨rfl, rfl⟩)
        | (go_at_call 8; (with_reducible refine (Wa.out _).mono ?_); rintro e wxWa ⟨rfl, rfl⟩)
        | (go_at_call 8; (with_reducible refine (W9.out _).mono ?_); rintro e wxW9 ⟨rfl, rfl⟩)
        | (refine wpList_store_blk rfl 4 _ _ (by rfl) g a (.bool false) (by rfl) (by rfl) (rowOf G j) 4 HG.out [.bool false] (by rfl) 1 rfl size_bool1 (by rw [rowOf_len]; omega) (by intro u hu; rw [List.mem_singleton.1 hu]; rfl) (rowOf (upd G a (.bool false)) j) (rowOf_set _ _ ad) ?_
           intro w2 h2 g2
           have HG2 := Lib.hid h2
           have Hb2 := Lib.hid (Hb.out.grown g2 (by have := Hb.out.size; rw [Hgw.out] at this; exact this) (fun j e => by injection e with e; omega))
           clear h2 g2))
          go_ret
          exact ⟨g, rfl, HL.out _ _ _ HG2.out (fun i hi => by
            rw [Hl.out i]
            by_cases e2 : i = a
            · subst e2; rw [upd_same, if_pos rfl]
            · rw [upd_other _ _ e2, if_neg (by omega)]; exact Hall.out i hi), Nat.le_of_eq Hgw.out, by rw [Hgw.out]; exact Hb2.out⟩
      · by_cases h9 : q9 = 8
        · have Hl := Lib.hid (fun i => (Hlb.out i).trans (show _ = if (c : Int) = (i : Int) then false else true by simp only [h3, h9, true_and, false_and, if_false]))
          subst h9
          go_wp2_with (first
        | (go_at_call 8; (with_reducible refine (W3.out _).mono ?_); rintro e wxW3 ⟨rfl, rfl⟩)
        | (go_at_call 8; (with_reducible refine (W9.out _).mono ?_); rintro e wxW9 ⟨rfl, rfl⟩)
        | (go_at_call 8; (with_reducible refine (Wb.out _).mono ?_); rintro e wxWb ⟨rfl, rfl⟩)
        | (refine wpList_store_blk rfl 4 _ _ (by rfl) g c (.bool false) (by rfl) (by rfl) (rowOf G j) 4 HG.out [.bool false] (by rfl) 1 rfl size_bool1 (by rw [rowOf_len]; omega) (by intro u hu; rw [List.mem_singleton.1 hu]; rfl) (rowOf (upd G c (.bool false)) j) (rowOf_set _ _ cd) ?_
           intro w3 h3 g3
           have HG3 := Lib.hid h3
           have Hb3 := Lib.hid (Hb.out.grown g3 (by have := Hb.out.size; rw [Hgw.out] at this; exact this) (fun j e => by injection e with e; omega))
           clear h3 g3))
          go_ret
          exact ⟨g, rfl, HL.out _ _ _ HG3.out (fun i hi => by
            rw [Hl.out i]
            by_cases e1 : i = c
            · subst e1; rw [upd_same, if_pos rfl]
            · rw [upd_other _ _ e1, if_neg (by omega)]; exact Hall.out i hi), Nat.le_of_eq Hgw.out, by rw [Hgw.out]; exact Hb3.out⟩
        · have Hl := Lib.hid (fun i => (Hlb.out i).trans (show _ = true by simp only [h3, h9, false_and, if_false]))
          have b9 : (q9 == 8) = false := by rw [beq_eq_false_iff_ne]; exact h9
          go_wp2_with (first
        | (go_at_call 8; (with_reducible refine (W3.out _).mono ?_); rintro e wxW3 ⟨rfl, rfl⟩)
        | (go_at_call 8; (with_reducible refine (W9.out _).mono ?_); rintro e wxW9 ⟨rfl, rfl⟩))
          go_ret
          exact ⟨g, rfl, HL.out _ _ _ HG.out (fun i hi => by rw [Hl.out i]; exact Hall.out i hi), Nat.le_of_eq Hgw.out, by rw [Hgw.out]; exact Hb.out⟩
end Go.Proofs.YtcjmebnbbpllnaaDoor
end
section
namespace Go.Proofs.YtcjmebnbbpllnaaDoor
open Go.ChangeShapes Go.WideShapes Go.ChangeAt Go.RowKit Go.Deep

section
variable {H : Type} {enc : TypeId × Value → H} {P : Program}
theorem addr_of {W : World} {x : Addr} {u : Value} (h : W.cell? (x.add 0) = some u) : ∃ b off, x = ⟨b, off, none⟩ ∧ b < W.heap.size := by
  obtain ⟨b, off, spot⟩ := x
  have hspot : spot = none := by simpa [Addr.add] using World.cell?_spot h
  subst hspot
  have := World.block_lt_of_cell? _ _ h
  exact ⟨b, off, rfl, by simpa [Addr.add] using this⟩
theorem addr_add (b off k : Nat) : ((⟨b, off, none⟩ : Addr).add k) = ⟨b, off + k, none⟩ := by unfold Addr.add; by_cases hk0 : k = 0 <;> simp [hk0]
/-- A slice of bools that came in. -/
theorem open_rdo {t e : TypeId} (ht : P.underlying t = some (.slice e)) (he : P.underlying e = some .bool) (hc : P.cellsOf e = 1) {r : Reach} {W : World} {base : Nat} {v : Value} {d : DataW H} {p : List MemPlace}
    (hv : Value.okWide P W r base t v) (h : DataW.Trod enc P W 0 (fun _ => true) true t v d p) : ∃ A ks cap, v = .slice A ks.length cap ∧ ks.length ≤ cap ∧ RdO W W.heap.size A ks := by
  obtain ⟨A, len, cap, rfl⟩ := okWide_slice ht hv
  obtain ⟨fuel, hf⟩ := h
  rcases open_bools ht he hc hf with ⟨hcs, _⟩ | ⟨x, l, c, B, hcs, _, hl, hm, _, hcell⟩
  · simp [Value.cells] at hcs
    obtain ⟨rfl, rfl, rfl⟩ := hcs
    exact ⟨none, [], 0, rfl, Nat.le_refl _, RdO.nil _ _ _⟩
  · simp [Value.cells] at hcs
    obtain ⟨rfl, rfl, rfl⟩ := hcs
    have hL : ((List.range len).map B).length = len := by simp
    refine ⟨some x, (List.range len).map B, cap, by rw [hL], by rw [hL]; exact hl, by rw [hL]; unfold maxLen at hm; omega, fun hn => ?_⟩
    rw [hL] at hn
    obtain ⟨b, off, rfl, hb⟩ := addr_of (hcell 0 (by omega))
    refine ⟨b, off, rfl, hb, fun k hk => ?_⟩
    rw [hL] at hk
    have := hcell k (by omega)
    rw [addr_add] at this
    rw [this]
    simp [hk]
/-- A slice of whole numbers that came in. -/
theorem open_rdz {t e : TypeId} (ht : P.underlying t = some (.slice e)) (he : P.underlying e = some (.int .i64)) (hc : P.cellsOf e = 1) {r : Reach} {W : World} {base : Nat} {v : Value} {d : DataW H} {p : List MemPlace}
    (hv : Value.okWide P W r base t v) (h : DataW.Trod enc P W 0 (fun _ => true) true t v d p) : ∃ A zs cap, v = .slice A zs.length cap ∧ zs.length ≤ cap ∧ RdZ W W.heap.size A zs := by
  obtain ⟨A, len, cap, rfl⟩ := okWide_slice ht hv
  obtain ⟨fuel, hf⟩ := h
  rcases open_ints ht he hc hf with ⟨hcs, _⟩ | ⟨x, l, c, zs, hcs, _, hl, hm, hz, hd, hcell, hwz⟩
  · simp [Value.cells] at hcs
    obtain ⟨rfl, rfl, rfl⟩ := hcs
    exact ⟨none, [], 0, rfl, Nat.le_refl _, RdZ.nil _ _ _⟩
  · simp [Value.cells] at hcs
    obtain ⟨rfl, rfl, rfl⟩ := hcs
    simp only [if_true] at hz
    have hL : (zs.take len).length = len := by rw [List.length_take]; omega
    refine ⟨some x, zs.take len, cap, by rw [hL], by rw [hL]; exact hl, by rw [hL]; unfold maxLen at hm; omega, fun z hz => bounds_i64 (hwz z (List.mem_of_mem_take hz)), fun hn => ?_⟩
    rw [hL] at hn
    obtain ⟨b, off, rfl, hb⟩ := addr_of (hcell 0 (by omega))
    refine ⟨b, off, rfl, hb, fun k hk => ?_⟩
    rw [hL] at hk
    have := hcell k (by omega)
    rw [addr_add] at this
    rw [this]
    simp [hk]
end
end Go.Proofs.YtcjmebnbbpllnaaDoor
end
section
set_option maxRecDepth 8000
set_option linter.unusedVariables false
set_option linter.unusedSimpArgs false
namespace Go.Proofs.YtcjmebnbbpllnaaDoor
open Go.RowKit

/-- A bench lies in just these blocks. -/
theorem bat_list {w : World} {B b : Nat} {H : BH} {N : Bch} (h : BAt w B b H N) : ∃ L : List (Nat × Obj), (∀ p ∈ L, w.heap[p.1]? = some p.2 ∧ BF b H N.n p.1) ∧ ∀ V : World, (∀ p ∈ L, V.heap[p.1]? = some p.2) → BAt V B b H N := by
  let keys := b :: H.g :: (List.range N.n).flatMap fun i => H.bk i :: (H.pv i).ownBlock.toList
  have hk : ∀ k, k ∈ keys ↔ BF b H N.n k := fun k => by
    show k ∈ b :: H.g :: _ ↔ _
    unfold BF DF
    simp only [List.mem_cons, List.mem_flatMap, List.mem_range, Option.mem_toList, Option.mem_def]
  refine ⟨keys.filterMap fun k => (w.heap[k]?).map fun o => (k, o), fun p hp => ?_, fun V hV => h.heap fun k hk' => ?_⟩
  · obtain ⟨k, h1, h2⟩ := List.mem_filterMap.1 hp
    obtain ⟨o, h3, rfl⟩ := Option.map_eq_some_iff.1 h2
    exact ⟨h3, (hk k).1 h1⟩
  · have hl := (h.flt hk').2
    obtain ⟨o, ho⟩ : ∃ o, w.heap[k]? = some o := ⟨w.heap[k], by simp [hl]⟩
    rw [ho]
    exact hV (k, o) (List.mem_filterMap.2 ⟨k, (hk k).2 hk', by rw [ho]; rfl⟩)
theorem KX.join {W w : World} {b : Nat} {H : BH} {N : Bch} {K L : List (Nat × Obj)} (h : KX W w b H N K) (hL : ∀ p ∈ L, w.heap[p.1]? = some p.2 ∧ ¬ BF b H N.n p.1 ∧ W.heap.size ≤ p.1) : KX W w b H N (L ++ K) :=
  ⟨h.bp, fun p hp => by
    rcases List.mem_append.1 hp with h1 | h1
    · exact hL p h1
    · exact h.kp p h1⟩
structure QG (N : Bch) : Prop where
  n : N.n = 4
  dn : N.down = false
  lf : N.left = -1
  done : N.done = 0
  f : ∀ j, j < 4 → (N.D j).f = false
  ps : ∀ i, i < N.n → (N.D i).ps = []
  ok : ∀ j, j < 4 → (N.D j).Ok
  no : ∀ j, j < 4 → ∀ k, k < 2 → decO (secAt (N.D j).now k) = false
theorem qg_new : QG (Bch.new 4) := ⟨rfl, rfl, rfl, rfl, fun _ _ => rfl, fun _ _ => rfl, fun _ _ => Dsk.new_ok, fun j hj k hk => by
  show decO (secAt Dsk.new.now k) = false
  rw [new_now, sec_zero (by omega), decO_zeros]⟩
theorem qg_damage {N : Bch} (h : QG N) {d k : Nat} (hd : d < 4) (hk : k < 52) {x : List UInt8} (hx : x.length = 32) (hz : decO x = false) : QG (N.damage (d : Int) (k : Int) x) := by
  have hp : N.pickE (d : Int) = 0 := Bch.pickE_ok (by omega) (by rw [h.n]; omega)
  have e : N.damage (d : Int) (k : Int) x = N.set d ((N.D d).damage k x) := by
    unfold Bch.damage
    rw [if_neg (by simp [hp])]
    show N.set d ((N.D d).damageE (k : Int) x) = _
    unfold Dsk.damageE
    rw [if_pos (by rw [h.f d hd, hx]; exact takeE_ok (by omega) (by omega))]
    rfl
  rw [e]
  refine ⟨h.n, h.dn, h.lf, h.done, fun j hj => ?_, fun i hi => ?_, fun j hj => ?_, fun j hj q hq => ?_⟩
  · show (upd N.D d _ j).f = false
    by_cases c : j = d
    · subst c; rw [upd_same]; exact h.f j hj
    · rw [upd_other _ _ c]; exact h.f j hj
  · show (upd N.D d _ i).ps = []
    by_cases c : i = d
    · subst c; rw [upd_same]
      show (N.D i).ps.filter _ = []
      rw [h.ps i hi]; rfl
    · rw [upd_other _ _ c]; exact h.ps i hi
  · show (upd N.D d _ j).Ok
    by_cases c : j = d
    · subst c; rw [upd_same]; exact (h.ok j hj).damage hk hx
    · rw [upd_other _ _ c]; exact h.ok j hj
  · show decO (secAt (upd N.D d _ j).now q) = false
    by_cases c : j = d
    · subst c
      rw [upd_same, Dsk.damage_now (h.ok j hj) hk hx]
      by_cases e : q = k
      · subst e; rw [sec_put_same (h.ok j hj).now hk hx]; exact hz
      · rw [sec_put_other (h.ok j hj).now hk hx e]; exact h.no j hj q hq
    · rw [upd_other _ _ c]; exact h.no j hj q hq
theorem qg_slot {N : Bch} (h : QG N) {j k : Nat} (hj : j < 4) (hk : k < 2) : slotL (N.D j) k = [] := by
  unfold slotL
  rw [h.f j hj, if_neg (by decide), if_neg (by rw [h.no j hj k hk]; decide)]
section
variable {N M : Bch} {lv : List Bool} {s : Su} (h : QG N) (st : StG N M lv s) (hs : suOk s = true)
include h st hs
omit hs in
theorem only_same {d k : Nat} (hd : d < 4) (hn : ¬ (lv.getD d false = true ∧ k = slotI s.g)) : secAt (M.D d).now k = secAt (N.D d).now k := by
  rw [st.D d (by rw [h.n]; exact hd)]
  cases hl : lv.getD d false with
  | false => rw [stD_not hl]
  | true => rw [stD_sec (h.ok d hd) hl (h.f d hd), if_neg (fun e => hn ⟨hl, e⟩)]
omit hs in
theorem only_f {d : Nat} (hd : d < 4) : (M.D d).f = false := by rw [st.D d (by rw [h.n]; exact hd), stD_f]; exact h.f d hd
theorem only_dsk {d : Nat} (hd : d < 4) : dskSu (M.D d) = if lv.getD d false = true then [s] else [] := by
  rw [st.D d (by rw [h.n]; exact hd)]
  cases hl : lv.getD d false with
  | false =>
    rw [stD_not hl, if_neg (by decide)]
    unfold dskSu; rw [qg_slot h hd (by omega), qg_slot h hd (by omega)]; rfl
  | true =>
    rw [if_pos rfl]
    unfold dskSu
    rw [stD_slot hs (h.ok d hd) hl (h.f d hd) 0, stD_slot hs (h.ok d hd) hl (h.f d hd) 1, qg_slot h hd (by omega), qg_slot h hd (by omega)]
    have := slotI_lt s.g
    by_cases e : 0 = slotI s.g
    · rw [if_pos e, if_neg (by omega)]; rfl
    · rw [if_neg e, if_pos (by omega)]; rfl
theorem only_best (hex : ∃ j, j < 4 ∧ lv.getD j false = true) : bestE M = 0 ∧ bestS M = s ∧ (hasL M).length = 4 ∧ ∀ j, j < 4 → (hasL M).getD j false = lv.getD j false := by
  have hMn : M.n = 4 := st.n.trans h.n
  have hg := (suIn hs).g
  obtain ⟨b1, b2, b3⟩ := best_is (N := M) (t := s) st.dn hg.1 (fun j hj x hx => by
    rw [only_dsk h st hs (by rw [hMn] at hj; exact hj)] at hx
    split at hx
    · exact .inl (List.mem_singleton.1 hx)
    · cases hx) (by
    obtain ⟨j, hj, hl⟩ := hex
    exact ⟨j, by rw [hMn]; exact hj, by rw [only_dsk h st hs hj, if_pos hl]; exact List.mem_singleton.2 rfl⟩)
  refine ⟨b1, b2, by rw [b3, hMn]; rfl, fun j hj => ?_⟩
  rw [b3, hMn, List.getD_eq_getElem?_getD, List.getElem?_map, List.getElem?_range hj]
  show hasB M s j = _
  unfold hasB
  rw [only_dsk h st hs hj]
  cases hl : lv.getD j false with
  | false => rw [if_neg (by decide)]; rfl
  | true =>
    rw [if_pos rfl]
    show (decide (s.g - 1 ≤ s.g) || false) = true
    rw [decide_eq_true (by omega)]; rfl
end
end Go.Proofs.YtcjmebnbbpllnaaDoor
end
