/- Texts put together: RdX, EachFl, PlayLive. -/
import Derived.Test.YtadmofpipfdedaaSfau
import Derived.Test.YtadmofpipfdedaaSfai
import Derived.Test.YtadmofpipfdedaaSfap
import Derived.Test.YtadmofpipfdedaaSfad
section
set_option linter.unusedVariables false
set_option linter.unusedSimpArgs false
namespace Go.Proofs.Ytadmofpipfdedaa
open Go.RowKit

def RdBX (F : Nat → Prop) (w : World) (A : Option Addr) (bs : List UInt8) : Prop :=
  bs.length ≤ 140737488355328 ∧ (0 < bs.length → ∃ b off, A = some ⟨b, off, none⟩ ∧ b < w.heap.size ∧ ¬ F b ∧ ∀ k, k < bs.length → w.cell? ⟨b, off + k, none⟩ = some (.int .u8 ((bs.getD k 0).toNat : Int)))
def RdRX (F : Nat → Prop) (w : World) (A : Option Addr) (rs : List (List UInt8)) : Prop :=
  rs.length ≤ 140737488355328 ∧ (0 < rs.length → ∃ b off, A = some ⟨b, off, none⟩ ∧ b < w.heap.size ∧ ¬ F b ∧ ∀ k, k < rs.length → ∃ A' c, w.cell? ⟨b, off + k, none⟩ = some (.slice A' (rs.getD k []).length c) ∧ RdBX F w A' (rs.getD k []))
section
variable {F F' : Nat → Prop} {w w' : World} {A : Option Addr} {bs : List UInt8} {rs : List (List UInt8)}
theorem RdBX.rdb (h : RdBX F w A bs) : RdB w w.heap.size A bs :=
  ⟨h.1, fun h0 => by
    obtain ⟨b, off, e, hb, _, hc⟩ := h.2 h0
    exact ⟨b, off, e, hb, hc⟩⟩
theorem RdBX.keep (h : RdBX F w A bs) (hz : w.heap.size ≤ w'.heap.size) (hk : ∀ p : Addr, ¬ F p.block → p.block < w.heap.size → w'.cell? p = w.cell? p) (hF : ∀ k, k < w.heap.size → F' k → F k) : RdBX F' w' A bs :=
  ⟨h.1, fun h0 => by
    obtain ⟨b, off, e, hb, hl, hc⟩ := h.2 h0
    exact ⟨b, off, e, by omega, fun q => hl (hF b hb q), fun k hk' => (hk ⟨b, off + k, none⟩ hl hb).trans (hc k hk')⟩⟩
theorem RdRX.keep (h : RdRX F w A rs) (hz : w.heap.size ≤ w'.heap.size) (hk : ∀ p : Addr, ¬ F p.block → p.block < w.heap.size → w'.cell? p = w.cell? p) (hF : ∀ k, k < w.heap.size → F' k → F k) : RdRX F' w' A rs :=
  ⟨h.1, fun h0 => by
    obtain ⟨b, off, e, hb, hl, hc⟩ := h.2 h0
    refine ⟨b, off, e, by omega, fun q => hl (hF b hb q), fun k hk' => ?_⟩
    obtain ⟨A', c, h1, h2⟩ := hc k hk'
    exact ⟨A', c, (hk ⟨b, off + k, none⟩ hl hb).trans h1, h2.keep hz hk hF⟩⟩
theorem RdBX.below (h : RdBX F w A bs) (hb : Below w.heap.size w w') : RdBX F w' A bs := h.keep hb.size (fun _ _ hp => hb.cell hp) fun _ _ q => q
theorem RdRX.below (h : RdRX F w A rs) (hb : Below w.heap.size w w') : RdRX F w' A rs := h.keep hb.size (fun _ _ hp => hb.cell hp) fun _ _ q => q
theorem chg_cell {F : Nat → Prop} {w w' : World} (hc : Chg F w w') (p : Addr) (hF : ¬ F p.block) (hp : p.block < w.heap.size) : w'.cell? p = w.cell? p := World.cell?_of_block (hc.block p.block hp hF)
theorem RdBX.chg (h : RdBX F w A bs) (hc : Chg F w w') (hF : ∀ k, k < w.heap.size → F' k → F k) : RdBX F' w' A bs := h.keep hc.size (fun p q hp => chg_cell hc p q hp) hF
theorem RdRX.chg (h : RdRX F w A rs) (hc : Chg F w w') (hF : ∀ k, k < w.heap.size → F' k → F k) : RdRX F' w' A rs := h.keep hc.size (fun p q hp => chg_cell hc p q hp) hF
theorem RdBF.rdbx {lo : Nat} (h : RdBF lo w A bs) (hF : ∀ k, k < w.heap.size → lo ≤ k → ¬ F k) : RdBX F w A bs :=
  ⟨h.1, fun h0 => by
    obtain ⟨b, off, e, hb, hl, hc⟩ := h.2 h0
    exact ⟨b, off, e, hb, hF b hb hl, hc⟩⟩
theorem RdF.rdrx {lo : Nat} (h : RdF lo w A rs) (hF : ∀ k, k < w.heap.size → lo ≤ k → ¬ F k) : RdRX F w A rs :=
  ⟨h.1, fun h0 => by
    obtain ⟨b, off, e, hb, hl, hc⟩ := h.2 h0
    refine ⟨b, off, e, hb, hF b hb hl, fun k hk => ?_⟩
    obtain ⟨A', c, h1, h2⟩ := hc k hk
    exact ⟨A', c, h1, h2.rdbx hF⟩⟩
theorem RdRX.at (h : RdRX F w A rs) {k : Nat} (hk : k < rs.length) : ∃ b off A' c, A = some ⟨b, off, none⟩ ∧ w.cell? ⟨b, off + k, none⟩ = some (.slice A' (rs.getD k []).length c) ∧ RdBX F w A' (rs.getD k []) := by
  obtain ⟨b, off, e, _, _, hc⟩ := h.2 (by omega)
  obtain ⟨A', c, h1, h2⟩ := hc k hk
  exact ⟨b, off, A', c, e, h1, h2⟩
end
/-- What a call on a bench leaves of rows that are none of its own. -/
theorem bnew_weak {w : World} {b n : Nat} {H H' : BH} (hm : BNew w b H H' n) : ∀ k, k < w.heap.size → BF b H' n k → BF b H n k := fun k hk e => by
  rcases hm k e with h | h
  · exact h
  · omega
/-- Yes and no, read, and none of a bench's. -/
def RdOX (F : Nat → Prop) (w : World) (A : Option Addr) (lv : List Bool) : Prop :=
  lv.length ≤ 9223372036854775807 ∧ (0 < lv.length → ∃ b off, A = some ⟨b, off, none⟩ ∧ b < w.heap.size ∧ ¬ F b ∧ ∀ k, k < lv.length → w.cell? ⟨b, off + k, none⟩ = some (.bool (lv.getD k false)))
section
variable {F F' : Nat → Prop} {w w' : World} {A : Option Addr} {lv : List Bool}
theorem RdOX.rdo (h : RdOX F w A lv) : RdO w w.heap.size A lv :=
  ⟨h.1, fun h0 => by
    obtain ⟨b, off, e, hb, _, hc⟩ := h.2 h0
    exact ⟨b, off, e, hb, hc⟩⟩
end
end Go.Proofs.Ytadmofpipfdedaa
end
section
set_option maxRecDepth 20000
set_option linter.unusedVariables false
set_option linter.unusedSimpArgs false
namespace Go.Proofs.Ytadmofpipfdedaa
open Go.RowKit

end Go.Proofs.Ytadmofpipfdedaa
end
section
set_option maxRecDepth 8000
set_option linter.unusedVariables false
set_option linter.unusedSimpArgs false
namespace Go.Proofs.Ytadmofpipfdedaa
open Go.RowKit

def liveB (n : Int) (d i : Nat) : Bool := if 0 < withinI n 3 ∧ withinI (n.tdiv 3) d = (i : Int) then false else if withinI n 9 = 8 ∧ withinI (n.tdiv 27) d = (i : Int) then false else true
def liveL (n : Int) (d : Nat) : List Bool := (List.range d).map (liveB n d)
theorem liveL_len (n : Int) (d : Nat) : (liveL n d).length = d := by unfold liveL; simp
theorem liveL_get (n : Int) {d i : Nat} (h : i < d) : (liveL n d).getD i false = liveB n d i := by unfold liveL; simp [h]
theorem live_row {w : World} {g d : Nat} {G : Nat → Value} {n : Int} (h : w.heap[g]? = some (.cells (rowOf G d).toArray 4 (0, 0))) (hG : ∀ j, j < d → G j = .bool (liveB n d j)) : w.heap[g]? = some (.cells ((liveL n d).map Value.bool).toArray 4 (0, 0)) := by
  rw [h]
  have : rowOf G d = (liveL n d).map Value.bool := by
    unfold rowOf liveL
    rw [List.map_map]
    exact List.map_congr_left fun j hj => hG j (List.mem_range.1 hj)
  rw [this]
theorem tdiv_bd (n k : Int) (hn : (-9223372036854775808 ≤ n ∧ n ≤ 9223372036854775807)) (hk : 1 ≤ k) : (-9223372036854775808 ≤ n.tdiv k ∧ n.tdiv k ≤ 9223372036854775807) := by
  have h : (n.tdiv k).natAbs ≤ n.natAbs := by rw [Int.natAbs_tdiv]; exact Nat.div_le_self _ _
  rcases Int.le_total 0 n with h0 | h0
  · have := Int.tdiv_nonneg h0 (show 0 ≤ k by omega)
    omega
  · have : n.tdiv k ≤ 0 := by
      have h1 := Int.tdiv_nonneg (a := -n) (b := k) (by omega) (by omega)
      rw [Int.neg_tdiv] at h1; omega
    omega
set_option maxRecDepth 100000 in
set_option maxHeartbeats 4000000 in
theorem live_any (n : Int) (d : Nat) (w : World) (hn : (-9223372036854775808 ≤ n ∧ n ≤ 9223372036854775807)) (hd : 1 ≤ d ∧ d ≤ 8) :
    Calls Try.prog 14 #[.int .i64 n, .int .i64 (d : Int)] w fun e w' => ∃ g, e = .returned (.slice (some ⟨g, 0, none⟩) d d) ∧ w'.heap[g]? = some (.cells ((liveL n d).map Value.bool).toArray 4 (0, 0)) ∧ w.heap.size ≤ g ∧ Below w.heap.size w w' := by
  have hmb := make_bools d (by omega)
  have W3 := Lib.hid (fun V => within_any n 3 V hn (by omega))
  have W9 := Lib.hid (fun V => within_any n 9 V hn (by omega))
  have Wa := Lib.hid (fun V => within_any (n.tdiv 3) (d : Int) V (tdiv_bd n 3 hn (by omega)) (by omega))
  have Wb := Lib.hid (fun V => within_any (n.tdiv 27) (d : Int) V (tdiv_bd n 27 hn (by omega)) (by omega))
  have HL := Lib.hid (fun (V : World) (g : Nat) (G : Nat → Value) => live_row (w := V) (g := g) (d := d) (G := G) (n := n))
  have Hlb : Hid (∀ j, liveB n d j = if 0 < withinI n 3 ∧ withinI (n.tdiv 3) d = (j : Int) then false else if withinI n 9 = 8 ∧ withinI (n.tdiv 27) d = (j : Int) then false else true) := fun j => rfl
  have ba := withinI_bd (n.tdiv 3) (d : Int) (by omega)
  have bb := withinI_bd (n.tdiv 27) (d : Int) (by omega)
  obtain ⟨a, ha⟩ := Int.eq_ofNat_of_zero_le ba.1
  obtain ⟨c, hc⟩ := Int.eq_ofNat_of_zero_le bb.1
  rw [ha] at Wa ba Hlb
  rw [hc] at Wb bb Hlb
  generalize withinI n 3 = q3 at W3 Hlb
  generalize withinI n 9 = q9 at W9 Hlb
  have d0 : (0 : Int) ≤ (d : Int) := by omega
  have d1 : (0 : Int) < (d : Int) := by omega
  have a0 : (0 : Int) ≤ (a : Int) := by omega
  have c0 : (0 : Int) ≤ (c : Int) := by omega
  have ad : a < d := by omega
  have cd : c < d := by omega
  have hi3 := tdiv_bd n 3 hn (by omega)
  have hi27 := tdiv_bd n 27 hn (by omega)
  clear ha hc
  go_enter Try.func14, Try.ntmps14
  go_wp2
  go_name_world w1 hw1
  have h1 : w1.heap[w.heap.size]? = some (.cells (rowOf (fun _ => .bool false) d).toArray 4 (0, 0)) := by rw [← hw1]; exact hp_new _ _ _ rfl
  have B1 := Lib.hid (show Below w.heap.size w w1 by rw [← hw1]; exact below1 _ _)
  have H1 := Lib.hid h1
  clear hw1 h1
  generalize hgw : w.heap.size = g at *
  have Hgw := Lib.hid hgw
  clear hgw
  go_loopw [11] (fun i wr => ∃ (j : Nat) (G : Nat → Value), j ≤ d ∧ i = .int .i64 j ∧ wr.heap[g]? = some (.cells (rowOf G d).toArray 4 (0, 0)) ∧ (∀ k, k < j → G k = .bool true) ∧ Below g w wr) (fun i _ => d - (intOf i).toNat)
  case atStart => exact ⟨0, _, Nat.zero_le _, rfl, H1.out, fun k hk => by omega, B1.out⟩
  case round =>
    obtain ⟨j, G, hj, rfl, hG, hall, hb⟩ := hrel
    have HG := Lib.hid hG
    have Hall := Lib.hid hall
    have Hb := Lib.hid hb
    clear hG hall hb H1
    have hgl := (Array.getElem?_eq_some_iff.1 HG.out).1
    by_cases hlt : j < d
    · have i0 : (0 : Int) ≤ (j : Int) := by omega
      have i1 : (j : Int) < (d : Int) := by omega
      go_wp2_with (refine wpList_store_blk rfl 4 _ _ (by rfl) g j (.bool true) (by rfl) (by rfl) (rowOf G d) 4 HG.out [.bool true] (by rfl) 1 rfl size_bool1 (by rw [rowOf_len]; omega) (by intro u hu; rw [List.mem_singleton.1 hu]; rfl) (rowOf (upd G j (.bool true)) d) (rowOf_set G _ hlt) ?_; intro w2 h2 g2)
      go_roundw
      case rel => exact ⟨j + 1, upd G j (.bool true), by omega, by go_num, h2, fun k hk => by
        by_cases e : k = j
        · subst e; rw [upd_same]
        · rw [upd_other _ _ e]; exact Hall.out k (by omega), Hb.out.grown g2 (by have := Hb.out.size; rw [Hgw.out] at this; omega) (fun j e => by injection e with e; omega)⟩
      case measure => simp [intOf]; omega
    · obtain rfl : j = d := by omega
      have hz : g ≤ wr.heap.size := by have := Hb.out.size; rw [Hgw.out] at this; exact this
      by_cases h3 : 0 < q3
      · by_cases h9 : q9 = 8
        · have Hl := Lib.hid (fun i => (Hlb.out i).trans (show _ = if (a : Int) = (i : Int) then false else if (c : Int) = (i : Int) then false else true by simp only [h3, h9, true_and]))
          subst h9
          go_wp2_with (first
        | (go_at_call 11; (with_reducible refine (W3.out _).mono ?_); rintro e wxW3 ⟨rfl, rfl⟩)
        | (go_at_call 11; (with_reducible refine (Wa.out _).mono ?_); rintro e wxWa ⟨rfl, rfl⟩)
        | (go_at_call 11; (with_reducible refine (W9.out _).mono ?_); rintro e wxW9 ⟨rfl, rfl⟩)
        | (go_at_call 11; (with_reducible refine (Wb.out _).mono ?_); rintro e wxWb ⟨rfl, rfl⟩)
        | (refine wpList_store_blk rfl 4 _ _ (by rfl) g a (.bool false) (by rfl) (by rfl) (rowOf G j) 4 HG.out [.bool false] (by rfl) 1 rfl size_bool1 (by rw [rowOf_len]; omega) (by intro u hu; rw [List.mem_singleton.1 hu]; rfl) (rowOf (upd G a (.bool false)) j) (rowOf_set _ _ ad) ?_
           intro w2 h2 g2
           have HG2 := Lib.hid h2
           have Hb2 := Lib.hid (Hb.out.grown g2 (by have := Hb.out.size; rw [Hgw.out] at this; exact this) (fun j e => by injection e with e; omega))
           clear h2 g2)
        | (refine wpList_store_blk rfl 4 _ _ (by rfl) g c (.bool false) (by rfl) (by rfl) (rowOf (upd G a (.bool false)) j) 4 HG2.out [.bool false] (by rfl) 1 rfl size_bool1 (by rw [rowOf_len]; omega) (by intro u hu; rw [List.mem_singleton.1 hu]; rfl) (rowOf (upd (upd G a (.bool false)) c (.bool false)) j) (rowOf_set _ _ cd) ?_
           intro w3 h3 g3
           have HG3 := Lib.hid h3
           have Hb3 := Lib.hid (Hb2.out.grown g3 (by have := Hb2.out.size; rw [Hgw.out] at this; exact this) (fun j e => by injection e with e; omega))
           clear h3 g3))
          go_ret
          exact ⟨g, rfl, HL.out _ _ _ HG3.out (fun i hi => by
            rw [Hl.out i]
            by_cases e1 : i = c
            · subst e1; rw [upd_same]; split; rfl; rw [if_pos rfl]
            · rw [upd_other _ _ e1]
              by_cases e2 : i = a
              · subst e2; rw [upd_same, if_pos rfl]
              · rw [upd_other _ _ e2, if_neg (by omega), if_neg (by omega)]; exact Hall.out i hi), Nat.le_of_eq Hgw.out, by rw [Hgw.out]; exact Hb3.out⟩
        · have Hl := Lib.hid (fun i => (Hlb.out i).trans (show _ = if (a : Int) = (i : Int) then false else true by simp only [h3, h9, true_and, false_and, if_false]))
          have b9 : (q9 == 8) = false := by rw [beq_eq_false_iff_ne]; exact h9
          go_wp2_with (first
        | (go_at_call 11; (with_reducible refine (W3.out _).mono ?_); rintro e wxW3 ⟨rfl, rfl⟩)
        | (go_at_call 11; (with_reducible refine (Wa.out _).mono ?_); rintro e wxWa ⟨rfl, rfl⟩)
        | (go_at_call 11; (with_reducible refine (W9.out _).mono ?_); rintro e wxW9 ⟨rfl, rfl⟩)
        | (refine wpList_store_blk rfl 4 _ _ (by rfl) g a (.bool false) (by rfl) (by rfl) (rowOf G j) 4 HG.out [.bool false] (by rfl) 1 rfl size_bool1 (by rw [rowOf_len]; omega) (by intro u hu; rw [List.mem_singleton.1 hu]; rfl) (rowOf (upd G a (.bool false)) j) (rowOf_set _ _ ad) ?_
           intro w2 h2 g2
           have HG2 := Lib.hid h2
           have Hb2 := Lib.hid (Hb.out.grown g2 (by have := Hb.out.size; rw [Hgw.out] at this; exact this) (fun j e => by injection e with e; omega))
           clear h2 g2))
          go_ret
          exact ⟨g, rfl, HL.out _ _ _ HG2.out (fun i hi => by
            rw [Hl.out i]
            by_cases e2 : i = a
            · subst e2; rw [upd_same, if_pos rfl]
            · rw [upd_other _ _ e2, if_neg (by omega)]; exact Hall.out i hi), Nat.le_of_eq Hgw.out, by rw [Hgw.out]; exact Hb2.out⟩
      · by_cases h9 : q9 = 8
        · have Hl := Lib.hid (fun i => (Hlb.out i).trans (show _ = if (c : Int) = (i : Int) then false else true by simp only [h3, h9, true_and, false_and, if_false]))
          subst h9
          go_wp2_with (first
        | (go_at_call 11; (with_reducible refine (W3.out _).mono ?_); rintro e wxW3 ⟨rfl, rfl⟩)
        | (go_at_call 11; (with_reducible refine (W9.out _).mono ?_); rintro e wxW9 ⟨rfl, rfl⟩)
        | (go_at_call 11; (with_reducible refine (Wb.out _).mono ?_); rintro e wxWb ⟨rfl, rfl⟩)
        | (refine wpList_store_blk rfl 4 _ _ (by rfl) g c (.bool false) (by rfl) (by rfl) (rowOf G j) 4 HG.out [.bool false] (by rfl) 1 rfl size_bool1 (by rw [rowOf_len]; omega) (by intro u hu; rw [List.mem_singleton.1 hu]; rfl) (rowOf (upd G c (.bool false)) j) (rowOf_set _ _ cd) ?_
           intro w3 h3 g3
           have HG3 := Lib.hid h3
           have Hb3 := Lib.hid (Hb.out.grown g3 (by have := Hb.out.size; rw [Hgw.out] at this; exact this) (fun j e => by injection e with e; omega))
           clear h3 g3))
          go_ret
          exact ⟨g, rfl, HL.out _ _ _ HG3.out (fun i hi => by
            rw [Hl.out i]
            by_cases e1 : i = c
            · subst e1; rw [upd_same, if_pos rfl]
            · rw [upd_other _ _ e1, if_neg (by omega)]; exact Hall.out i hi), Nat.le_of_eq Hgw.out, by rw [Hgw.out]; exact Hb3.out⟩
        · have Hl := Lib.hid (fun i => (Hlb.out i).trans (show _ = true by simp only [h3, h9, false_and, if_false]))
          have b9 : (q9 == 8) = false := by rw [beq_eq_false_iff_ne]; exact h9
          go_wp2_with (first
        | (go_at_call 11; (with_reducible refine (W3.out _).mono ?_); rintro e wxW3 ⟨rfl, rfl⟩)
        | (go_at_call 11; (with_reducible refine (W9.out _).mono ?_); rintro e wxW9 ⟨rfl, rfl⟩))
          go_ret
          exact ⟨g, rfl, HL.out _ _ _ HG.out (fun i hi => by rw [Hl.out i]; exact Hall.out i hi), Nat.le_of_eq Hgw.out, by rw [Hgw.out]; exact Hb.out⟩
end Go.Proofs.Ytadmofpipfdedaa
end
