/- Texts put together: StpWakes, RowOf, PlayLive, StpLawKit, LawArgs, Plain. -/
import Derived.Test.YtadfimimkkimmaaSaaam
import Derived.Test.YtadfimimkkimmaaSaaao
import Derived.Test.YtadfimimkkimmaaSaaah
import Derived.Test.YtadfimimkkimmaaSaaap
import Derived.Test.YtadfimimkkimmaaSaaab
import Derived.Test.YtadfimimkkimmaaSaaag
import Derived.Deep.Grids
import Derived.Test.YtadfimimkkimmaaRows
section
set_option maxRecDepth 20000
set_option linter.unusedVariables false
set_option linter.unusedSimpArgs false
namespace Go.Proofs.Ytadfimimkkimmaa
open Go.RowKit

theorem z32 : (zeroL 32).length = 32 := rfl
theorem ok5314 : plOk 5 3 1 4 = true := by decide
theorem new_sec {k : Nat} (hk : k < 52) : secAt Dsk.new.now k = zeroL 32 := by rw [new_now]; exact sec_zero hk
theorem ssL_new {n : Nat} {lv : List Bool} {a D : Nat} (hn : D ≤ n) (ha : a < 52) (hl : ∀ i, i < D → lv.getD i false = true) : ssL (Bch.new n) lv a D = List.replicate D (zeroL 32) := by
  apply ext_getD (by rw [ssL_len, List.length_replicate])
  intro i hi
  rw [ssL_len] at hi
  rw [ssL_get hi, if_pos (srvD_mk (by show i < n; omega) (hl i hi) rfl), show ((Bch.new n).D i) = Dsk.new from rfl, new_sec ha]
  simp [List.getD_eq_getElem?_getD, hi]
theorem wakes_read : srdE (Bch.new 3) [true, true, true] 5 3 1 4 = 0 ∧ srdL (Bch.new 3) [true, true, true] 5 3 1 4 = [zeroL 32, zeroL 32] := by
  refine srdE_ok ok5314 (.inl rfl) ?_
  rw [show roD 3 = 3 from rfl, show 36 + (4 : Int).toNat = 40 from rfl, ssL_new (Nat.le_refl _) (by omega) (fun i hi => by
    match i, hi with
    | 0, _ => rfl
    | 1, _ => rfl
    | 2, _ => rfl)]
  rw [take_none ok5314 rfl (fun i hi => by
    have hi : i < 3 := hi
    match i, hi with
    | 0, _ => exact z32
    | 1, _ => exact z32
    | 2, _ => exact z32)]
  rfl
theorem rdb_zc (w : World) : RdB (w.alloc (.cells (zcells 32) 5)) (w.alloc (.cells (zcells 32) 5)).heap.size (some ⟨w.heap.size, 0, none⟩) (zeroL 32) :=
  rdb_block (hp_new _ _ _ rfl) (by simp) (by rw [z32]; omega) (fun k hk => by
    rw [z32] at hk
    rw [zcells_get 32 k hk]
    unfold zeroL
    rw [List.getD_eq_getElem?_getD, List.getElem?_replicate, if_pos hk]
    rfl)
set_option maxRecDepth 100000 in
set_option maxHeartbeats 1600000 in
theorem wakesStp_any (W : World) : Calls Try.prog 20 #[] W fun e w' => e = .returned (.bool true) ∧ Below W.heap.size W w' := by
  have hpn := ptr_eq
  have hmk : ∀ w, (Instr.makeSlice 46 (.int .i64 32) (.int .i64 32)).run Try.prog w = .ok (.slice (some ⟨w.heap.size, 0, none⟩) 32 32) (w.alloc (.cells (zcells 32) 5)) := make_bytes 32 (by omega)
  have CN := Lib.hid (bp_new 3 W W (Below.refl _ _) (by omega))
  have hw := Lib.hid wakes_read
  go_enter Try.func20, Try.ntmps20
  go_wp2_with fail
  refine CN.out.mono ?_
  rintro e w ⟨b, H, rfl, hp, _, _⟩
  have hb1 := below1 w (.cells #[.bool true, .bool true, .bool true] 4)
  have CR := stpRead_any W.heap.size b H _ _ (hp.grow hb1).at' [true, true, true] (some ⟨w.heap.size, 0, none⟩) 3 3 rfl (rdo_row (hp_new w (.cells #[.bool true, .bool true, .bool true] 4) _ rfl) rfl (by simp)) 5 3 1 4 (by omega) (by omega) (by omega) (by omega)
  rw [hw.out.1, hw.out.2] at CR
  have CR := Lib.hid CR
  have HB := Lib.hid (hp.bel.alloc hp.bel.size (.cells #[.bool true, .bool true, .bool true] 4))
  clear hp hb1 hw
  unfold ptr
  go_wp2_with fail
  refine CR.out.mono ?_
  rintro e w2 ⟨v, rfl, ho, hb2⟩
  have F := HB.out.trans (hb2.mono HB.out.size)
  obtain ⟨g, c, rfl, hor⟩ := ho.owr (by simp)
  obtain ⟨_, _, _, xs, hor1, hor2⟩ := hor
  obtain ⟨A1, c1, hx1, hx2, _⟩ := hor2.2 0 (by simp)
  have z0 := (hor1.cellAt 0 (by simp)).trans hx1
  have hg := (hor1.lt g rfl).2
  have hr0 := hx2.rdb
  simp only [List.getD_cons_zero, z32] at z0 hr0
  clear ho hb2 hor1 hor2 hx1 hx2 CR CN
  simp only [List.length_cons, List.length_nil, Nat.zero_add, Nat.reduceAdd]
  go_wp2_with fail
  refine wp_region_noPanic (region_ord 15 [] (fun V => Below w2.heap.size w2 V) (by kernel_rfl) (by kernel_rfl) (fun _ _ _ _ _ h => h) fun R => ?_)
  change anyI _ _ _ _ _ _ 15 _ _ w2.drew
  have HS0 := Lib.hid (show (fun V => Below w2.heap.size w2 V) w2.drew from (Below.refl _ _).drew)
  refine' anyI_take R 0 rfl (v := ?_) (by kernel_rfl) (by rfl) (fun V hV => ?hy) HS0.out ?_
  case hy => ((try dsimp only at hV);  have y0 := (hV.cell (p := ⟨g, 0, none⟩) hg).trans z0; go_simp; try with_reducible rfl)
  try simp only [Act.put, List.getElem_toArray, List.getElem_cons_succ, List.getElem_cons_zero, List.setIfInBounds_toArray, List.set_cons_zero, List.set_cons_succ]
  refine' anyI_take R 1 rfl (v := ?_) (by kernel_rfl) (by rfl) (fun V hV => ?hy) HS0.out ?_
  case hy => ((try dsimp only at hV);  have y0 := (hV.cell (p := ⟨g, 0, none⟩) hg).trans z0; go_simp; try with_reducible rfl)
  try simp only [Act.put, List.getElem_toArray, List.getElem_cons_succ, List.getElem_cons_zero, List.setIfInBounds_toArray, List.set_cons_zero, List.set_cons_succ]
  refine' anyI_take R 2 rfl (v := ?_) (by kernel_rfl) (by rfl) (fun V hV => ?hy) HS0.out ?_
  case hy => ((try dsimp only at hV);  have y0 := (hV.cell (p := ⟨g, 0, none⟩) hg).trans z0; go_simp; try with_reducible rfl)
  try simp only [Act.put, List.getElem_toArray, List.getElem_cons_succ, List.getElem_cons_zero, List.setIfInBounds_toArray, List.set_cons_zero, List.set_cons_succ]
  refine' anyI_take R 3 rfl (v := ?_) (by kernel_rfl) (by rfl) (fun V hV => ?hy) HS0.out ?_
  case hy => ((try dsimp only at hV);  have y0 := (hV.cell (p := ⟨g, 0, none⟩) hg).trans z0; go_simp; try with_reducible rfl)
  try simp only [Act.put, List.getElem_toArray, List.getElem_cons_succ, List.getElem_cons_zero, List.setIfInBounds_toArray, List.set_cons_zero, List.set_cons_succ]
  refine' anyI_take R 4 rfl (v := ?_) (by kernel_rfl) (by rfl) (fun V hV => ?hy) HS0.out ?_
  case hy => ((try dsimp only at hV);  have y0 := (hV.cell (p := ⟨g, 0, none⟩) hg).trans z0; go_simp; try with_reducible rfl)
  try simp only [Act.put, List.getElem_toArray, List.getElem_cons_succ, List.getElem_cons_zero, List.setIfInBounds_toArray, List.set_cons_zero, List.set_cons_succ]
  refine' anyI_take R 5 rfl (v := ?_) (by kernel_rfl) (by rfl) (fun V hV => ?hy) HS0.out ?_
  case hy => ((try dsimp only at hV);  have y0 := (hV.cell (p := ⟨g, 0, none⟩) hg).trans z0; go_simp; try with_reducible rfl)
  try simp only [Act.put, List.getElem_toArray, List.getElem_cons_succ, List.getElem_cons_zero, List.setIfInBounds_toArray, List.set_cons_zero, List.set_cons_succ]
  refine' anyI_take R 6 rfl (v := ?_) (by kernel_rfl) (by rfl) (fun V hV => ?hy) HS0.out ?_
  case hy => ((try dsimp only at hV);  have y0 := (hV.cell (p := ⟨g, 0, none⟩) hg).trans z0; go_simp; try with_reducible rfl)
  try simp only [Act.put, List.getElem_toArray, List.getElem_cons_succ, List.getElem_cons_zero, List.setIfInBounds_toArray, List.set_cons_zero, List.set_cons_succ]
  refine' anyI_take R 7 rfl (v := ?_) (by kernel_rfl) (by rfl) (fun V hV => ?hy) HS0.out ?_
  case hy => ((try dsimp only at hV);  have y0 := (hV.cell (p := ⟨g, 0, none⟩) hg).trans z0; go_simp; try with_reducible rfl)
  try simp only [Act.put, List.getElem_toArray, List.getElem_cons_succ, List.getElem_cons_zero, List.setIfInBounds_toArray, List.set_cons_zero, List.set_cons_succ]
  refine' anyI_take R 8 rfl (v := ?_) (by kernel_rfl) (by rfl) (fun V hV => ?hy) HS0.out ?_
  case hy => ((try dsimp only at hV);  have y0 := (hV.cell (p := ⟨g, 0, none⟩) hg).trans z0; go_simp; try with_reducible rfl)
  try simp only [Act.put, List.getElem_toArray, List.getElem_cons_succ, List.getElem_cons_zero, List.setIfInBounds_toArray, List.set_cons_zero, List.set_cons_succ]
  refine' anyI_take R 9 rfl (v := ?_) (by kernel_rfl) (by rfl) (fun V hV => ?hy) HS0.out ?_
  case hy => ((try dsimp only at hV);  have y0 := (hV.cell (p := ⟨g, 0, none⟩) hg).trans z0; go_simp; try with_reducible rfl)
  try simp only [Act.put, List.getElem_toArray, List.getElem_cons_succ, List.getElem_cons_zero, List.setIfInBounds_toArray, List.set_cons_zero, List.set_cons_succ]
  refine' anyI_take R 10 rfl (v := ?_) (by kernel_rfl) (by rfl) (fun V hV => ?hy) HS0.out ?_
  case hy => ((try dsimp only at hV);  have y0 := (hV.cell (p := ⟨g, 0, none⟩) hg).trans z0; go_simp; try with_reducible rfl)
  try simp only [Act.put, List.getElem_toArray, List.getElem_cons_succ, List.getElem_cons_zero, List.setIfInBounds_toArray, List.set_cons_zero, List.set_cons_succ]
  refine anyI_one 11 (by kernel_rfl) rfl ?_
  try simp only [List.getElem_toArray, List.getElem_cons_succ, List.getElem_cons_zero]
  refine opE_step ?_
  rw [if_pos (by rfl)]
  go_simp
  have hrp : RdB (w2.alloc (.cells (zcells 32) 5)).drew (w2.alloc (.cells (zcells 32) 5)).drew.heap.size (some ⟨w2.heap.size, 0, none⟩) (zeroL 32) := (rdb_zc w2).keep (Nat.le_refl _) (fun _ _ => rfl)
  replace HS0 := Lib.hid (show Below w2.heap.size w2 (w2.alloc (.cells (zcells 32) 5)).drew from (below1 w2 _).drew)
  obtain ⟨V11, hV11⟩ : ∃ V, (w2.alloc (.cells (zcells 32) 5)).drew = V := ⟨_, rfl⟩
  rw [hV11] at HS0 hrp ⊢
  clear hV11
  try dsimp only
  refine ⟨HS0.out, ?_⟩
  try simp only [Act.put, List.getElem_toArray, List.getElem_cons_succ, List.getElem_cons_zero, List.setIfInBounds_toArray, List.set_cons_zero, List.set_cons_succ]
  refine anyI_one 12 (by kernel_rfl) rfl ?_
  try simp only [List.getElem_toArray, List.getElem_cons_succ, List.getElem_cons_zero]
  refine opE_step ?_
  rw [if_pos (by rfl)]
  go_simp
  go_at_call 31
  have hsz := HS0.out.size
  have CS := Lib.hid (sameT_any (c := c1) (c' := 32) (bs := zeroL 32) z32.symm z32.symm ((hr0.below HS0.out (Nat.le_refl _)).more hsz) hrp)
  (with_reducible refine CS.out.mono ?_)
  rintro e w12 ⟨rfl, m12, hw12⟩
  replace HS0 := Lib.hid (show Below w2.heap.size w2 w12 by rw [hw12]; exact HS0.out.trans (belowN _ _ m12))
  clear hw12
  try dsimp only
  refine ⟨HS0.out, ?_⟩
  try simp only [Act.put, List.getElem_toArray, List.getElem_cons_succ, List.getElem_cons_zero, List.setIfInBounds_toArray, List.set_cons_zero, List.set_cons_succ]
  refine' anyI_take R 13 rfl (v := ?_) (by kernel_rfl) (by rfl) (fun V hV => ?hy) HS0.out ?_
  case hy => ((try dsimp only at hV);  have y0 := (hV.cell (p := ⟨g, 0, none⟩) hg).trans z0; go_simp; try with_reducible rfl)
  try simp only [Act.put, List.getElem_toArray, List.getElem_cons_succ, List.getElem_cons_zero, List.setIfInBounds_toArray, List.set_cons_zero, List.set_cons_succ]
  refine' anyI_take R 14 rfl (v := ?_) (by kernel_rfl) (by rfl) (fun V hV => ?hy) HS0.out ?_
  case hy => ((try dsimp only at hV);  have y0 := (hV.cell (p := ⟨g, 0, none⟩) hg).trans z0; go_simp; try with_reducible rfl)
  try simp only [Act.put, List.getElem_toArray, List.getElem_cons_succ, List.getElem_cons_zero, List.setIfInBounds_toArray, List.set_cons_zero, List.set_cons_succ]
  refine anyI_tail (by kernel_rfl) ?_
  try simp only [List.drop_succ_cons, List.drop_zero]
  clear R
  go_wp2_with fail
  refine NoPanic.normal ?_
  go_wp2_with fail
  go_ret
  exact ⟨rfl, F.trans (HS0.out.mono F.size)⟩
end Go.Proofs.Ytadfimimkkimmaa
end
section
set_option maxRecDepth 8000
set_option linter.unusedVariables false
set_option linter.unusedSimpArgs false
namespace Go.Proofs.Ytadfimimkkimmaa
open Go.RowKit

def rowOf (F : Nat → Value) (n : Nat) : List Value := (List.range n).map F
theorem rowOf_len (F : Nat → Value) (n : Nat) : (rowOf F n).length = n := by unfold rowOf; simp
theorem rowOf_get {n i : Nat} (F : Nat → Value) (h : i < n) : (rowOf F n)[i]? = some (F i) := by unfold rowOf; simp [h]
theorem rowOf_set {n i : Nat} (F : Nat → Value) (v : Value) (h : i < n) : spl (rowOf F n) i [v] = rowOf (upd F i v) n := by
  apply List.ext_getElem?
  intro j
  have hl : ((rowOf F n).take i).length = i := by rw [List.length_take, rowOf_len]; omega
  unfold spl
  rw [List.append_assoc]
  by_cases hj : j < i
  · rw [List.getElem?_append_left (by omega), List.getElem?_take, if_pos hj, rowOf_get _ (by omega), rowOf_get _ (by omega), upd_other _ _ (by omega)]
  · rw [List.getElem?_append_right (by omega), hl]
    by_cases e : j = i
    · subst e; rw [Nat.sub_self, rowOf_get _ h, upd_same]; rfl
    · obtain ⟨k, hk⟩ : ∃ k, j - i = k + 1 := ⟨j - i - 1, by omega⟩
      rw [hk, List.cons_append, List.getElem?_cons_succ, List.nil_append, List.getElem?_drop]
      rw [show i + [v].length + k = j by simp; omega]
      by_cases hjn : j < n
      · rw [rowOf_get _ hjn, rowOf_get _ hjn, upd_other _ _ e]
      · rw [List.getElem?_eq_none (by rw [rowOf_len]; omega), List.getElem?_eq_none (by rw [rowOf_len]; omega)]
theorem rowOf_made (z : Value) (n : Nat) : madeCells #[z] n = (rowOf (fun _ => z) n).toArray := by
  apply Array.toList_inj.1
  apply List.ext_getElem?
  intro j
  rw [toList_madeCells_one, List.getElem?_replicate]
  by_cases h : j < n
  · rw [if_pos h]
    show _ = (rowOf (fun _ => z) n)[j]?
    rw [rowOf_get _ h]
  · rw [if_neg h]
    show _ = (rowOf (fun _ => z) n)[j]?
    rw [List.getElem?_eq_none (by rw [rowOf_len]; omega)]
theorem info_boo : (Try.prog.info? 4).map (fun i => (i.zero, i.size, i.bytes)) = some (some (.bool false), 1, 1) := by kernel_rfl
theorem make_bools (n : Nat) (hn : n ≤ 1000000) (w : World) : (Instr.makeSlice 28 (.int .i64 (n : Int)) (.int .i64 (n : Int))).run Try.prog w = .ok (.slice (some ⟨w.heap.size, 0, none⟩) n n) (w.alloc (.cells (rowOf (fun _ => .bool false) n).toArray 4)) := by
  rw [← rowOf_made (.bool false) n]
  exact run_make_row' _ _ _ 1 Try.underlying28 info_boo rfl _ _ n (by omega) (by omega) w
end Go.Proofs.Ytadfimimkkimmaa
end
section
set_option maxRecDepth 8000
set_option linter.unusedVariables false
set_option linter.unusedSimpArgs false
namespace Go.Proofs.Ytadfimimkkimmaa
open Go.RowKit

def liveB (n : Int) (d i : Nat) : Bool := if 0 < withinI n 3 ∧ withinI (n.tdiv 3) d = (i : Int) then false else if withinI n 9 = 8 ∧ withinI (n.tdiv 27) d = (i : Int) then false else true
def liveL (n : Int) (d : Nat) : List Bool := (List.range d).map (liveB n d)
theorem liveL_len (n : Int) (d : Nat) : (liveL n d).length = d := by unfold liveL; simp
theorem liveL_get (n : Int) {d i : Nat} (h : i < d) : (liveL n d).getD i false = liveB n d i := by unfold liveL; simp [h]
theorem live_some (n : Int) : ∃ j, j < 4 ∧ liveB n 4 j = true := by
  obtain ⟨j, h1, h2, h3⟩ : ∃ j : Nat, j < 4 ∧ withinI (n.tdiv 3) (4 : Nat) ≠ (j : Int) ∧ withinI (n.tdiv 27) (4 : Nat) ≠ (j : Int) := by
    generalize withinI (n.tdiv 3) (4 : Nat) = a
    generalize withinI (n.tdiv 27) (4 : Nat) = b
    by_cases c0 : a ≠ ((0 : Nat) : Int) ∧ b ≠ ((0 : Nat) : Int)
    · exact ⟨0, by omega, c0.1, c0.2⟩
    · by_cases c1 : a ≠ ((1 : Nat) : Int) ∧ b ≠ ((1 : Nat) : Int)
      · exact ⟨1, by omega, c1.1, c1.2⟩
      · exact ⟨2, by omega, by omega, by omega⟩
  refine ⟨j, h1, ?_⟩
  unfold liveB
  rw [if_neg (fun h => h2 h.2), if_neg (fun h => h3 h.2)]
theorem live_row {w : World} {g d : Nat} {G : Nat → Value} {n : Int} (h : w.heap[g]? = some (.cells (rowOf G d).toArray 4 (0, 0))) (hG : ∀ j, j < d → G j = .bool (liveB n d j)) : w.heap[g]? = some (.cells ((liveL n d).map Value.bool).toArray 4 (0, 0)) := by
  rw [h]
  have : rowOf G d = (liveL n d).map Value.bool := by
    unfold rowOf liveL
    rw [List.map_map]
    exact List.map_congr_left fun j hj => hG j (List.mem_range.1 hj)
  rw [this]
theorem tdiv_bd (n k : Int) (hn : (-9223372036854775808 ≤ n ∧ n ≤ 9223372036854775807)) (hk : 1 ≤ k) : (-9223372036854775808 ≤ n.tdiv k ∧ n.tdiv k ≤ 9223372036854775807) := by
  have h : (n.tdiv k).natAbs ≤ n.natAbs := by rw [Int.natAbs_tdiv]; exact Nat.div_le_self _ _
  rcases Int.le_total 0 n with h0 | h0
  · have := Int.tdiv_nonneg h0 (show 0 ≤ k by omega)
    omega
  · have : n.tdiv k ≤ 0 := by
      have h1 := Int.tdiv_nonneg (a := -n) (b := k) (by omega) (by omega)
      rw [Int.neg_tdiv] at h1; omega
    omega
set_option maxRecDepth 100000 in
set_option maxHeartbeats 4000000 in
theorem live_any (n : Int) (d : Nat) (w : World) (hn : (-9223372036854775808 ≤ n ∧ n ≤ 9223372036854775807)) (hd : 1 ≤ d ∧ d ≤ 8) :
    Calls Try.prog 10 #[.int .i64 n, .int .i64 (d : Int)] w fun e w' => ∃ g, e = .returned (.slice (some ⟨g, 0, none⟩) d d) ∧ w'.heap[g]? = some (.cells ((liveL n d).map Value.bool).toArray 4 (0, 0)) ∧ w.heap.size ≤ g ∧ Below w.heap.size w w' := by
  have hmb := make_bools d (by omega)
  have W3 := Lib.hid (fun V => within_any n 3 V hn (by omega))
  have W9 := Lib.hid (fun V => within_any n 9 V hn (by omega))
  have Wa := Lib.hid (fun V => within_any (n.tdiv 3) (d : Int) V (tdiv_bd n 3 hn (by omega)) (by omega))
  have Wb := Lib.hid (fun V => within_any (n.tdiv 27) (d : Int) V (tdiv_bd n 27 hn (by omega)) (by omega))
  have HL := Lib.hid (fun (V : World) (g : Nat) (G : Nat → Value) => live_row (w := V) (g := g) (d := d) (G := G) (n := n))
  have Hlb : Hid (∀ j, liveB n d j = if 0 < withinI n 3 ∧ withinI (n.tdiv 3) d = (j : Int) then false else if withinI n 9 = 8 ∧ withinI (n.tdiv 27) d = (j : Int) then false else true) := fun j => rfl
  have ba := withinI_bd (n.tdiv 3) (d : Int) (by omega)
  have bb := withinI_bd (n.tdiv 27) (d : Int) (by omega)
  obtain ⟨a, ha⟩ := Int.eq_ofNat_of_zero_le ba.1
  obtain ⟨c, hc⟩ := Int.eq_ofNat_of_zero_le bb.1
  rw [ha] at Wa ba Hlb
  rw [hc] at Wb bb Hlb
  generalize withinI n 3 = q3 at W3 Hlb
  generalize withinI n 9 = q9 at W9 Hlb
  have d0 : (0 : Int) ≤ (d : Int) := by omega
  have d1 : (0 : Int) < (d : Int) := by omega
  have a0 : (0 : Int) ≤ (a : Int) := by omega
  have c0 : (0 : Int) ≤ (c : Int) := by omega
  have ad : a < d := by omega
  have cd : c < d := by omega
  have hi3 := tdiv_bd n 3 hn (by omega)
  have hi27 := tdiv_bd n 27 hn (by omega)
  clear ha hc
  go_enter Try.func10, Try.ntmps10
  go_wp2
  go_name_world w1 hw1
  have h1 : w1.heap[w.heap.size]? = some (.cells (rowOf (fun _ => .bool false) d).toArray 4 (0, 0)) := by rw [← hw1]; exact hp_new _ _ _ rfl
  have B1 := Lib.hid (show Below w.heap.size w w1 by rw [← hw1]; exact below1 _ _)
  have H1 := Lib.hid h1
  clear hw1 h1
  generalize hgw : w.heap.size = g at *
  have Hgw := Lib.hid hgw
  clear hgw
  go_loopw [11] (fun i wr => ∃ (j : Nat) (G : Nat → Value), j ≤ d ∧ i = .int .i64 j ∧ wr.heap[g]? = some (.cells (rowOf G d).toArray 4 (0, 0)) ∧ (∀ k, k < j → G k = .bool true) ∧ Below g w wr) (fun i _ => d - (intOf i).toNat)
  case atStart => exact ⟨0, _, Nat.zero_le _, rfl, H1.out, fun k hk => by omega, B1.out⟩
  case round =>
    obtain ⟨j, G, hj, rfl, hG, hall, hb⟩ := hrel
    have HG := Lib.hid hG
    have Hall := Lib.hid hall
    have Hb := Lib.hid hb
    clear hG hall hb H1
    have hgl := (Array.getElem?_eq_some_iff.1 HG.out).1
    by_cases hlt : j < d
    · have i0 : (0 : Int) ≤ (j : Int) := by omega
      have i1 : (j : Int) < (d : Int) := by omega
      go_wp2_with (refine wpList_store_blk rfl 4 _ _ (by rfl) g j (.bool true) (by rfl) (by rfl) (rowOf G d) 4 HG.out [.bool true] (by rfl) 1 rfl size_bool1 (by rw [rowOf_len]; omega) (by intro u hu; rw [List.mem_singleton.1 hu]; rfl) (rowOf (upd G j (.bool true)) d) (rowOf_set G _ hlt) ?_; intro w2 h2 g2)
      go_roundw
      case rel => exact ⟨j + 1, upd G j (.bool true), by omega, by go_num, h2, fun k hk => by
        by_cases e : k = j
        · subst e; rw [upd_same]
        · rw [upd_other _ _ e]; exact Hall.out k (by omega), Hb.out.grown g2 (by have := Hb.out.size; rw [Hgw.out] at this; omega) (fun j e => by injection e with e; omega)⟩
      case measure => simp [intOf]; omega
    · obtain rfl : j = d := by omega
      have hz : g ≤ wr.heap.size := by have := Hb.out.size; rw [Hgw.out] at this; exact this
      by_cases h3 : 0 < q3
      · by_cases h9 : q9 = 8
        · have Hl := Lib.hid (fun i => (Hlb.out i).trans (show _ = if (a : Int) = (i : Int) then false else if (c : Int) = (i : Int) then false else true by simp only [h3, h9, true_and]))
          subst h9
          go_wp2_with (first
        | (go_at_call 11; (with_reducible refine (W3.out _).mono ?_); rintro e wxW3 ⟨rfl, rfl⟩)
        | (go_at_call 11; (with_reducible refine (Wa.out _).mono ?_); rintro e wxWa ⟨rfl, rfl⟩)
        | (go_at_call 11; (with_reducible refine (W9.out _).mono ?_); rintro e wxW9 ⟨rfl, rfl⟩)
        | (go_at_call 11; (with_reducible refine (Wb.out _).mono ?_); rintro e wxWb ⟨rfl, rfl⟩)
        | (refine wpList_store_blk rfl 4 _ _ (by rfl) g a (.bool false) (by rfl) (by rfl) (rowOf G j) 4 HG.out [.bool false] (by rfl) 1 rfl size_bool1 (by rw [rowOf_len]; omega) (by intro u hu; rw [List.mem_singleton.1 hu]; rfl) (rowOf (upd G a (.bool false)) j) (rowOf_set _ _ ad) ?_
           intro w2 h2 g2
           have HG2 := Lib.hid h2
           have Hb2 := Lib.hid (Hb.out.grown g2 (by have := Hb.out.size; rw [Hgw.out] at this; exact this) (fun j e => by injection e with e; omega))
           clear h2 g2)
        | (refine wpList_store_blk rfl 4 _ _ (by rfl) g c (.bool false) (by rfl) (by rfl) (rowOf (upd G a (.bool false)) j) 4 HG2.out [.bool false] (by rfl) 1 rfl size_bool1 (by rw [rowOf_len]; omega) (by intro u hu; rw [List.mem_singleton.1 hu]; rfl) (rowOf (upd (upd G a (.bool false)) c (.bool false)) j) (rowOf_set _ _ cd) ?_
           intro w3 h3 g3
           have HG3 := Lib.hid h3
           have Hb3 := Lib.hid (Hb2.out.grown g3 (by have := Hb2.out.size; rw [Hgw.out] at this; exact this) (fun j e => by injection e with e; omega))
           clear h3 g3))
          go_ret
          exact ⟨g, rfl, HL.out _ _ _ HG3.out (fun i hi => by
            rw [Hl.out i]
            by_cases e1 : i = c
            · subst e1; rw [upd_same]; split; rfl; rw [if_pos rfl]
            · rw [upd_other _ _ e1]
              by_cases e2 : i = a
              · subst e2; rw [upd_same, if_pos rfl]
              · rw [upd_other _ _ e2, if_neg (by omega), if_neg (by omega)]; exact Hall.out i hi), Nat.le_of_eq Hgw.out, by rw [Hgw.out]; exact Hb3.out⟩
        · have Hl := Lib.hid (fun i => (Hlb.out i).trans (show _ = if (a : Int) = (i : Int) then false else true by simp only [h3, h9, true_and, false_and, if_false]))
          have b9 : (q9 == 8) = false := by rw [beq_eq_false_iff_ne]; exact h9
          go_wp2_with (first
        | (go_at_call 11; (with_reducible refine (W3.out _).mono ?_); rintro e wxW3 ⟨rfl, rfl⟩)
        | (go_at_call 11; (with_reducible refine (Wa.out _).mono ?_); rintro e wxWa ⟨rfl, rfl⟩)
        | (go_at_call 11; (with_reducible refine (W9.out _).mono ?_); rintro e wxW9 ⟨rfl, rfl⟩)
        | (refine wpList_store_blk rfl 4 _ _ (by rfl) g a (.bool false) (by rfl) (by rfl) (rowOf G j) 4 HG.out [.bool false] (by rfl) 1 rfl size_bool1 (by rw [rowOf_len]; omega) (by intro u hu; rw [List.mem_singleton.1 hu]; rfl) (rowOf (upd G a (.bool false)) j) (rowOf_set _ _ ad) ?_
           intro w2 h2 g2
           have HG2 := Lib.hid h2
           have Hb2 := Lib.hid (Hb.out.grown g2 (by have := Hb.out.size; rw [Hgw.out] at this; exact this) (fun j e => by injection e with e; omega))
           clear h2 g2))
          go_ret
          exact ⟨g, rfl, HL.out _ _ _ HG2.out (fun i hi => by
            rw [Hl.out i]
            by_cases e2 : i = a
            · subst e2; rw [upd_same, if_pos rfl]
            · rw [upd_other _ _ e2, if_neg (by omega)]; exact Hall.out i hi), Nat.le_of_eq Hgw.out, by rw [Hgw.out]; exact Hb2.out⟩
      · by_cases h9 : q9 = 8
        · have Hl := Lib.hid (fun i => (Hlb.out i).trans (show _ = if (c : Int) = (i : Int) then false else true by simp only [h3, h9, true_and, false_and, if_false]))
          subst h9
          go_wp2_with (first
        | (go_at_call 11; (with_reducible refine (W3.out _).mono ?_); rintro e wxW3 ⟨rfl, rfl⟩)
        | (go_at_call 11; (with_reducible refine (W9.out _).mono ?_); rintro e wxW9 ⟨rfl, rfl⟩)
        | (go_at_call 11; (with_reducible refine (Wb.out _).mono ?_); rintro e wxWb ⟨rfl, rfl⟩)
        | (refine wpList_store_blk rfl 4 _ _ (by rfl) g c (.bool false) (by rfl) (by rfl) (rowOf G j) 4 HG.out [.bool false] (by rfl) 1 rfl size_bool1 (by rw [rowOf_len]; omega) (by intro u hu; rw [List.mem_singleton.1 hu]; rfl) (rowOf (upd G c (.bool false)) j) (rowOf_set _ _ cd) ?_
           intro w3 h3 g3
           have HG3 := Lib.hid h3
           have Hb3 := Lib.hid (Hb.out.grown g3 (by have := Hb.out.size; rw [Hgw.out] at this; exact this) (fun j e => by injection e with e; omega))
           clear h3 g3))
          go_ret
          exact ⟨g, rfl, HL.out _ _ _ HG3.out (fun i hi => by
            rw [Hl.out i]
            by_cases e1 : i = c
            · subst e1; rw [upd_same, if_pos rfl]
            · rw [upd_other _ _ e1, if_neg (by omega)]; exact Hall.out i hi), Nat.le_of_eq Hgw.out, by rw [Hgw.out]; exact Hb3.out⟩
        · have Hl := Lib.hid (fun i => (Hlb.out i).trans (show _ = true by simp only [h3, h9, false_and, if_false]))
          have b9 : (q9 == 8) = false := by rw [beq_eq_false_iff_ne]; exact h9
          go_wp2_with (first
        | (go_at_call 11; (with_reducible refine (W3.out _).mono ?_); rintro e wxW3 ⟨rfl, rfl⟩)
        | (go_at_call 11; (with_reducible refine (W9.out _).mono ?_); rintro e wxW9 ⟨rfl, rfl⟩))
          go_ret
          exact ⟨g, rfl, HL.out _ _ _ HG.out (fun i hi => by rw [Hl.out i]; exact Hall.out i hi), Nat.le_of_eq Hgw.out, by rw [Hgw.out]; exact Hb.out⟩
end Go.Proofs.Ytadfimimkkimmaa
end
section
set_option maxRecDepth 20000
set_option linter.unusedVariables false
set_option linter.unusedSimpArgs false
namespace Go.Proofs.Ytadfimimkkimmaa
open Go.RowKit

section
variable {W w w' : World} {b : Nat} {H : BH} {N : Bch} {K : List (Nat × Obj)} {R : List (Option Addr × List (List UInt8))} {S : List (Option Addr × List UInt8)}
/-- A block that was made since. -/
theorem KS.block (h : KS W w b H N K R S) (hb : Below w.heap.size w w') {g : Nat} {o : Obj} (hg : w'.heap[g]? = some o) (hw : w.heap.size ≤ g) : KS W w' b H N ((g, o) :: K) R S := by
  have h' := h.below hb
  refine ⟨⟨h'.bp, fun p hp => ?_⟩, h'.rx, h'.sx⟩
  rcases List.mem_cons.1 hp with rfl | hp
  · exact ⟨hg, fun e => by have := h.flt _ e; omega, by have := h.bp.bel.size; omega⟩
  · exact h'.kx.kp p hp
theorem KS.rdz (h : KS W w b H N K R S) {A : Option Addr} {zs : List Int} (hz : RdZ W W.heap.size A zs) : RdZ w w.heap.size A zs := (hz.below h.bp.bel (Nat.le_refl _)).keep h.bp.bel.size fun _ _ => rfl
theorem KS.owv (h : KS W w b H N K R S) (hb : Below w.heap.size w w') {v : Value} {rs : List (List UInt8)} (ho : OwV w.heap.size w' v rs) (hl : rs.length ≤ 1000000) : ∃ A c, v = .slice A rs.length c ∧ KS W w' b H N K ((A, rs) :: R) S := by
  obtain ⟨xs, h1, h2⟩ := ho
  obtain ⟨A, c, e, _, hr⟩ := rdf_own h1 (by omega) h2
  exact ⟨A, c, e, h.rows hb hr⟩
end
section
variable {W w : World} {b : Nat} {H : BH} {N : Bch} {K : List (Nat × Obj)} {R : List (Option Addr × List (List UInt8))} {S : List (Option Addr × List UInt8)} (h : KS W w b H N K R S)
include h
theorem ks_live (n : Int) (d : Nat) (hn : (-9223372036854775808 ≤ n ∧ n ≤ 9223372036854775807)) (hd : 1 ≤ d ∧ d ≤ 8) :
    Calls Try.prog 10 #[.int .i64 n, .int .i64 (d : Int)] w fun e w' => ∃ g, e = .returned (.slice (some ⟨g, 0, none⟩) d d) ∧ KS W w' b H N ((g, Obj.cells ((liveL n d).map Value.bool).toArray 4 (0, 0)) :: K) R S := by
  refine (live_any n d w hn hd).mono ?_
  rintro e w' ⟨g, rfl, hg, hw, hb⟩
  exact ⟨g, rfl, h.block hb hg hw⟩
theorem ks_sectors {A : Option Addr} {zs : List Int} (m cp n : Nat) (hm : m = zs.length) (hz : RdZ W W.heap.size A zs) (hn : n ≤ 8) :
    Calls Try.prog 12 #[.slice A m cp, .int .i64 (n : Int)] w fun e w' => ∃ A' c', e = .returned (.slice A' n c') ∧ KS W w' b H N K ((A', sectorsB zs n) :: R) S := by
  refine (sectors_any A zs m cp n w hm (h.rdz hz) hn).mono ?_
  rintro e w' ⟨v, rfl, ho, hb⟩
  obtain ⟨A', c', rfl, k⟩ := h.owv hb ho (by rw [sectorsB_len]; omega)
  rw [sectorsB_len]
  exact ⟨A', c', rfl, k⟩
theorem ks_data {n l c r : Int} {D F Wd : Nat} (gr : Gr n l c r D F Wd) (ρ : Nat) (hρ : ρ ≤ 1000) {A : Option Addr} {zs : List Int} (m cp : Nat) (hm : m = zs.length) (hcp : zs.length ≤ cp) (hz : RdZ W W.heap.size A zs) :
    Calls Try.prog 17 #[.agg #[.int .i64 l, .int .i64 (D : Int), .int .i64 c], .int .i64 (ρ : Int), .slice A m cp] w fun e w' => ∃ A' c', e = .returned (.slice A' Wd c') ∧ KS W w' b H N K ((A', datL zs ρ Wd) :: R) S := by
  refine (data_any gr ρ hρ A zs m cp w hm hcp (h.rdz hz)).mono ?_
  rintro e w' ⟨v, rfl, ho, hb⟩
  obtain ⟨A', c', rfl, k⟩ := h.owv hb ho (by rw [datL_len]; have := gr.w7; omega)
  rw [datL_len]
  exact ⟨A', c', rfl, k⟩
theorem ks_sameR {A A' : Option Addr} {ra rb : List (List UInt8)} (n n' c c' : Nat) (hn : ra.length = n) (hn' : rb.length = n') (hr : (A, ra) ∈ R) (hr' : (A', rb) ∈ R) :
    Calls Try.prog 19 #[.slice A n c, .slice A' n' c'] w fun e w' => e = .returned (.bool (decide (ra = rb))) ∧ KS W w' b H N K R S := by
  refine (sameS_any A A' ra rb n n' c c' w hn hn' (h.rd hr) (h.rd hr')).mono ?_
  rintro e w' ⟨rfl, hb⟩
  exact ⟨rfl, h.below hb⟩
end
/-- A filled bench, beside the box of its geometry. -/
theorem filled_open {n l c r : Int} {D F Wd : Nat} (gr : Gr n l c r D F Wd) (m : Nat) (hD : D ≤ m) (hm : m ≤ 8) {A : Option Addr} {zs : List Int} (k cp : Nat) {W w1 : World} (hb : Below W.heap.size W w1) (hk : k = zs.length) (hcp : zs.length ≤ cp) (hz : RdZ W W.heap.size A zs) :
    Calls Try.prog 9 #[.agg #[.int .i64 l, .int .i64 (D : Int), .int .i64 c], .int .i64 (m : Int), .slice A k cp] (w1.alloc (.cells #[.int .i64 l, .int .i64 (D : Int), .int .i64 c] 24)) fun e w' => ∃ b H N, e = .returned (.pointer (some ⟨b, 0, none⟩)) ∧ KS W w' b H N [(w1.heap.size, Obj.cells #[.int .i64 l, .int .i64 (D : Int), .int .i64 c] 24 (0, 0))] [] [] ∧ Fld N m D (rowL l c D Wd zs) 16 0 := by
  have hb1 := hb.alloc hb.size (.cells #[.int .i64 l, .int .i64 (D : Int), .int .i64 c] 24)
  refine (stpFilled_any gr m hD hm A zs k cp _ hk hcp ((hz.below hb1 (Nat.le_refl _)).keep hb1.size fun _ _ => rfl)).mono ?_
  rintro e w' ⟨b, H, N, rfl, k, f⟩
  exact ⟨b, H, N, rfl, k.open hb1 (hp_new _ _ _ rfl) hb.size, f⟩
theorem live0 {d i : Nat} (hi : i < d) : (liveL 0 d).getD i false = true := by
  rw [liveL_get 0 hi]
  unfold liveB
  rw [if_neg, if_neg]
  · rintro ⟨h, _⟩; revert h; decide
  · rintro ⟨h, _⟩; revert h; decide
theorem srv_fail {N : Bch} {lv : List Bool} {d : Nat} (hd : d < N.n) (i : Nat) : srvD (N.fail (d : Int)) lv i = (srvD N lv i && !decide (i = d)) := by
  unfold srvD livD
  rw [fail_is, fail_D hd]
  by_cases e : i = d
  · rw [if_pos e, decide_eq_true e]; simp [Dsk.failed]
  · rw [if_neg e, decide_eq_false e]; simp
theorem cnt_fail1 {N : Bch} {lv : List Bool} {D d : Nat} (hd : d < N.n) (hs : ∀ i, i < D → srvD N lv i = true) : cntB D (fun i => !srvD (N.fail (d : Int)) lv i) ≤ 1 := by
  rw [cntB_congr (b' := fun i => decide (i = d)) fun i hi => by rw [srv_fail hd, hs i hi]; simp]
  exact cntB_one_le _ _
theorem cnt_fail2 {N : Bch} {lv : List Bool} {D d e : Nat} (hd : d < N.n) (he : e < N.n) (hs : ∀ i, i < D → srvD N lv i = true) : cntB D (fun i => !srvD ((N.fail (d : Int)).fail (e : Int)) lv i) ≤ 2 := by
  rw [cntB_congr (b' := fun i => decide (i = d) || decide (i = e)) fun i hi => by rw [srv_fail (by rw [fail_is]; exact he), srv_fail hd, hs i hi]; simp]
  have h := cntB_or D (fun i => decide (i = d)) (fun i => decide (i = e))
  have h1 := cntB_one_le D d
  have h2 := cntB_one_le D e
  omega
end Go.Proofs.Ytadfimimkkimmaa
end
section
namespace Go.Proofs.Ytadfimimkkimmaa
open Go.ChangeShapes Go.WideShapes Go.ChangeAt Go.RowKit Go.Deep

section
variable {H : Type} {enc : TypeId × Value → H} {P : Program}
theorem addr_of {W : World} {x : Addr} {u : Value} (h : W.cell? (x.add 0) = some u) : ∃ b off, x = ⟨b, off, none⟩ ∧ b < W.heap.size := by
  obtain ⟨b, off, spot⟩ := x
  have hspot : spot = none := by simpa [Addr.add] using World.cell?_spot h
  subst hspot
  have := World.block_lt_of_cell? _ _ h
  exact ⟨b, off, rfl, by simpa [Addr.add] using this⟩
theorem addr_add (b off k : Nat) : ((⟨b, off, none⟩ : Addr).add k) = ⟨b, off + k, none⟩ := by unfold Addr.add; by_cases hk0 : k = 0 <;> simp [hk0]
/-- A slice of bools that came in. -/
theorem open_rdo {t e : TypeId} (ht : P.underlying t = some (.slice e)) (he : P.underlying e = some .bool) (hc : P.cellsOf e = 1) {r : Reach} {W : World} {base : Nat} {v : Value} {d : DataW H} {p : List MemPlace}
    (hv : Value.okWide P W r base t v) (h : DataW.Trod enc P W 0 (fun _ => true) true t v d p) : ∃ A ks cap, v = .slice A ks.length cap ∧ ks.length ≤ cap ∧ RdO W W.heap.size A ks := by
  obtain ⟨A, len, cap, rfl⟩ := okWide_slice ht hv
  obtain ⟨fuel, hf⟩ := h
  rcases open_bools ht he hc hf with ⟨hcs, _⟩ | ⟨x, l, c, B, hcs, _, hl, hm, _, hcell⟩
  · simp [Value.cells] at hcs
    obtain ⟨rfl, rfl, rfl⟩ := hcs
    exact ⟨none, [], 0, rfl, Nat.le_refl _, RdO.nil _ _ _⟩
  · simp [Value.cells] at hcs
    obtain ⟨rfl, rfl, rfl⟩ := hcs
    have hL : ((List.range len).map B).length = len := by simp
    refine ⟨some x, (List.range len).map B, cap, by rw [hL], by rw [hL]; exact hl, by rw [hL]; unfold maxLen at hm; omega, fun hn => ?_⟩
    rw [hL] at hn
    obtain ⟨b, off, rfl, hb⟩ := addr_of (hcell 0 (by omega))
    refine ⟨b, off, rfl, hb, fun k hk => ?_⟩
    rw [hL] at hk
    have := hcell k (by omega)
    rw [addr_add] at this
    rw [this]
    simp [hk]
/-- A slice of whole numbers that came in. -/
theorem open_rdz {t e : TypeId} (ht : P.underlying t = some (.slice e)) (he : P.underlying e = some (.int .i64)) (hc : P.cellsOf e = 1) {r : Reach} {W : World} {base : Nat} {v : Value} {d : DataW H} {p : List MemPlace}
    (hv : Value.okWide P W r base t v) (h : DataW.Trod enc P W 0 (fun _ => true) true t v d p) : ∃ A zs cap, v = .slice A zs.length cap ∧ zs.length ≤ cap ∧ RdZ W W.heap.size A zs := by
  obtain ⟨A, len, cap, rfl⟩ := okWide_slice ht hv
  obtain ⟨fuel, hf⟩ := h
  rcases open_ints ht he hc hf with ⟨hcs, _⟩ | ⟨x, l, c, zs, hcs, _, hl, hm, hz, hd, hcell, hwz⟩
  · simp [Value.cells] at hcs
    obtain ⟨rfl, rfl, rfl⟩ := hcs
    exact ⟨none, [], 0, rfl, Nat.le_refl _, RdZ.nil _ _ _⟩
  · simp [Value.cells] at hcs
    obtain ⟨rfl, rfl, rfl⟩ := hcs
    simp only [if_true] at hz
    have hL : (zs.take len).length = len := by rw [List.length_take]; omega
    refine ⟨some x, zs.take len, cap, by rw [hL], by rw [hL]; exact hl, by rw [hL]; unfold maxLen at hm; omega, fun z hz => bounds_i64 (hwz z (List.mem_of_mem_take hz)), fun hn => ?_⟩
    rw [hL] at hn
    obtain ⟨b, off, rfl, hb⟩ := addr_of (hcell 0 (by omega))
    refine ⟨b, off, rfl, hb, fun k hk => ?_⟩
    rw [hL] at hk
    have := hcell k (by omega)
    rw [addr_add] at this
    rw [this]
    simp [hk]
end
end Go.Proofs.Ytadfimimkkimmaa
end
section
namespace Go.Proofs.Ytadfimimkkimmaa
open Go.ChangeShapes Go.WideShapes Go.ChangeAt Go.RowKit

theorem laidOut : laidOutB Try.prog = true := by kernel_rfl
theorem own : ownKnob Try.prog.godebug = none := by kernel_rfl
theorem below_same {W W' : World} (h : W' = W) : Below W.heap.size W W' := by subst h; exact Below.refl _ _
end Go.Proofs.Ytadfimimkkimmaa
end
