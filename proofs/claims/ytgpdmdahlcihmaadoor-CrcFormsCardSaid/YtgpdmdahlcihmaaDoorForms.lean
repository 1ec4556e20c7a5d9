import Derived.Test.YtgpdmdahlcihmaaDoorWakes
import Derived.Test.YtgpdmdahlcihmaaDoorKeep
import Derived.WalkSpells
namespace Go.Proofs.YtgpdmdahlcihmaaDoor
open Go.RowKit

def its : List (List UInt8 × Nat) := [([], 0), ([0], 1383945041), ([97], 3251651376), (List.replicate 32 0, 2324772522), ([49, 50, 51, 52, 53, 54, 55, 56, 57], 3808858755)]
def Items (w : World) (g : Nat) : Prop := ∀ j, j < 5 → ∃ A c, w.cell? ⟨g, j * 2, none⟩ = some (.slice A (its.getD j ([], 0)).1.length c) ∧ w.cell? ⟨g, j * 2 + 1, none⟩ = some (.int .u32 ((its.getD j ([], 0)).2 : Nat)) ∧ RdB w (g + 1) A (its.getD j ([], 0)).1 ∧ (its.getD j ([], 0)).1.length ≤ c
theorem items_start (w : World) : Items (((((w.alloc (.cells #[.int .u8 0] 5)).alloc (.cells #[.int .u8 97] 5 (1, 2))).alloc (.cells (zcells 32) 5)).alloc
      (.cells #[.int .u8 49, .int .u8 50, .int .u8 51, .int .u8 52, .int .u8 53, .int .u8 54, .int .u8 55, .int .u8 56, .int .u8 57] 5 (9, 10))).alloc
      (.cells #[.slice none 0 0, .int .u32 0, .slice (some ⟨w.heap.size, 0, none⟩) 1 1, .int .u32 1383945041, .slice (some ⟨w.heap.size + 1, 0, none⟩) 1 1, .int .u32 3251651376,
        .slice (some ⟨w.heap.size + 1 + 1, 0, none⟩) 32 32, .int .u32 2324772522, .slice (some ⟨w.heap.size + 1 + 1 + 1, 0, none⟩) 9 9, .int .u32 3808858755] 24)) (w.heap.size + 1 + 1 + 1 + 1) := by
  have zc : ∀ k, k < 32 → (zcells 32)[k]? = some (.int .u8 (((List.replicate 32 (0 : UInt8)).getD k 0).toNat : Int)) := fun k hk => by
    rw [zcells_get 32 k hk, List.getD_eq_getElem?_getD, List.getElem?_replicate, if_pos hk]; rfl
  generalize hW1 : w.alloc (.cells #[.int .u8 0] 5) = W1
  generalize hW2 : W1.alloc (.cells #[.int .u8 97] 5 (1, 2)) = W2
  generalize hW3 : W2.alloc (.cells (zcells 32) 5) = W3
  generalize hW4 : W3.alloc (.cells #[.int .u8 49, .int .u8 50, .int .u8 51, .int .u8 52, .int .u8 53, .int .u8 54, .int .u8 55, .int .u8 56, .int .u8 57] 5 (9, 10)) = W4
  have s1 : W1.heap.size = w.heap.size + 1 := by rw [← hW1]; simp
  have s2 : W2.heap.size = w.heap.size + 2 := by rw [← hW2]; simp; omega
  have s3 : W3.heap.size = w.heap.size + 3 := by rw [← hW3]; simp; omega
  have s4 : W4.heap.size = w.heap.size + 4 := by rw [← hW4]; simp; omega
  have b0 : W4.heap[w.heap.size]? = some (.cells #[.int .u8 0] 5) := by
    rw [← hW4, hp_old _ _ _ (by omega), ← hW3, hp_old _ _ _ (by omega), ← hW2, hp_old _ _ _ (by omega), ← hW1]; exact hp_new _ _ _ rfl
  have b1 : W4.heap[w.heap.size + 1]? = some (.cells #[.int .u8 97] 5 (1, 2)) := by
    rw [← hW4, hp_old _ _ _ (by omega), ← hW3, hp_old _ _ _ (by omega), ← hW2]; exact hp_new _ _ _ s1.symm
  have b2 : W4.heap[w.heap.size + 1 + 1]? = some (.cells (zcells 32) 5) := by
    rw [← hW4, hp_old _ _ _ (by omega), ← hW3]; exact hp_new _ _ _ (by omega)
  have b3 : W4.heap[w.heap.size + 1 + 1 + 1]? = some (.cells #[.int .u8 49, .int .u8 50, .int .u8 51, .int .u8 52, .int .u8 53, .int .u8 54, .int .u8 55, .int .u8 56, .int .u8 57] 5 (9, 10)) := by
    rw [← hW4]; exact hp_new _ _ _ (by omega)
  clear hW1 hW2 hW3 hW4
  generalize ho : Obj.cells #[.slice none 0 0, .int .u32 0, .slice (some ⟨w.heap.size, 0, none⟩) 1 1, .int .u32 1383945041, .slice (some ⟨w.heap.size + 1, 0, none⟩) 1 1, .int .u32 3251651376,
        .slice (some ⟨w.heap.size + 1 + 1, 0, none⟩) 32 32, .int .u32 2324772522, .slice (some ⟨w.heap.size + 1 + 1 + 1, 0, none⟩) 9 9, .int .u32 3808858755] 24 = o
  obtain ⟨W, hW⟩ : ∃ W, W = W4.alloc o := ⟨_, rfl⟩
  have b4 : W.heap[w.heap.size + 1 + 1 + 1 + 1]? = some o := by rw [hW]; exact hp_new _ _ _ (by omega)
  rw [← hp_old W4 o _ (by omega), ← hW] at b0 b1 b2 b3
  rw [← hW]
  clear hW
  subst ho
  intro j hj
  have c4 := fun i => cell_of_row W _ i _ _ _ b4
  match j, hj with
  | 0, _ => exact ⟨none, 0, c4 0, c4 1, RdB.nil _ _ _, Nat.le_refl _⟩
  | 1, _ => exact ⟨_, 1, c4 2, c4 3, rdb_block (bs := [0]) b0 (by omega) (by simp) (fun k hk => by obtain rfl : k = 0 := (by simp at hk; omega); rfl), Nat.le_refl _⟩
  | 2, _ => exact ⟨_, 1, c4 4, c4 5, rdb_block (bs := [97]) b1 (by omega) (by simp) (fun k hk => by obtain rfl : k = 0 := (by simp at hk; omega); rfl), Nat.le_refl _⟩
  | 3, _ => exact ⟨_, 32, c4 6, c4 7, rdb_block (bs := List.replicate 32 0) b2 (by omega) (by simp) (fun k hk => zc k (by simpa using hk)), by simp [its]⟩
  | 4, _ => exact ⟨_, 9, c4 8, c4 9, rdb_block (bs := [49, 50, 51, 52, 53, 54, 55, 56, 57]) b3 (by omega) (by simp) nine_cells, Nat.le_refl _⟩
theorem Items.below {w w' : World} {g : Nat} (h : Items w g) {B : Nat} (hb : Below B w w') (hB : g + 1 ≤ B) : Items w' g := fun j hj => by
  obtain ⟨A, c, h1, h2, h3, h4⟩ := h j hj
  exact ⟨A, c, (hb.cell (p := ⟨g, j * 2, none⟩) (by exact hB)).trans h1, (hb.cell (p := ⟨g, j * 2 + 1, none⟩) (by exact hB)).trans h2, h3.below hb hB, h4⟩
theorem its_sum (j : Nat) (hj : j < 5) : sumR [(its.getD j ([], 0)).1] = (its.getD j ([], 0)).2 := by
  revert j
  decide +kernel
theorem sumR_cut (bs : List UInt8) (q : Nat) : sumR [bs.take q, bs.drop q] = sumR [bs] := by
  unfold sumR
  rw [feedR_flat, feedR_flat]
  simp
set_option maxHeartbeats 400000 in
theorem forms (cut : Int) (w : World) (hcut : -9223372036854775808 ≤ cut ∧ cut ≤ 9223372036854775807) (ht : TabOk w) :
    Calls Tryd.prog 3 #[.int .i64 cut] w fun e w' => e = .returned (.bool true) ∧ Below w.heap.size w w' := by
  have kc := conv_const
  have km : ∀ w, (Instr.makeSlice 23 (.int .i64 32) (.int .i64 32)).run Tryd.prog w = .ok (.slice (some ⟨w.heap.size, 0, none⟩) 32 32) (w.alloc (.cells (zcells 32) 5)) := make_bytes 32 (by decide)
  go_enter Tryd.func3, Tryd.ntmps3
  go_wp2_with fail
  go_loopw [19] (fun i wr => ∃ k : Nat, k ≤ 5 ∧ i = .int .i64 k ∧ Items wr (w.heap.size + 1 + 1 + 1 + 1) ∧ TabOk wr ∧ Below w.heap.size w wr) (fun i _ => 5 - (intOf i).toNat)
  case atStart =>
    refine ⟨0, by omega, rfl, items_start w, ?_, ?_⟩
    · exact ht.below (B := w.heap.size) (by go_grown) ht.pos
    · go_grown
  case round =>
    obtain ⟨k, hk, rfl, hI, hT, hB⟩ := hrel
    by_cases hlt : k < 5
    · obtain ⟨A, c, h1, h2, h3, h4⟩ := hI k hlt
      have hsum := its_sum k hlt
      generalize its.getD k ([], 0) = it at h1 h2 h3 h4 hsum
      obtain ⟨bs, s⟩ := it
      simp only at h1 h2 h3 h4 hsum
      have Hsum := Lib.hid hsum
      clear hsum
      have hl := h3.1
      have hz := hB.size
      have hbd := withinI_bd cut ((bs.length : Int) + 1) (by omega)
      obtain ⟨q, hq⟩ := Int.eq_ofNat_of_zero_le hbd.1
      rw [hq] at hbd
      have hqb : q ≤ bs.length := by omega
      have Hq := Lib.hid hq
      clear hq hbd
      have Hs1 : Hid (sumR [bs] = s) := Hsum.out
      have Hs2 : Hid (sumR [bs.take q, bs.drop q] = s) := (sumR_cut bs q).trans Hsum.out
      go_wp2_with (go_at_call 7; refine (within_any cut ((bs.length : Int) + 1) _ hcut (by omega)).mono ?_; rintro e w' ⟨rfl, rfl⟩; rw [Hq.out])
      go_name_world wa hwa
      have hab : Below wr.heap.size wr wa := by rw [← hwa]; go_grown
      have ca : wa.cell? ⟨wr.heap.size, 0, none⟩ = some (.slice A bs.length c) := by rw [← hwa]; simp [World.cell?_alloc_new]
      have cb : wa.cell? ⟨wr.heap.size, 1, none⟩ = some (.int .u32 (s : Int)) := by rw [← hwa]; simp [World.cell?_alloc_new]
      have hlt2 : wr.heap.size < wa.heap.size := by rw [← hwa]; simp
      have hpos := hT.pos
      have hTa := hT.below hab hT.pos
      have hgl := World.block_lt_of_cell? _ _ h1
      simp only at hgl
      have hra : RdB wa wa.heap.size A bs := (h3.below hab (by omega)).more (by omega)
      clear hwa
      have i0 : (0 : Int) ≤ (q : Int) := by omega
      have i1 : (q : Int) ≤ (bs.length : Int) := by omega
      have i2 : (q : Int) ≤ (c : Int) := by omega
      have i3 : (bs.length : Int) ≤ (c : Int) := by omega
      have i4 : q ≤ c := by omega
      have S1 : Hid (∀ W, W.heap[wa.heap.size]? = some (.cells #[.slice A bs.length c] 23) → Below wa.heap.size wa W → Calls Tryd.prog 8 #[.slice (some ⟨wa.heap.size, 0, none⟩) 1 1] W fun e w' => e = .returned (.int .u32 (s : Int)) ∧ w' = W) :=
        Lib.hid fun W h hb => sum_one _ A bs c _ _ wa.heap.size W h hb.size (hra.below hb (Nat.le_refl _)) (hTa.below hb (by omega)) s Hs1.out
      have S2 : Hid (∀ W, W.heap[wa.heap.size + 1]? = some (.cells #[.slice A q c, .slice (if c = q then A else A.map (·.add q)) (bs.length - q) (c - q)] 23) → Below wa.heap.size wa W → Calls Tryd.prog 8 #[.slice (some ⟨wa.heap.size + 1, 0, none⟩) 2 2] W fun e w' => e = .returned (.int .u32 (s : Int)) ∧ w' = W) :=
        Lib.hid fun W h hb => sum_two _ _ _ (bs.take q) (bs.drop q) _ _ _ _ _ _ wa.heap.size W h (by simp; omega) (by simp) hb.size ((hra.below hb (Nat.le_refl _)).take q) ((hra.below hb (Nat.le_refl _)).drop q c h4) (hTa.below hb (by omega)) s Hs2.out
      go_region_held3 (fun w' => w'.cell? ⟨wr.heap.size, 0, none⟩ = some (.slice A bs.length c) ∧ w'.cell? ⟨wr.heap.size, 1, none⟩ = some (.int .u32 (s : Int)) ∧ Below wa.heap.size wa w')
        (refine ⟨?_, ?_, ?_⟩ <;> first | (simp [*, World.cell?_alloc_some]; done) | go_grown)
        (first
          | (go_at_call_of 8 (Value.slice (some ⟨wa.heap.size, 0, none⟩) 1 1); refine (S1.out _ ?_ (below1 _ _).drew).mono ?_; ((try rw [hp_drew]); exact hp_new _ _ _ (by simp)); rintro e w' ⟨rfl, rfl⟩; dsimp only)
          | (go_at_call 8; refine (S2.out _ ?_ (below2 _ _ _).drew).mono ?_; ((try rw [hp_drew]); exact hp_new _ _ _ (by simp)); rintro e w' ⟨rfl, rfl⟩; dsimp only))
      have F := hab.trans ((below2 wa (.cells #[.slice A bs.length c] 23) (.cells #[.slice A q c, .slice (if c = q then A else A.map (·.add q)) (bs.length - q) (c - q)] 23)).drew.mono (Nat.le_of_lt hlt2))
      go_wp2
      go_roundw
      case rel => exact ⟨k + 1, by omega, by go_num, hI.below F (by omega), hT.below F hpos, hB.trans (F.mono hz)⟩
      case measure => simp [intOf]; omega
    · obtain rfl : k = 5 := by omega
      have hz := hB.size
      go_wp2_with (go_at_call 9; refine (wakes_any _ hT).mono ?_; rintro e w' ⟨rfl, hb2⟩)
      go_ret
      exact ⟨rfl, hB.trans (hb2.mono hz)⟩
end Go.Proofs.YtgpdmdahlcihmaaDoor
