/- The parts that synd's laws make; their example. -/
import Derived.Test.YtfbfodcjfcnfoaaSyndQ
import Derived.Test.YtfbfodcjfcnfoaaOwnZ
import Derived.Test.YtfbfodcjfcnfoaaRows2
namespace Go.Proofs.Ytfbfodcjfcnfoaa
open Go.RowKit

theorem info_row : (Try.prog.info? 22).map (fun i => (i.zero, i.size, i.bytes)) = some (some (.slice none 0 0), 1, 24) := by kernel_rfl
/-- One part of numbers. -/
def partB (n : Int) (b : List UInt8) : List UInt8 := if n.tmod 5 = 4 then b.take 9 else (b.take 9 ++ List.replicate 9 0).take (1 + (withinI n 8).toNat)
def partsR (rs : List (List UInt8)) (n : Int) : List (List UInt8) := (rs.take 7).map (partB n)
theorem partB_le (n : Int) (b : List UInt8) : (partB n b).length ≤ 18 := by
  unfold partB
  split <;> simp <;> omega
theorem partsR_len (rs : List (List UInt8)) (n : Int) : (partsR rs n).length = min 7 rs.length := by simp [partsR]
theorem partsR_mem_le {rs : List (List UInt8)} {n : Int} : ∀ r ∈ partsR rs n, r.length ≤ 18 := fun r hr => by
  unfold partsR at hr
  obtain ⟨b, _, rfl⟩ := List.mem_map.1 hr
  exact partB_le n b
/-- With a number that is a multiple of five all parts are as long. -/
theorem partsR_alike {rs : List (List UInt8)} {n : Int} (h : n.tmod 5 = 0) : ∀ r ∈ partsR rs n, r.length = 1 + (withinI n 8).toNat := fun r hr => by
  unfold partsR at hr
  obtain ⟨b, _, rfl⟩ := List.mem_map.1 hr
  unfold partB
  rw [if_neg (by omega)]
  have := withinI_bd n 8 (by omega)
  simp
  omega
theorem partsR_snoc (rs : List (List UInt8)) (n : Int) (k : Nat) (h : k < rs.length) : (rs.take (k + 1)).map (partB n) = (rs.take k).map (partB n) ++ [partB n (rs.getD k [])] := by
  rw [List.take_succ_eq_append_getElem h, List.map_append]
  simp [h]
theorem ownsRow_ob {w : World} {base : Nat} {e : TypeId} {size : Nat} {v : Value} {n : Nat} {xs : List Value} (h : w.ownsRow base e size v n xs) : ∀ j, v.ownBlock = some j → base ≤ j ∧ j < w.heap.size := h.lt
theorem OwB.addr_ob {e : TypeId} {w : World} {B : Nat} {A : Option Addr} {n c : Nat} {bs : List UInt8} (h : OwB e w B (.slice A n c) bs) (hp : 0 < bs.length) : ∀ a, A = some a → B ≤ a.block := fun a ha => by
  obtain ⟨g, cap, hv, hB, _⟩ := h.pos hp
  injection hv with h1 _ _
  rw [ha] at h1
  injection h1 with h1
  subst h1
  exact hB
set_option maxRecDepth 100000 in
set_option maxHeartbeats 800000 in
theorem parts_any (A : Option Addr) (rs : List (List UInt8)) (n cp : Nat) (m : Int) (w : World) (hn : rs.length = n) (hr : RdC w w.heap.size A rs) (hm : -9223372036854775808 ≤ m ∧ m ≤ 9223372036854775807) :
    Calls Try.prog 11 #[.slice A n cp, .int .i64 m] w fun e w' => ∃ A' c', e = .returned (.slice A' (partsR rs m).length c') ∧ (partsR rs m).length ≤ c' ∧ RdR w' w'.heap.size A' (partsR rs m) ∧ Below w.heap.size w w' := by
  subst hn
  have hl := hr.1
  obtain ⟨m1, m2⟩ := hm
  have hlo : -5 < m.tmod 5 := Int.lt_tmod_of_pos _ (by omega)
  have hhi : m.tmod 5 < 5 := Int.tmod_lt_of_pos _ (by omega)
  have hwi := withinI_bd m 8 (by omega)
  obtain ⟨q, hq⟩ := Int.eq_ofNat_of_zero_le hwi.1
  rw [hq] at hwi
  have Hq := Lib.hid hq
  have hq8 : q < 8 := by omega
  clear hq hwi
  have Hpart : Hid (partsR rs m = (rs.take 7).map (partB m)) := rfl
  go_enter Try.func11, Try.ntmps11
  go_wp2
  go_loopw [5, 6] (fun o i wr => ∃ (k : Nat) (xs : List Value), k ≤ rs.length ∧ k ≤ 7 ∧ i = .int .i64 k ∧ wr.ownsRow w.heap.size 22 1 o k xs ∧ RowsX wr wr.heap.size o.ownBlock xs ((rs.take k).map (partB m)) ∧ Below w.heap.size w wr) (fun _ i _ => 7 - (intOf i).toNat)
  case atStart => exact ⟨0, [], Nat.zero_le _, Nat.zero_le _, rfl, World.ownsRow_nil _ _ _ _, RowsX.nil _ _ _, Below.refl _ _⟩
  case round =>
    obtain ⟨k, xs, hk, hk7, rfl, hown, hrows, hbr⟩ := hrel
    by_cases hlt : k < rs.length
    · by_cases h7 : k < 7
      · have g1 : decide ((k : Int) < (rs.length : Int)) = true := by simpa using hlt
        have g2 : decide ((k : Int) < 7) = true := by simp; omega
        obtain ⟨b, off, rfl, hbb, hc⟩ := hr.2 (by omega)
        obtain ⟨A', c', h1, hlc, h2⟩ := hc k hlt
        have Hsn := Lib.hid (partsR_snoc rs m k hlt)
        rw [← hbr.cell (p := ⟨b, off + k, none⟩) hbb] at h1
        have h2' := (h2.below hbr (Nat.le_refl _))
        have i0 : (0 : Int) ≤ (k : Int) := by omega
        have i1 : (k : Int) < (rs.length : Int) := by omega
        have i2 : k < rs.length := hlt
        generalize rs.getD k [] = row at h1 h2 h2' Hsn hlc
        clear hc h2
        go_wp2_with fail
        refine (cut_any A' row.length c' w.heap.size 9 row _ (by decide) rfl hlc h2').mono ?_
        rintro e w1 ⟨v1, rfl, ho1, hb1⟩
        have hl9 : (row.take 9).length ≤ 9 := by rw [List.length_take]; omega
        have hs0 := hbr.size
        have hrows1 := hrows.below hb1
        have hown1 := hown.kept (grown_none hb1) (Classical.em _)
        have hbw1 := hbr.trans (hb1.mono hs0)
        by_cases h4 : m.tmod 5 = 4
        · have Hp : Hid (partB m row = row.take 9) := if_pos h4
          have g3 : (m.tmod 5 != 4) = false := by rw [h4]; rfl
          clear h4
          generalize row.take 9 = x at ho1 Hp hl9
          obtain ⟨Ax, cx, rfl, hcx, hrx⟩ := ho1.rd
          have hob := Lib.hid (fun hp => ho1.addr_ob hp)
          go_wp2_with (at_builtin; refine wpList_append_V rfl _ _ _ rfl w.heap.size 22 (.slice none 0 0) 24 Try.underlying25 info_row rfl _ k xs rfl (hown1.kept (grown_none (below1 w1 _)) (Classical.em _)) (w1.heap.size + 1) (some ⟨w1.heap.size, 0, none⟩) 1 1 [.slice Ax x.length cx] rfl rfl (fun _ => ⟨w1.heap.size, 0, rfl, by omega, fun j hj => by obtain rfl : j = 0 := (by simp at hj; omega); exact cell_of_row _ _ _ _ _ _ (hp_new _ _ _ rfl)⟩) (fun u hu => by simp at hu; subst hu; rfl) (by unfold maxLen; omega) (by omega) (by have := hbw1.size; simp; omega) ?_; intro v2 w2 hown2 hg2 hat2)
          have hX := ((hrows1.below (below1 w1 (.cells #[.slice Ax x.length cx] 22))).snoc (c := cx) ((hrx.below (below1 w1 _) (Nat.le_refl _)).more (by simp)) (fun hp a ha e => by
            have h1 := hob.out hp a ha
            have h3 := (hown.lt _ e.symm).2
            omega)).grown hg2 hat2
          have hbw2 := (hbw1.alloc hbw1.size (.cells #[.slice Ax x.length cx] 22)).grown hg2 (by have := hbw1.size; simp; omega) (fun j hj => (hown.lt j hj).1)
          rw [show ((rs.take k).map (partB m)) ++ [x] = (rs.take (k + 1)).map (partB m) from by rw [Hsn.out, Hp.out]] at hX
          go_wp2
          go_roundw
          case rel => exact ⟨k + 1, _, by omega, by omega, by go_num, hown2, hX, hbw2⟩
          case measure => simp [intOf]; omega
        · have Hp : Hid (partB m row = (row.take 9 ++ List.replicate 9 0).take (1 + q)) := by
            unfold partB
            rw [if_neg h4, Hq.out]
            rfl
          have g3 : (m.tmod 5 != 4) = true := by rw [bne_iff_ne]; exact h4
          clear h4
          generalize row.take 9 = x at ho1 Hp hl9
          obtain ⟨Ax, cx, rfl, hcx, hrx⟩ := ho1.rd
          go_wp2_with fail
          refine (copy_any Ax x.length cx _ x w1 rfl hrx).mono ?_
          rintro e w2 ⟨v2, rfl, ho2, hb2⟩
          have hs1 := hb1.size
          have hrows2 := hrows1.below hb2
          have hown2 := hown1.kept (grown_none hb2) (Classical.em _)
          have hbw2 := hbw1.trans (hb2.mono hbw1.size)
          have hs2 := hb2.size
          go_wp2_with (at_builtin; refine wpList_append_Z _ rfl _ _ _ _ rfl w1.heap.size 5 .i64 Try.underlying22 Try.underlying3 info_u8 v2 x rfl ho2 .i64 9 rfl (by decide) (by omega) hs2 ?_; intro v3 w3 ho3 hg3 hat3)
          have hb23 : Below w1.heap.size w1 w3 := hb2.grown hg3 hs2 (fun j hj => (ho2.lt j hj).1)
          obtain ⟨g3, k3, rfl, hg3b, hg3l, hk3, _, _⟩ := ho3.pos (by simp)
          have hl3 : (x ++ List.replicate 9 (0 : UInt8)).length = x.length + 9 := by simp
          rw [hl3] at ho3 hk3 ⊢
          have hrows3 := hrows1.below hb23
          have hown3 := hown1.kept (grown_none hb23) (Classical.em _)
          have hbw3 := hbw1.trans (hb23.mono hbw1.size)
          have ho4 := ho3.takeS hl3 (1 + q) (by omega)
          have hl4 : ((x ++ List.replicate 9 (0 : UInt8)).take (1 + q)).length = 1 + q := by rw [List.length_take, hl3]; omega
          rw [← Hp.out] at ho4 hl4
          generalize partB m row = y at ho4 hl4 Hsn
          clear hrows2 hown2 hbw2 ho2 hg3 ho3 Hp
          go_wp2_with fail
          refine (within_any m 8 w3 ⟨m1, m2⟩ (by omega)).mono ?_
          rintro e w4 ⟨rfl, rfl⟩
          rw [Hq.out]
          have i3 : (0 : Int) ≤ (q : Int) := by omega
          have i4 : (q : Int) < 8 := by omega
          have i5 : 1 + (q : Int) ≤ (k3 : Int) := by omega
          have e5 : ((1 + (q : Int))).toNat = 1 + q := by omega
          have hs3 := hb23.size
          go_wp2_with (at_builtin; refine wpList_append_V rfl _ _ _ rfl w.heap.size 22 (.slice none 0 0) 24 Try.underlying25 info_row rfl _ k xs rfl (hown3.kept (grown_none (below1 w4 _)) (Classical.em _)) (w4.heap.size + 1) (some ⟨w4.heap.size, 0, none⟩) 1 1 [.slice (some ⟨g3, 0, none⟩) (1 + q) k3] rfl rfl (fun _ => ⟨w4.heap.size, 0, rfl, by omega, fun j hj => by obtain rfl : j = 0 := (by simp at hj; omega); exact cell_of_row _ _ _ _ _ _ (hp_new _ _ _ rfl)⟩) (fun u hu => by simp at hu; subst hu; rfl) (by unfold maxLen; omega) (by omega) (by have := hbw3.size; simp; omega) ?_; intro v5 w5 hown5 hg5 hat5)
          rw [← hl4] at hown5 hg5 hat5 ho4
          have hX := ((hrows3.below (below1 w4 (.cells #[.slice (some ⟨g3, 0, none⟩) y.length k3] 22))).snoc (c := k3) ((ho4.below (below1 w4 _)).rdS.1) (fun hp a ha e => by
            injection ha with ha
            subst ha
            have h3 := (hown.lt _ e.symm).2
            simp at h3
            omega)).grown hg5 hat5
          have hbw5 := (hbw3.alloc hbw3.size (.cells #[.slice (some ⟨g3, 0, none⟩) y.length k3] 22)).grown hg5 (by have := hbw3.size; simp; omega) (fun j hj => (hown.lt j hj).1)
          rw [← Hsn.out] at hX
          go_wp2
          go_roundw
          case rel => exact ⟨k + 1, _, by omega, by omega, by go_num, hown5, hX, hbw5⟩
          case measure => simp [intOf]; omega
      · obtain rfl : k = 7 := by omega
        have g1 : decide ((7 : Int) < (rs.length : Int)) = true := by simp; omega
        obtain ⟨A2, c2, rfl, hc2, hr2⟩ := rdr_ownC hown (by simp; omega) hrows.rowsV
        rw [← Hpart.out] at hr2 hc2 ⊢
        go_wp2
        go_ret
        exact ⟨_, _, rfl, hc2, hr2, hbr⟩
    · obtain rfl : k = rs.length := by omega
      have g1 : decide ((rs.length : Int) < (rs.length : Int)) = false := by simp
      have Hall := Lib.hid (show (rs.take rs.length).map (partB m) = partsR rs m by rw [Hpart.out, List.take_length, List.take_of_length_le hk7])
      rw [Hall.out] at hrows
      obtain ⟨A2, c2, rfl, hc2, hr2⟩ := rdr_ownC hown (by rw [partsR_len]; omega) hrows.rowsV
      go_wp2
      go_ret
      exact ⟨_, _, rfl, hc2, hr2, hbr⟩
end Go.Proofs.Ytfbfodcjfcnfoaa
