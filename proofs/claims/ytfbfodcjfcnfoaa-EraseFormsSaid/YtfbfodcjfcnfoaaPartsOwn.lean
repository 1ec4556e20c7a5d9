/- The parts that synd's laws make, told as memory of the call's own. -/
import Derived.Test.YtfbfodcjfcnfoaaParts
namespace Go.Proofs.Ytfbfodcjfcnfoaa
open Go.RowKit

/-- A slice of bytes in a block from lo on. -/
def RdBF (lo : Nat) (w : World) (A : Option Addr) (bs : List UInt8) : Prop :=
  bs.length ≤ 140737488355328 ∧ (0 < bs.length → ∃ b off, A = some ⟨b, off, none⟩ ∧ b < w.heap.size ∧ lo ≤ b ∧ ∀ k, k < bs.length → w.cell? ⟨b, off + k, none⟩ = some (.int .u8 ((bs.getD k 0).toNat : Int)))
def RdF (lo : Nat) (w : World) (A : Option Addr) (rs : List (List UInt8)) : Prop :=
  rs.length ≤ 140737488355328 ∧ (0 < rs.length → ∃ b off, A = some ⟨b, off, none⟩ ∧ b < w.heap.size ∧ lo ≤ b ∧ ∀ k, k < rs.length → ∃ A' c, w.cell? ⟨b, off + k, none⟩ = some (.slice A' (rs.getD k []).length c) ∧ RdBF lo w A' (rs.getD k []))
theorem RdBF.rdb {lo : Nat} {w : World} {A : Option Addr} {bs : List UInt8} (h : RdBF lo w A bs) : RdB w w.heap.size A bs :=
  ⟨h.1, fun h0 => by
    obtain ⟨b, off, e, hb, _, hc⟩ := h.2 h0
    exact ⟨b, off, e, hb, hc⟩⟩
theorem RdF.rdr {lo : Nat} {w : World} {A : Option Addr} {rs : List (List UInt8)} (h : RdF lo w A rs) : RdR w w.heap.size A rs :=
  ⟨h.1, fun h0 => by
    obtain ⟨b, off, e, hb, _, hc⟩ := h.2 h0
    refine ⟨b, off, e, hb, fun k hk => ?_⟩
    obtain ⟨A', c, h1, h2⟩ := hc k hk
    exact ⟨A', c, h1, h2.rdb⟩⟩
theorem RdBF.keep {lo : Nat} {w w' : World} {A : Option Addr} {bs : List UInt8} (h : RdBF lo w A bs) (hz : w.heap.size ≤ w'.heap.size) (hk : ∀ p : Addr, lo ≤ p.block → p.block < w.heap.size → w'.cell? p = w.cell? p) : RdBF lo w' A bs :=
  ⟨h.1, fun h0 => by
    obtain ⟨b, off, e, hb, hl, hc⟩ := h.2 h0
    exact ⟨b, off, e, by omega, hl, fun k hk' => (hk ⟨b, off + k, none⟩ hl hb).trans (hc k hk')⟩⟩
theorem RdF.keep {lo : Nat} {w w' : World} {A : Option Addr} {rs : List (List UInt8)} (h : RdF lo w A rs) (hz : w.heap.size ≤ w'.heap.size) (hk : ∀ p : Addr, lo ≤ p.block → p.block < w.heap.size → w'.cell? p = w.cell? p) : RdF lo w' A rs :=
  ⟨h.1, fun h0 => by
    obtain ⟨b, off, e, hb, hl, hc⟩ := h.2 h0
    refine ⟨b, off, e, by omega, hl, fun k hk' => ?_⟩
    obtain ⟨A', c, h1, h2⟩ := hc k hk'
    exact ⟨A', c, (hk ⟨b, off + k, none⟩ hl hb).trans h1, h2.keep hz hk⟩⟩
theorem RdF.below {lo : Nat} {w w' : World} {A : Option Addr} {rs : List (List UInt8)} (h : RdF lo w A rs) (hb : Below w.heap.size w w') : RdF lo w' A rs := h.keep hb.size fun _ _ hp => hb.cell hp
/-- Values that read as rows, none of them in block ob, all from lo on. -/
def RowsY (w : World) (lo : Nat) (ob : Option Nat) (xs : List Value) (rs : List (List UInt8)) : Prop :=
  xs.length = rs.length ∧ ∀ k, k < rs.length → ∃ A c, xs[k]? = some (.slice A (rs.getD k []).length c) ∧ RdBF lo w A (rs.getD k []) ∧ (0 < (rs.getD k []).length → ∀ a, A = some a → some a.block ≠ ob)
theorem RowsY.nil (w : World) (lo : Nat) (ob : Option Nat) : RowsY w lo ob [] [] := ⟨rfl, fun k hk => by simp at hk⟩
theorem RowsY.below {w w' : World} {lo : Nat} {ob : Option Nat} {xs : List Value} {rs : List (List UInt8)} (h : RowsY w lo ob xs rs) (hb : Below w.heap.size w w') : RowsY w' lo ob xs rs :=
  ⟨h.1, fun k hk => by
    obtain ⟨A, c, h1, h2, h3⟩ := h.2 k hk
    exact ⟨A, c, h1, h2.keep hb.size fun _ _ hp => hb.cell hp, h3⟩⟩
theorem RowsY.grown {w w' : World} {lo : Nat} {ob ob' : Option Nat} {xs : List Value} {rs : List (List UInt8)} (h : RowsY w lo ob xs rs) (hg : w.grownBy w' ob) (ho : ob' = ob ∨ ob' = some w.heap.size) : RowsY w' lo ob' xs rs :=
  ⟨h.1, fun k hk => by
    obtain ⟨A, c, h1, h2, h3⟩ := h.2 k hk
    refine ⟨A, c, h1, ⟨h2.1, fun h0 => ?_⟩, fun h0 a ha => ?_⟩
    · obtain ⟨b, off, e, hb, hl, hc⟩ := h2.2 h0
      have hne := h3 h0 _ e
      refine ⟨b, off, e, by have := hg.size; omega, hl, fun j hj => ?_⟩
      rw [← hc j hj]
      exact World.cell?_of_block (w := w) (hg.block b hb hne)
    · rcases ho with rfl | rfl
      · exact h3 h0 a ha
      · obtain ⟨b, off, e, hb, hl, hc⟩ := h2.2 h0
        rw [ha] at e
        injection e with e
        subst e
        intro e
        injection e with e
        simp at e
        omega⟩
theorem RowsY.snoc {w : World} {lo : Nat} {ob : Option Nat} {xs : List Value} {rs : List (List UInt8)} (h : RowsY w lo ob xs rs) {A : Option Addr} {c : Nat} {bs : List UInt8} (hr : RdBF lo w A bs) (hne : 0 < bs.length → ∀ a, A = some a → some a.block ≠ ob) : RowsY w lo ob (xs ++ [.slice A bs.length c]) (rs ++ [bs]) :=
  ⟨by simp [h.1], fun k hk => by
    by_cases hk2 : k < rs.length
    · obtain ⟨A', c', h1, h2, h3⟩ := h.2 k hk2
      have e : (rs ++ [bs]).getD k [] = rs.getD k [] := by simp [List.getElem?_append_left hk2]
      rw [e]
      exact ⟨A', c', by rw [List.getElem?_append_left (by rw [h.1]; exact hk2)]; exact h1, h2, h3⟩
    · have hk3 : k = rs.length := by simp at hk; omega
      subst hk3
      have e : (rs ++ [bs]).getD rs.length [] = bs := by simp
      rw [e]
      exact ⟨A, c, by rw [← h.1]; simp, hr, hne⟩⟩
/-- An own row of slices, read as rows, with its room. -/
theorem rdf_own {w : World} {base : Nat} {e : TypeId} {v : Value} {n : Nat} {xs : List Value} {rs : List (List UInt8)} {ob : Option Nat} (h : w.ownsRow base e 1 v n xs) (hl : rs.length ≤ 140737488355328) (hx : RowsY w base ob xs rs) :
    ∃ A cap, v = .slice A rs.length cap ∧ rs.length ≤ cap ∧ RdF base w A rs := by
  have hn : n = rs.length := by have := h.1; have := hx.1; omega
  subst hn
  rcases h.2 with ⟨rfl, h0⟩ | ⟨g, cap, cur, rfl, hb, hg, h3, _, _, htk⟩
  · exact ⟨none, 0, by rw [h0], by omega, hl, fun h => by omega⟩
  · refine ⟨_, cap, rfl, h3, hl, fun _ => ⟨g, 0, rfl, (Array.getElem?_eq_some_iff.1 hg).1, hb, fun k hk => ?_⟩⟩
    obtain ⟨A, c, h1, h2, _⟩ := hx.2 k hk
    refine ⟨A, c, ?_, h2⟩
    rw [← htk, List.getElem?_take, if_pos (by omega), Array.getElem?_toList] at h1
    rw [Nat.zero_add, cell_of_row w g k cur e (0, 0) hg]
    exact h1
theorem OwB.rdbf {e : TypeId} {w : World} {B : Nat} {A : Option Addr} {n c : Nat} {bs : List UInt8} (h : OwB e w B (.slice A n c) bs) : RdBF B w A bs :=
  ⟨h.2, fun h0 => by
    obtain ⟨b, off, e, hb, hc⟩ := h.rdS.1.2 h0
    exact ⟨b, off, e, hb, by have := h.addr_ob h0 _ e; simpa using this, hc⟩⟩
set_option maxRecDepth 100000 in
set_option maxHeartbeats 800000 in
theorem parts_row (A : Option Addr) (rs : List (List UInt8)) (n cp : Nat) (m : Int) (w : World) (hn : rs.length = n) (hr : RdC w w.heap.size A rs) (hm : -9223372036854775808 ≤ m ∧ m ≤ 9223372036854775807) :
    Calls Try.prog 11 #[.slice A n cp, .int .i64 m] w fun e w' => ∃ v n' xs, e = .returned v ∧ w'.ownsRow w.heap.size 22 1 v n' xs ∧ RowsY w' w.heap.size v.ownBlock xs (partsR rs m) ∧ Below w.heap.size w w' := by
  subst hn
  have hl := hr.1
  obtain ⟨m1, m2⟩ := hm
  have hlo : -5 < m.tmod 5 := Int.lt_tmod_of_pos _ (by omega)
  have hhi : m.tmod 5 < 5 := Int.tmod_lt_of_pos _ (by omega)
  have hwi := withinI_bd m 8 (by omega)
  obtain ⟨q, hq⟩ := Int.eq_ofNat_of_zero_le hwi.1
  rw [hq] at hwi
  have Hq := Lib.hid hq
  have hq8 : q < 8 := by omega
  clear hq hwi
  have Hpart : Hid (partsR rs m = (rs.take 7).map (partB m)) := rfl
  go_enter Try.func11, Try.ntmps11
  go_wp2
  go_loopw [5, 6] (fun o i wr => ∃ (k : Nat) (xs : List Value), k ≤ rs.length ∧ k ≤ 7 ∧ i = .int .i64 k ∧ wr.ownsRow w.heap.size 22 1 o k xs ∧ RowsY wr w.heap.size o.ownBlock xs ((rs.take k).map (partB m)) ∧ Below w.heap.size w wr) (fun _ i _ => 7 - (intOf i).toNat)
  case atStart => exact ⟨0, [], Nat.zero_le _, Nat.zero_le _, rfl, World.ownsRow_nil _ _ _ _, RowsY.nil _ _ _, Below.refl _ _⟩
  case round =>
    obtain ⟨k, xs, hk, hk7, rfl, hown, hrows, hbr⟩ := hrel
    by_cases hlt : k < rs.length
    · by_cases h7 : k < 7
      · have g1 : decide ((k : Int) < (rs.length : Int)) = true := by simpa using hlt
        have g2 : decide ((k : Int) < 7) = true := by simp; omega
        obtain ⟨b, off, rfl, hbb, hc⟩ := hr.2 (by omega)
        obtain ⟨A', c', h1, hlc, h2⟩ := hc k hlt
        have Hsn := Lib.hid (partsR_snoc rs m k hlt)
        rw [← hbr.cell (p := ⟨b, off + k, none⟩) hbb] at h1
        have h2' := (h2.below hbr (Nat.le_refl _))
        have i0 : (0 : Int) ≤ (k : Int) := by omega
        have i1 : (k : Int) < (rs.length : Int) := by omega
        have i2 : k < rs.length := hlt
        generalize rs.getD k [] = row at h1 h2 h2' Hsn hlc
        clear hc h2
        go_wp2_with fail
        refine (cut_any A' row.length c' w.heap.size 9 row _ (by decide) rfl hlc h2').mono ?_
        rintro e w1 ⟨v1, rfl, ho1, hb1⟩
        have hl9 : (row.take 9).length ≤ 9 := by rw [List.length_take]; omega
        have hs0 := hbr.size
        have hrows1 := hrows.below hb1
        have hown1 := hown.kept (grown_none hb1) (Classical.em _)
        have hbw1 := hbr.trans (hb1.mono hs0)
        by_cases h4 : m.tmod 5 = 4
        · have Hp : Hid (partB m row = row.take 9) := if_pos h4
          have g3 : (m.tmod 5 != 4) = false := by rw [h4]; rfl
          clear h4
          generalize row.take 9 = x at ho1 Hp hl9
          obtain ⟨Ax, cx, rfl, hcx, hrx⟩ := ho1.rd
          have hob := Lib.hid (fun hp => ho1.addr_ob hp)
          go_wp2_with (at_builtin; refine wpList_append_V rfl _ _ _ rfl w.heap.size 22 (.slice none 0 0) 24 Try.underlying25 info_row rfl _ k xs rfl (hown1.kept (grown_none (below1 w1 _)) (Classical.em _)) (w1.heap.size + 1) (some ⟨w1.heap.size, 0, none⟩) 1 1 [.slice Ax x.length cx] rfl rfl (fun _ => ⟨w1.heap.size, 0, rfl, by omega, fun j hj => by obtain rfl : j = 0 := (by simp at hj; omega); exact cell_of_row _ _ _ _ _ _ (hp_new _ _ _ rfl)⟩) (fun u hu => by simp at hu; subst hu; rfl) (by unfold maxLen; omega) (by omega) (by have := hbw1.size; simp; omega) ?_; intro v2 w2 hown2 hg2 hat2)
          have hX := ((hrows1.below (below1 w1 (.cells #[.slice Ax x.length cx] 22))).snoc (c := cx) ((ho1.le hs0).below (below1 w1 _)).rdbf (fun hp a ha e => by
            have h1 := hob.out hp a ha
            have h3 := (hown.lt _ e.symm).2
            omega)).grown hg2 hat2
          have hbw2 := (hbw1.alloc hbw1.size (.cells #[.slice Ax x.length cx] 22)).grown hg2 (by have := hbw1.size; simp; omega) (fun j hj => (hown.lt j hj).1)
          rw [show ((rs.take k).map (partB m)) ++ [x] = (rs.take (k + 1)).map (partB m) from by rw [Hsn.out, Hp.out]] at hX
          go_wp2
          go_roundw
          case rel => exact ⟨k + 1, _, by omega, by omega, by go_num, hown2, hX, hbw2⟩
          case measure => simp [intOf]; omega
        · have Hp : Hid (partB m row = (row.take 9 ++ List.replicate 9 0).take (1 + q)) := by
            unfold partB
            rw [if_neg h4, Hq.out]
            rfl
          have g3 : (m.tmod 5 != 4) = true := by rw [bne_iff_ne]; exact h4
          clear h4
          generalize row.take 9 = x at ho1 Hp hl9
          obtain ⟨Ax, cx, rfl, hcx, hrx⟩ := ho1.rd
          go_wp2_with fail
          refine (copy_any Ax x.length cx _ x w1 rfl hrx).mono ?_
          rintro e w2 ⟨v2, rfl, ho2, hb2⟩
          have hs1 := hb1.size
          have hrows2 := hrows1.below hb2
          have hown2 := hown1.kept (grown_none hb2) (Classical.em _)
          have hbw2 := hbw1.trans (hb2.mono hbw1.size)
          have hs2 := hb2.size
          go_wp2_with (at_builtin; refine wpList_append_Z _ rfl _ _ _ _ rfl w1.heap.size 5 .i64 Try.underlying22 Try.underlying3 info_u8 v2 x rfl ho2 .i64 9 rfl (by decide) (by omega) hs2 ?_; intro v3 w3 ho3 hg3 hat3)
          have hb23 : Below w1.heap.size w1 w3 := hb2.grown hg3 hs2 (fun j hj => (ho2.lt j hj).1)
          obtain ⟨g3, k3, rfl, hg3b, hg3l, hk3, _, _⟩ := ho3.pos (by simp)
          have hl3 : (x ++ List.replicate 9 (0 : UInt8)).length = x.length + 9 := by simp
          rw [hl3] at ho3 hk3 ⊢
          have hrows3 := hrows1.below hb23
          have hown3 := hown1.kept (grown_none hb23) (Classical.em _)
          have hbw3 := hbw1.trans (hb23.mono hbw1.size)
          have ho4 := ho3.takeS hl3 (1 + q) (by omega)
          have hl4 : ((x ++ List.replicate 9 (0 : UInt8)).take (1 + q)).length = 1 + q := by rw [List.length_take, hl3]; omega
          rw [← Hp.out] at ho4 hl4
          generalize partB m row = y at ho4 hl4 Hsn
          clear hrows2 hown2 hbw2 ho2 hg3 ho3 Hp
          go_wp2_with fail
          refine (within_any m 8 w3 ⟨m1, m2⟩ (by omega)).mono ?_
          rintro e w4 ⟨rfl, rfl⟩
          rw [Hq.out]
          have i3 : (0 : Int) ≤ (q : Int) := by omega
          have i4 : (q : Int) < 8 := by omega
          have i5 : 1 + (q : Int) ≤ (k3 : Int) := by omega
          have e5 : ((1 + (q : Int))).toNat = 1 + q := by omega
          have hs3 := hb23.size
          go_wp2_with (at_builtin; refine wpList_append_V rfl _ _ _ rfl w.heap.size 22 (.slice none 0 0) 24 Try.underlying25 info_row rfl _ k xs rfl (hown3.kept (grown_none (below1 w4 _)) (Classical.em _)) (w4.heap.size + 1) (some ⟨w4.heap.size, 0, none⟩) 1 1 [.slice (some ⟨g3, 0, none⟩) (1 + q) k3] rfl rfl (fun _ => ⟨w4.heap.size, 0, rfl, by omega, fun j hj => by obtain rfl : j = 0 := (by simp at hj; omega); exact cell_of_row _ _ _ _ _ _ (hp_new _ _ _ rfl)⟩) (fun u hu => by simp at hu; subst hu; rfl) (by unfold maxLen; omega) (by omega) (by have := hbw3.size; simp; omega) ?_; intro v5 w5 hown5 hg5 hat5)
          rw [← hl4] at hown5 hg5 hat5 ho4
          have hX := ((hrows3.below (below1 w4 (.cells #[.slice (some ⟨g3, 0, none⟩) y.length k3] 22))).snoc (c := k3) ((ho4.le (by omega)).below (below1 w4 _)).rdbf (fun hp a ha e => by
            injection ha with ha
            subst ha
            have h3 := (hown.lt _ e.symm).2
            simp at h3
            omega)).grown hg5 hat5
          have hbw5 := (hbw3.alloc hbw3.size (.cells #[.slice (some ⟨g3, 0, none⟩) y.length k3] 22)).grown hg5 (by have := hbw3.size; simp; omega) (fun j hj => (hown.lt j hj).1)
          rw [← Hsn.out] at hX
          go_wp2
          go_roundw
          case rel => exact ⟨k + 1, _, by omega, by omega, by go_num, hown5, hX, hbw5⟩
          case measure => simp [intOf]; omega
      · obtain rfl : k = 7 := by omega
        have g1 : decide ((7 : Int) < (rs.length : Int)) = true := by simp; omega
        rw [← Hpart.out] at hrows
        go_wp2
        go_ret
        exact ⟨_, _, _, rfl, hown, hrows, hbr⟩
    · obtain rfl : k = rs.length := by omega
      have g1 : decide ((rs.length : Int) < (rs.length : Int)) = false := by simp
      have Hall := Lib.hid (show (rs.take rs.length).map (partB m) = partsR rs m by rw [Hpart.out, List.take_length, List.take_of_length_le hk7])
      rw [Hall.out] at hrows
      go_wp2
      go_ret
      exact ⟨_, _, _, rfl, hown, hrows, hbr⟩
theorem parts_own (A : Option Addr) (rs : List (List UInt8)) (n cp : Nat) (m : Int) (w : World) (hn : rs.length = n) (hr : RdC w w.heap.size A rs) (hm : -9223372036854775808 ≤ m ∧ m ≤ 9223372036854775807) :
    Calls Try.prog 11 #[.slice A n cp, .int .i64 m] w fun e w' => ∃ A' c', e = .returned (.slice A' (partsR rs m).length c') ∧ (partsR rs m).length ≤ c' ∧ RdF w.heap.size w' A' (partsR rs m) ∧ Below w.heap.size w w' :=
  (parts_row A rs n cp m w hn hr hm).mono fun _ _ ⟨v, n', xs, he, hown, hrows, hb⟩ => by
    obtain ⟨A2, c2, rfl, hc2, hr2⟩ := rdf_own hown (by rw [partsR_len]; omega) hrows
    exact ⟨_, _, he, hc2, hr2, hb⟩
end Go.Proofs.Ytfbfodcjfcnfoaa
