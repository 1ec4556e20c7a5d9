/- Texts put together: PlaySecs, SameS, SecsC. -/
import Derived.Test.YtjnemopocmhfkaaDoorBbab
import Derived.Test.YtjnemopocmhfkaaDoorBbah
import Derived.Test.YtjnemopocmhfkaaDoorBbaa
section
set_option maxRecDepth 8000
set_option linter.unusedVariables false
set_option linter.unusedSimpArgs false
namespace Go.Proofs.YtjnemopocmhfkaaDoor
open Go.RowKit

theorem info_row2 : (Tryd.prog.info? 48).map (fun i => (i.zero, i.size, i.bytes)) = some (some (.slice none 0 0), 1, 24) := by kernel_rfl
/-- An own row of rows, nil or not. -/
def OwV (lo : Nat) (w : World) (v : Value) (rs : List (List UInt8)) : Prop := ∃ xs, w.ownsRow lo 48 1 v rs.length xs ∧ RowsY w lo v.ownBlock xs rs
theorem OwV.below {lo : Nat} {w w' : World} {v : Value} {rs : List (List UInt8)} (h : OwV lo w v rs) (hb : Below w.heap.size w w') : OwV lo w' v rs := by
  obtain ⟨xs, h1, h2⟩ := h
  exact ⟨xs, h1.kept (grown_none hb) (Classical.em _), h2.below hb⟩
theorem OwV.le {lo lo' : Nat} {w : World} {v : Value} {rs : List (List UInt8)} (h : OwV lo w v rs) (hB : lo' ≤ lo) : OwV lo' w v rs := by
  obtain ⟨xs, h1, h2⟩ := h
  refine ⟨xs, ⟨h1.1, ?_⟩, h2.1, fun k hk => ?_⟩
  · rcases h1.2 with h3 | ⟨g', cap', cur, h3, h4, r⟩
    · exact .inl h3
    · exact .inr ⟨g', cap', cur, h3, by omega, r⟩
  · obtain ⟨A, c, h3, h4, h5⟩ := h2.2 k hk
    exact ⟨A, c, h3, h4.le hB, h5⟩
theorem OwV.owr {lo : Nat} {w : World} {v : Value} {rs : List (List UInt8)} (h : OwV lo w v rs) (h0 : 0 < rs.length) : ∃ g cap, v = .slice (some ⟨g, 0, none⟩) rs.length cap ∧ OwR w lo g rs.length cap rs := by
  obtain ⟨xs, h1, h2⟩ := h
  rcases h1.2 with ⟨_, h3⟩ | ⟨g, cap, cur, rfl, hb, hg, hc, r⟩
  · omega
  · exact ⟨g, cap, rfl, rfl, hc, hb, xs, h1, h2⟩
def secZ (zs : List Int) (i : Nat) : Int := if i < zs.length then zs.getD i 0 else 3 * (i : Int)
def sectorsB (zs : List Int) (n : Nat) : List (List UInt8) := (List.range n).map fun i => sectorB (secZ zs i)
theorem sectorsB_len (zs : List Int) (n : Nat) : (sectorsB zs n).length = n := by simp [sectorsB]
theorem sectorsB_mem {zs : List Int} {n : Nat} : ∀ x ∈ sectorsB zs n, x.length = 32 := fun x hx => by
  unfold sectorsB at hx
  obtain ⟨i, _, rfl⟩ := List.mem_map.1 hx
  exact sectorB_len _
theorem sectorsB_snoc (zs : List Int) (k : Nat) : sectorsB zs (k + 1) = sectorsB zs k ++ [sectorB (secZ zs k)] := by
  unfold sectorsB
  rw [List.range_succ, List.map_append]
  rfl
end Go.Proofs.YtjnemopocmhfkaaDoor
end
section
set_option maxRecDepth 20000
set_option linter.unusedVariables false
set_option linter.unusedSimpArgs false
namespace Go.Proofs.YtjnemopocmhfkaaDoor
open Go.RowKit

theorem rowsT_snoc {ra rb : List (List UInt8)} {j : Nat} (h : ra.take j = rb.take j) (hj : j < ra.length) (hj' : j < rb.length) (he : ra.getD j [] = rb.getD j []) : ra.take (j + 1) = rb.take (j + 1) := by
  rw [List.take_succ_eq_append_getElem hj, List.take_succ_eq_append_getElem hj', h]
  have e : ra[j] = rb[j] := by simpa [hj, hj'] using he
  rw [e]
set_option maxHeartbeats 400000 in
theorem sameS_any (A A' : Option Addr) (ra rb : List (List UInt8)) (n n' c c' : Nat) (w : World) (hn : ra.length = n) (hn' : rb.length = n') (hr : RdR w w.heap.size A ra) (hr' : RdR w w.heap.size A' rb) :
    Calls Tryd.prog 12 #[.slice A n c, .slice A' n' c'] w fun e w' => e = .returned (.bool (decide (ra = rb))) ∧ Below w.heap.size w w' := by
  subst hn hn'
  have hl := hr.1
  have hl' := hr'.1
  by_cases hlen : ra.length = rb.length
  · have hle := Lib.hid hlen
    have hne : ((ra.length : Int) != (rb.length : Int)) = false := by rw [hlen]; simp
    clear hlen
    go_enter Tryd.func12, Tryd.ntmps12
    go_wp2
    go_loopw [13] (fun i wr => ∃ j : Nat, j ≤ ra.length ∧ i = .int .i64 j ∧ ra.take j = rb.take j ∧ Below w.heap.size w wr) (fun i _ => ra.length - (intOf i).toNat)
    case atStart => exact ⟨0, Nat.zero_le _, rfl, rfl, Below.refl _ _⟩
    case round =>
      obtain ⟨j, hj, rfl, htk, hbr⟩ := hrel
      have Htk := Lib.hid htk
      clear htk
      by_cases hlt : j < ra.length
      · have hlt' : j < rb.length := by have := hle.out; omega
        obtain ⟨b, off, rfl, hb, hc⟩ := hr.2 (by omega)
        obtain ⟨b', off', rfl, hb', hc'⟩ := hr'.2 (by omega)
        obtain ⟨A1, c1, h1, r1⟩ := hc j hlt
        rw [← hbr.cell (p := ⟨b, off + j, none⟩) hb] at h1
        obtain ⟨A2, c2, h2, r2⟩ := hc' j hlt'
        rw [← hbr.cell (p := ⟨b', off' + j, none⟩) hb'] at h2
        have i0 : (0 : Int) ≤ (j : Int) := by omega
        have i1 : (j : Int) < (ra.length : Int) := by omega
        have i2 : (j : Int) < (rb.length : Int) := by omega
        have Hne := Lib.hid (show ra.getD j [] ≠ rb.getD j [] → decide (ra = rb) = false from fun h => by simpa using fun e : ra = rb => h (by rw [e]))
        have Hsn := Lib.hid (show ra.getD j [] = rb.getD j [] → ra.take (j + 1) = rb.take (j + 1) from fun h => rowsT_snoc Htk.out hlt hlt' h)
        generalize ra.getD j [] = x at h1 r1 Hne Hsn
        generalize rb.getD j [] = y at h2 r2 Hne Hsn
        clear hc hc'
        have CS := Lib.hid (fun n => Calls.quiet_of (same_any A1 A2 x.length y.length c1 c2 w.heap.size x y (wr.drewN n) rfl rfl (r1.below (hbr.trans (belowN _ _ n)) (Nat.le_refl _)) (r2.below (hbr.trans (belowN _ _ n)) (Nat.le_refl _))))
        by_cases he : x = y
        · have Hs := Lib.hid (Hsn.out he)
          rw [decide_eq_true he] at CS
          clear he
          go_wp2
          go_quiet ((go_at_call 20; exact CS.out _))
          go_wp2
          go_roundw
          case rel => exact ⟨j + 1, by omega, by go_num, Hs.out, hbr.trans (belowN _ _ nq)⟩
          case measure => simp [intOf]; omega
        · have Hd := Lib.hid (Hne.out he)
          rw [decide_eq_false he] at CS
          clear he
          go_wp2
          go_quiet ((go_at_call 20; exact CS.out _))
          go_wp2
          go_ret
          exact ⟨by rw [Hd.out]; rfl, hbr.trans (belowN _ _ nq)⟩
      · obtain rfl : j = ra.length := by omega
        have Hd := Lib.hid (show decide (ra = rb) = true by
          have h1 := Htk.out
          rw [List.take_length, hle.out, List.take_length] at h1
          exact decide_eq_true h1)
        go_wp2
        go_ret
        exact ⟨by rw [Hd.out]; rfl, hbr⟩
  · go_enter Tryd.func12, Tryd.ntmps12
    have hne : ((ra.length : Int) != (rb.length : Int)) = true := by rw [bne_iff_ne]; omega
    go_wp2
    go_ret
    exact ⟨by rw [decide_eq_false (fun h => hlen (by rw [h]))]; rfl, Below.refl _ _⟩
end Go.Proofs.YtjnemopocmhfkaaDoor
end
section
set_option maxRecDepth 20000
set_option linter.unusedVariables false
set_option linter.unusedSimpArgs false
namespace Go.Proofs.YtjnemopocmhfkaaDoor
open Go.RowKit

def C32 (xs : List Value) : Prop := ∀ u ∈ xs, ∃ g : Nat, u = .slice (some ⟨g, 0, none⟩) 32 32
theorem C32.snoc {xs : List Value} (h : C32 xs) (g : Nat) : C32 (xs ++ [.slice (some ⟨g, 0, none⟩) 32 32]) := fun u hu => by
  rcases List.mem_append.1 hu with h1 | h1
  · exact h u h1
  · exact ⟨g, List.mem_singleton.1 h1⟩
set_option maxHeartbeats 1600000 in
theorem sectorsC_any (A : Option Addr) (zs : List Int) (m cp n : Nat) (w : World) (hm : m = zs.length) (hr : RdZ w w.heap.size A zs) (hn : n ≤ 1000) :
    Calls Tryd.prog 10 #[.slice A m cp, .int .i64 (n : Int)] w fun e w' => ∃ v, e = .returned v ∧ ∃ xs, (w'.ownsRow w.heap.size 48 1 v n xs ∧ RowsY w' w.heap.size v.ownBlock xs (sectorsB zs n)) ∧ C32 xs ∧ Below w.heap.size w w' := by
  subst hm
  have hz := hr.1
  go_enter Tryd.func10, Tryd.ntmps10
  go_wp2
  go_loopw [5, 6] (fun o i wr => ∃ (k : Nat) (vs : List Value), k ≤ n ∧ i = .int .i64 k ∧ wr.ownsRow w.heap.size 48 1 o k vs ∧ RowsY wr w.heap.size o.ownBlock vs (sectorsB zs k) ∧ Below w.heap.size w wr ∧ C32 vs) (fun _ i _ => n - (intOf i).toNat)
  case atStart => exact ⟨0, [], Nat.zero_le _, rfl, World.ownsRow_nil _ _ _ _, RowsY.nil _ _ _, Below.refl _ _, fun u hu => by cases hu⟩
  case round =>
    obtain ⟨k, vs, hk, rfl, hown, hrows, hbr, hc32⟩ := hrel
    have HC := Lib.hid hc32
    clear hc32
    have Hsn := Lib.hid (sectorsB_snoc zs k)
    by_cases hlt : k < n
    · have i0 : (0 : Int) ≤ (k : Int) := by omega
      have i1 : (k : Int) < (n : Int) := by omega
      generalize sectorsB zs k = rk at hrows Hsn
      by_cases hz2 : k < zs.length
      · have e1 : secZ zs k = zs.getD k 0 := if_pos hz2
        rw [e1] at Hsn
        obtain ⟨b, off, rfl, hbb, hc⟩ := hr.2.2 (by omega)
        have h1 := hc k hz2
        rw [← hbr.cell (p := ⟨b, off + k, none⟩) hbb] at h1
        have hbd := hr.bd k
        have i2 : (k : Int) < (zs.length : Int) := by omega
        generalize zs.getD k 0 = x at h1 hbd Hsn
        clear hc e1
        go_wp2_with fail
        (with_reducible refine (sector_any x _ hbd).mono ?_); rintro e w1 ⟨g1, rfl, ho1, hb1⟩
        have hs0 := hbr.size
        have hrows1 := hrows.below hb1
        have hown1 := hown.kept (grown_none hb1) (Classical.em _)
        have hbw1 := hbr.trans (hb1.mono hs0)
        have hs1 := hbw1.size
        have hob := Lib.hid (fun hp => ho1.addr_ob hp)
        have hl1 : (sectorB x).length = 32 := sectorB_len _
        go_wp2_with (at_builtin; refine wpList_append_V rfl _ _ _ rfl w.heap.size 48 (.slice none 0 0) 24 Tryd.underlying31 info_row2 rfl _ k vs rfl (hown1.kept (grown_none (below1 w1 _)) (Classical.em _)) (w1.heap.size + 1) (some ⟨w1.heap.size, 0, none⟩) 1 1 [.slice (some ⟨g1, 0, none⟩) 32 32] rfl rfl (fun _ => ⟨w1.heap.size, 0, rfl, by omega, fun j hj => by obtain rfl : j = 0 := (by simp at hj; omega); exact cell_of_row _ _ _ _ _ _ (hp_new _ _ _ rfl)⟩) (fun u hu => by simp at hu; subst hu; rfl) (by unfold maxLen; omega) (by omega) (by have := hbw1.size; simp; omega) ?_; intro v2 w2 hown2 hg2 hat2)
        have hX0 := (hrows1.below (below1 w1 (.cells #[.slice (some ⟨g1, 0, none⟩) 32 32] 48))).snoc (c := 32) ((ho1.le hs0).below (below1 w1 _)).rdbf (fun hp a ha e => by
          injection ha with ha
          subst ha
          have h3 := (hown.lt _ e.symm).2
          have h4 := (ho1.lt g1 rfl).1
          simp at h3
          omega)
        rw [hl1] at hX0
        have hX := hX0.grown hg2 hat2
        have hbw2 := (hbw1.alloc hbw1.size (.cells #[.slice (some ⟨g1, 0, none⟩) 32 32] 48)).grown hg2 (by have := hbw1.size; simp; omega) (fun j hj => (hown.lt j hj).1)
        rw [← Hsn.out] at hX
        clear hX0
        clear hrows1 hown1 hbw1 hg2 ho1 hb1 hbr hown hrows hl1
        go_wp2
        go_roundw
        case rel => exact ⟨k + 1, _, by omega, by go_num, hown2, hX, hbw2, HC.out.snoc g1⟩
        case measure => simp [intOf]; omega
      · have e1 : secZ zs k = 3 * (k : Int) := if_neg hz2
        rw [e1] at Hsn
        have hbd : -9223372036854775808 ≤ 3 * (k : Int) ∧ 3 * (k : Int) ≤ 9223372036854775807 := by omega
        have i2 : ¬ (k : Int) < (zs.length : Int) := by omega
        clear e1
        go_wp2_with fail
        (with_reducible refine (sector_any (3 * (k : Int)) _ hbd).mono ?_); rintro e w1 ⟨g1, rfl, ho1, hb1⟩
        have hs0 := hbr.size
        have hrows1 := hrows.below hb1
        have hown1 := hown.kept (grown_none hb1) (Classical.em _)
        have hbw1 := hbr.trans (hb1.mono hs0)
        have hs1 := hbw1.size
        have hob := Lib.hid (fun hp => ho1.addr_ob hp)
        have hl1 : (sectorB (3 * (k : Int))).length = 32 := sectorB_len _
        go_wp2_with (at_builtin; refine wpList_append_V rfl _ _ _ rfl w.heap.size 48 (.slice none 0 0) 24 Tryd.underlying31 info_row2 rfl _ k vs rfl (hown1.kept (grown_none (below1 w1 _)) (Classical.em _)) (w1.heap.size + 1) (some ⟨w1.heap.size, 0, none⟩) 1 1 [.slice (some ⟨g1, 0, none⟩) 32 32] rfl rfl (fun _ => ⟨w1.heap.size, 0, rfl, by omega, fun j hj => by obtain rfl : j = 0 := (by simp at hj; omega); exact cell_of_row _ _ _ _ _ _ (hp_new _ _ _ rfl)⟩) (fun u hu => by simp at hu; subst hu; rfl) (by unfold maxLen; omega) (by omega) (by have := hbw1.size; simp; omega) ?_; intro v2 w2 hown2 hg2 hat2)
        have hX0 := (hrows1.below (below1 w1 (.cells #[.slice (some ⟨g1, 0, none⟩) 32 32] 48))).snoc (c := 32) ((ho1.le hs0).below (below1 w1 _)).rdbf (fun hp a ha e => by
          injection ha with ha
          subst ha
          have h3 := (hown.lt _ e.symm).2
          have h4 := (ho1.lt g1 rfl).1
          simp at h3
          omega)
        rw [hl1] at hX0
        have hX := hX0.grown hg2 hat2
        have hbw2 := (hbw1.alloc hbw1.size (.cells #[.slice (some ⟨g1, 0, none⟩) 32 32] 48)).grown hg2 (by have := hbw1.size; simp; omega) (fun j hj => (hown.lt j hj).1)
        rw [← Hsn.out] at hX
        clear hX0
        clear hrows1 hown1 hbw1 hg2 ho1 hb1 hbr hown hrows hl1
        go_wp2
        go_roundw
        case rel => exact ⟨k + 1, _, by omega, by go_num, hown2, hX, hbw2, HC.out.snoc g1⟩
        case measure => simp [intOf]; omega
    · obtain rfl : k = n := by omega
      have i1 : ¬ (k : Int) < (k : Int) := by omega
      go_wp2
      go_ret
      exact ⟨_, rfl, vs, ⟨hown, hrows⟩, HC.out, hbr⟩
theorem RdBF.take {lo : Nat} {w : World} {A : Option Addr} {bs : List UInt8} (h : RdBF lo w A bs) (k : Nat) : RdBF lo w A (bs.take k) :=
  ⟨by have := h.1; rw [List.length_take]; omega, fun hn => by
    rw [List.length_take] at hn
    obtain ⟨b, off, e, hb, hl, hc⟩ := h.2 (by omega)
    refine ⟨b, off, e, hb, hl, fun j hj => ?_⟩
    rw [List.length_take] at hj
    rw [hc j (by omega)]
    simp [List.getD_eq_getElem?_getD, List.getElem?_take, show j < k by omega]⟩
/-- These rows, the last one cut to three bytes. -/
def cutL (rs : List (List UInt8)) : List (List UInt8) := rs.set (rs.length - 1) ((rs.getD (rs.length - 1) []).take 3)
theorem cutL_len (rs : List (List UInt8)) : (cutL rs).length = rs.length := List.length_set ..
theorem secs_cut {w : World} {lo n : Nat} {v : Value} {xs : List Value} {rs : List (List UInt8)} (hl : rs.length = n) (h32 : ∀ y ∈ rs, y.length = 32) (h1 : w.ownsRow lo 48 1 v n xs) (h2 : RowsY w lo v.ownBlock xs rs) (h3 : C32 xs) (hn : 0 < n) :
    ∃ g cap q : Nat, v = .slice (some ⟨g, 0, none⟩) n cap ∧ lo ≤ g ∧ w.cell? ⟨g, n - 1, none⟩ = some (.slice (some ⟨q, 0, none⟩) 32 32) ∧ w.frozen? ⟨g, n - 1, none⟩ = false ∧ OwV lo (w.setCell ⟨g, n - 1, none⟩ (.slice (some ⟨q, 0, none⟩) 3 32)) v (cutL rs) := by
  subst hl
  obtain ⟨g, cap, rfl, ho⟩ := OwV.owr (show OwV lo w v rs from ⟨xs, h1, h2⟩) hn
  have hj : rs.length - 1 < rs.length := by omega
  obtain ⟨A, c, e1, r1, ne1⟩ := h2.2 (rs.length - 1) hj
  have hx32 : (rs.getD (rs.length - 1) []).length = 32 := h32 _ (by rw [List.getD_eq_getElem?_getD, List.getElem?_eq_getElem hj]; exact List.getElem_mem _)
  obtain ⟨q, hq⟩ := h3 _ (List.mem_of_getElem? e1)
  rw [hx32] at hq
  injection hq with hA _ hc
  subst hA hc
  have hcell := World.ownsRow.cellAt h1 (rs.length - 1) (by omega)
  rw [e1, hx32] at hcell
  have hset := ho.set (rs.length - 1) (c := 32) (r1.take 3) (fun _ a ha => by
    have := ne1 (by rw [hx32]; omega) a ha
    exact fun e => this (by rw [e]; rfl))
  rw [show ((rs.getD (rs.length - 1) []).take 3).length = 3 by rw [List.length_take, hx32]; rfl] at hset
  obtain ⟨k0, _, k2, xs', k3, k4⟩ := hset
  exact ⟨g, cap, q, rfl, k2, hcell, World.ownsRow.frozenAt h1 _, xs', by rw [cutL_len]; exact k3, k4⟩
theorem cutL_any {rs : List (List UInt8)} (h0 : 0 < rs.length) (h32 : ∀ y ∈ rs, y.length = 32) : (cutL rs).any (fun y => (y.length : Int) != 32) = true := by
  have hj : rs.length - 1 < rs.length := by omega
  have hx32 : (rs.getD (rs.length - 1) []).length = 32 := h32 _ (by rw [List.getD_eq_getElem?_getD, List.getElem?_eq_getElem hj]; exact List.getElem_mem _)
  refine List.any_eq_true.2 ⟨(rs.getD (rs.length - 1) []).take 3, ?_, by rw [List.length_take, hx32]; decide⟩
  exact List.mem_set hj _
end Go.Proofs.YtjnemopocmhfkaaDoor
end
