/- Texts put together: PlaySecs, SameS. -/
import Derived.Test.YtjnemopocmhfkaaDoorBnab
import Derived.Test.YtjnemopocmhfkaaDoorBnag
import Derived.Test.YtjnemopocmhfkaaDoorBnaa
section
set_option maxRecDepth 8000
set_option linter.unusedVariables false
set_option linter.unusedSimpArgs false
namespace Go.Proofs.YtjnemopocmhfkaaDoor
open Go.RowKit

theorem info_row2 : (Tryd.prog.info? 48).map (fun i => (i.zero, i.size, i.bytes)) = some (some (.slice none 0 0), 1, 24) := by kernel_rfl
/-- An own row of rows, nil or not. -/
def OwV (lo : Nat) (w : World) (v : Value) (rs : List (List UInt8)) : Prop := ∃ xs, w.ownsRow lo 48 1 v rs.length xs ∧ RowsY w lo v.ownBlock xs rs
theorem OwV.below {lo : Nat} {w w' : World} {v : Value} {rs : List (List UInt8)} (h : OwV lo w v rs) (hb : Below w.heap.size w w') : OwV lo w' v rs := by
  obtain ⟨xs, h1, h2⟩ := h
  exact ⟨xs, h1.kept (grown_none hb) (Classical.em _), h2.below hb⟩
theorem OwV.le {lo lo' : Nat} {w : World} {v : Value} {rs : List (List UInt8)} (h : OwV lo w v rs) (hB : lo' ≤ lo) : OwV lo' w v rs := by
  obtain ⟨xs, h1, h2⟩ := h
  refine ⟨xs, ⟨h1.1, ?_⟩, h2.1, fun k hk => ?_⟩
  · rcases h1.2 with h3 | ⟨g', cap', cur, h3, h4, r⟩
    · exact .inl h3
    · exact .inr ⟨g', cap', cur, h3, by omega, r⟩
  · obtain ⟨A, c, h3, h4, h5⟩ := h2.2 k hk
    exact ⟨A, c, h3, h4.le hB, h5⟩
def secZ (zs : List Int) (i : Nat) : Int := if i < zs.length then zs.getD i 0 else 3 * (i : Int)
def sectorsB (zs : List Int) (n : Nat) : List (List UInt8) := (List.range n).map fun i => sectorB (secZ zs i)
theorem sectorsB_len (zs : List Int) (n : Nat) : (sectorsB zs n).length = n := by simp [sectorsB]
theorem sectorsB_mem {zs : List Int} {n : Nat} : ∀ x ∈ sectorsB zs n, x.length = 32 := fun x hx => by
  unfold sectorsB at hx
  obtain ⟨i, _, rfl⟩ := List.mem_map.1 hx
  exact sectorB_len _
theorem sectorsB_snoc (zs : List Int) (k : Nat) : sectorsB zs (k + 1) = sectorsB zs k ++ [sectorB (secZ zs k)] := by
  unfold sectorsB
  rw [List.range_succ, List.map_append]
  rfl
set_option maxHeartbeats 1600000 in
theorem sectors_any (A : Option Addr) (zs : List Int) (m cp n : Nat) (w : World) (hm : m = zs.length) (hr : RdZ w w.heap.size A zs) (hn : n ≤ 1000) :
    Calls Tryd.prog 10 #[.slice A m cp, .int .i64 (n : Int)] w fun e w' => ∃ v, e = .returned v ∧ OwV w.heap.size w' v (sectorsB zs n) ∧ Below w.heap.size w w' := by
  subst hm
  have hz := hr.1
  go_enter Tryd.func10, Tryd.ntmps10
  go_wp2
  go_loopw [5, 6] (fun o i wr => ∃ (k : Nat) (vs : List Value), k ≤ n ∧ i = .int .i64 k ∧ wr.ownsRow w.heap.size 48 1 o k vs ∧ RowsY wr w.heap.size o.ownBlock vs (sectorsB zs k) ∧ Below w.heap.size w wr) (fun _ i _ => n - (intOf i).toNat)
  case atStart => exact ⟨0, [], Nat.zero_le _, rfl, World.ownsRow_nil _ _ _ _, RowsY.nil _ _ _, Below.refl _ _⟩
  case round =>
    obtain ⟨k, vs, hk, rfl, hown, hrows, hbr⟩ := hrel
    have Hsn := Lib.hid (sectorsB_snoc zs k)
    by_cases hlt : k < n
    · have i0 : (0 : Int) ≤ (k : Int) := by omega
      have i1 : (k : Int) < (n : Int) := by omega
      generalize sectorsB zs k = rk at hrows Hsn
      by_cases hz2 : k < zs.length
      · have e1 : secZ zs k = zs.getD k 0 := if_pos hz2
        rw [e1] at Hsn
        obtain ⟨b, off, rfl, hbb, hc⟩ := hr.2.2 (by omega)
        have h1 := hc k hz2
        rw [← hbr.cell (p := ⟨b, off + k, none⟩) hbb] at h1
        have hbd := hr.bd k
        have i2 : (k : Int) < (zs.length : Int) := by omega
        generalize zs.getD k 0 = x at h1 hbd Hsn
        clear hc e1
        go_wp2_with fail
        (with_reducible refine (sector_any x _ hbd).mono ?_); rintro e w1 ⟨g1, rfl, ho1, hb1⟩
        have hs0 := hbr.size
        have hrows1 := hrows.below hb1
        have hown1 := hown.kept (grown_none hb1) (Classical.em _)
        have hbw1 := hbr.trans (hb1.mono hs0)
        have hs1 := hbw1.size
        have hob := Lib.hid (fun hp => ho1.addr_ob hp)
        have hl1 : (sectorB x).length = 32 := sectorB_len _
        go_wp2_with (at_builtin; refine wpList_append_V rfl _ _ _ rfl w.heap.size 48 (.slice none 0 0) 24 Tryd.underlying31 info_row2 rfl _ k vs rfl (hown1.kept (grown_none (below1 w1 _)) (Classical.em _)) (w1.heap.size + 1) (some ⟨w1.heap.size, 0, none⟩) 1 1 [.slice (some ⟨g1, 0, none⟩) 32 32] rfl rfl (fun _ => ⟨w1.heap.size, 0, rfl, by omega, fun j hj => by obtain rfl : j = 0 := (by simp at hj; omega); exact cell_of_row _ _ _ _ _ _ (hp_new _ _ _ rfl)⟩) (fun u hu => by simp at hu; subst hu; rfl) (by unfold maxLen; omega) (by omega) (by have := hbw1.size; simp; omega) ?_; intro v2 w2 hown2 hg2 hat2)
        have hX0 := (hrows1.below (below1 w1 (.cells #[.slice (some ⟨g1, 0, none⟩) 32 32] 48))).snoc (c := 32) ((ho1.le hs0).below (below1 w1 _)).rdbf (fun hp a ha e => by
          injection ha with ha
          subst ha
          have h3 := (hown.lt _ e.symm).2
          have h4 := (ho1.lt g1 rfl).1
          simp at h3
          omega)
        rw [hl1] at hX0
        have hX := hX0.grown hg2 hat2
        have hbw2 := (hbw1.alloc hbw1.size (.cells #[.slice (some ⟨g1, 0, none⟩) 32 32] 48)).grown hg2 (by have := hbw1.size; simp; omega) (fun j hj => (hown.lt j hj).1)
        rw [← Hsn.out] at hX
        clear hX0
        clear hrows1 hown1 hbw1 hg2 ho1 hb1 hbr hown hrows hl1
        go_wp2
        go_roundw
        case rel => exact ⟨k + 1, _, by omega, by go_num, hown2, hX, hbw2⟩
        case measure => simp [intOf]; omega
      · have e1 : secZ zs k = 3 * (k : Int) := if_neg hz2
        rw [e1] at Hsn
        have hbd : -9223372036854775808 ≤ 3 * (k : Int) ∧ 3 * (k : Int) ≤ 9223372036854775807 := by omega
        have i2 : ¬ (k : Int) < (zs.length : Int) := by omega
        clear e1
        go_wp2_with fail
        (with_reducible refine (sector_any (3 * (k : Int)) _ hbd).mono ?_); rintro e w1 ⟨g1, rfl, ho1, hb1⟩
        have hs0 := hbr.size
        have hrows1 := hrows.below hb1
        have hown1 := hown.kept (grown_none hb1) (Classical.em _)
        have hbw1 := hbr.trans (hb1.mono hs0)
        have hs1 := hbw1.size
        have hob := Lib.hid (fun hp => ho1.addr_ob hp)
        have hl1 : (sectorB (3 * (k : Int))).length = 32 := sectorB_len _
        go_wp2_with (at_builtin; refine wpList_append_V rfl _ _ _ rfl w.heap.size 48 (.slice none 0 0) 24 Tryd.underlying31 info_row2 rfl _ k vs rfl (hown1.kept (grown_none (below1 w1 _)) (Classical.em _)) (w1.heap.size + 1) (some ⟨w1.heap.size, 0, none⟩) 1 1 [.slice (some ⟨g1, 0, none⟩) 32 32] rfl rfl (fun _ => ⟨w1.heap.size, 0, rfl, by omega, fun j hj => by obtain rfl : j = 0 := (by simp at hj; omega); exact cell_of_row _ _ _ _ _ _ (hp_new _ _ _ rfl)⟩) (fun u hu => by simp at hu; subst hu; rfl) (by unfold maxLen; omega) (by omega) (by have := hbw1.size; simp; omega) ?_; intro v2 w2 hown2 hg2 hat2)
        have hX0 := (hrows1.below (below1 w1 (.cells #[.slice (some ⟨g1, 0, none⟩) 32 32] 48))).snoc (c := 32) ((ho1.le hs0).below (below1 w1 _)).rdbf (fun hp a ha e => by
          injection ha with ha
          subst ha
          have h3 := (hown.lt _ e.symm).2
          have h4 := (ho1.lt g1 rfl).1
          simp at h3
          omega)
        rw [hl1] at hX0
        have hX := hX0.grown hg2 hat2
        have hbw2 := (hbw1.alloc hbw1.size (.cells #[.slice (some ⟨g1, 0, none⟩) 32 32] 48)).grown hg2 (by have := hbw1.size; simp; omega) (fun j hj => (hown.lt j hj).1)
        rw [← Hsn.out] at hX
        clear hX0
        clear hrows1 hown1 hbw1 hg2 ho1 hb1 hbr hown hrows hl1
        go_wp2
        go_roundw
        case rel => exact ⟨k + 1, _, by omega, by go_num, hown2, hX, hbw2⟩
        case measure => simp [intOf]; omega
    · obtain rfl : k = n := by omega
      have i1 : ¬ (k : Int) < (k : Int) := by omega
      go_wp2
      go_ret
      exact ⟨_, rfl, ⟨vs, by rw [sectorsB_len]; exact hown, hrows⟩, hbr⟩
end Go.Proofs.YtjnemopocmhfkaaDoor
end
section
set_option maxRecDepth 20000
set_option linter.unusedVariables false
set_option linter.unusedSimpArgs false
namespace Go.Proofs.YtjnemopocmhfkaaDoor
open Go.RowKit

theorem rowsT_snoc {ra rb : List (List UInt8)} {j : Nat} (h : ra.take j = rb.take j) (hj : j < ra.length) (hj' : j < rb.length) (he : ra.getD j [] = rb.getD j []) : ra.take (j + 1) = rb.take (j + 1) := by
  rw [List.take_succ_eq_append_getElem hj, List.take_succ_eq_append_getElem hj', h]
  have e : ra[j] = rb[j] := by simpa [hj, hj'] using he
  rw [e]
set_option maxHeartbeats 400000 in
theorem sameS_any (A A' : Option Addr) (ra rb : List (List UInt8)) (n n' c c' : Nat) (w : World) (hn : ra.length = n) (hn' : rb.length = n') (hr : RdR w w.heap.size A ra) (hr' : RdR w w.heap.size A' rb) :
    Calls Tryd.prog 12 #[.slice A n c, .slice A' n' c'] w fun e w' => e = .returned (.bool (decide (ra = rb))) ∧ Below w.heap.size w w' := by
  subst hn hn'
  have hl := hr.1
  have hl' := hr'.1
  by_cases hlen : ra.length = rb.length
  · have hle := Lib.hid hlen
    have hne : ((ra.length : Int) != (rb.length : Int)) = false := by rw [hlen]; simp
    clear hlen
    go_enter Tryd.func12, Tryd.ntmps12
    go_wp2
    go_loopw [13] (fun i wr => ∃ j : Nat, j ≤ ra.length ∧ i = .int .i64 j ∧ ra.take j = rb.take j ∧ Below w.heap.size w wr) (fun i _ => ra.length - (intOf i).toNat)
    case atStart => exact ⟨0, Nat.zero_le _, rfl, rfl, Below.refl _ _⟩
    case round =>
      obtain ⟨j, hj, rfl, htk, hbr⟩ := hrel
      have Htk := Lib.hid htk
      clear htk
      by_cases hlt : j < ra.length
      · have hlt' : j < rb.length := by have := hle.out; omega
        obtain ⟨b, off, rfl, hb, hc⟩ := hr.2 (by omega)
        obtain ⟨b', off', rfl, hb', hc'⟩ := hr'.2 (by omega)
        obtain ⟨A1, c1, h1, r1⟩ := hc j hlt
        rw [← hbr.cell (p := ⟨b, off + j, none⟩) hb] at h1
        obtain ⟨A2, c2, h2, r2⟩ := hc' j hlt'
        rw [← hbr.cell (p := ⟨b', off' + j, none⟩) hb'] at h2
        have i0 : (0 : Int) ≤ (j : Int) := by omega
        have i1 : (j : Int) < (ra.length : Int) := by omega
        have i2 : (j : Int) < (rb.length : Int) := by omega
        have Hne := Lib.hid (show ra.getD j [] ≠ rb.getD j [] → decide (ra = rb) = false from fun h => by simpa using fun e : ra = rb => h (by rw [e]))
        have Hsn := Lib.hid (show ra.getD j [] = rb.getD j [] → ra.take (j + 1) = rb.take (j + 1) from fun h => rowsT_snoc Htk.out hlt hlt' h)
        generalize ra.getD j [] = x at h1 r1 Hne Hsn
        generalize rb.getD j [] = y at h2 r2 Hne Hsn
        clear hc hc'
        have CS := Lib.hid (fun n => Calls.quiet_of (same_any A1 A2 x.length y.length c1 c2 w.heap.size x y (wr.drewN n) rfl rfl (r1.below (hbr.trans (belowN _ _ n)) (Nat.le_refl _)) (r2.below (hbr.trans (belowN _ _ n)) (Nat.le_refl _))))
        by_cases he : x = y
        · have Hs := Lib.hid (Hsn.out he)
          rw [decide_eq_true he] at CS
          clear he
          go_wp2
          go_quiet ((go_at_call 20; exact CS.out _))
          go_wp2
          go_roundw
          case rel => exact ⟨j + 1, by omega, by go_num, Hs.out, hbr.trans (belowN _ _ nq)⟩
          case measure => simp [intOf]; omega
        · have Hd := Lib.hid (Hne.out he)
          rw [decide_eq_false he] at CS
          clear he
          go_wp2
          go_quiet ((go_at_call 20; exact CS.out _))
          go_wp2
          go_ret
          exact ⟨by rw [Hd.out]; rfl, hbr.trans (belowN _ _ nq)⟩
      · obtain rfl : j = ra.length := by omega
        have Hd := Lib.hid (show decide (ra = rb) = true by
          have h1 := Htk.out
          rw [List.take_length, hle.out, List.take_length] at h1
          exact decide_eq_true h1)
        go_wp2
        go_ret
        exact ⟨by rw [Hd.out]; rfl, hbr⟩
  · go_enter Tryd.func12, Tryd.ntmps12
    have hne : ((ra.length : Int) != (rb.length : Int)) = true := by rw [bne_iff_ne]; omega
    go_wp2
    go_ret
    exact ⟨by rw [decide_eq_false (fun h => hlen (by rw [h]))]; rfl, Below.refl _ _⟩
theorem RdZ.drop {w : World} {B : Nat} {A : Option Addr} {zs : List Int} (h : RdZ w B A zs) (k cap : Nat) (hc : zs.length ≤ cap) : RdZ w B (if cap = k then A else A.map (·.add k)) (zs.drop k) :=
  ⟨by have := h.1; simp; omega, fun z hz => h.2.1 z (List.mem_of_mem_drop hz), fun hn => by
    have hn' : k < zs.length := by simp at hn; omega
    obtain ⟨b, off, rfl, hb, hc⟩ := h.2.2 (by omega)
    rw [if_neg (by omega)]
    refine ⟨b, off + k, ?_, hb, fun j hj => ?_⟩
    · unfold Addr.add; by_cases hk0 : k = 0 <;> simp [hk0]
    · have hj' : k + j < zs.length := by simp at hj; omega
      rw [Nat.add_assoc, hc (k + j) hj']
      simp⟩
end Go.Proofs.YtjnemopocmhfkaaDoor
end
