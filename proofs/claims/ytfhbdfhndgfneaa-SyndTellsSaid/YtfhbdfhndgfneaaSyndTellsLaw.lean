/- SyndTells' walk. -/
import Derived.Test.YtfhbdfhndgfneaaRefSynd
import Derived.Test.YtfhbdfhndgfneaaParts
import Derived.Test.YtfhbdfhndgfneaaSyndWakes
namespace Go.Proofs.Ytfhbdfhndgfneaa
open Go.RowKit

/-- P of nothing, Q of nothing. -/
theorem p_none (w : World) : Calls Try.prog 8 #[.slice none 0 0] w fun e w' => ∃ A c, e = .returned (.slice A 0 c) ∧ Below w.heap.size w w' :=
  (p_any none [] 0 0 w rfl ⟨by simp, fun h => by simp at h⟩).mono fun _ _ ⟨v, he, ho, hb⟩ => by
    obtain ⟨A, c, rfl⟩ := own_nil_len ho
    exact ⟨A, c, he, hb⟩
theorem q_none (w : World) : Calls Try.prog 9 #[.slice none 0 0] w fun e w' => ∃ A c, e = .returned (.slice A 0 c) ∧ Below w.heap.size w w' :=
  (q_any none [] 0 0 w rfl ⟨by simp, fun h => by simp at h⟩).mono fun _ _ ⟨v, he, ho, hb⟩ => by
    obtain ⟨A, c, rfl⟩ := own_nil_len ho
    exact ⟨A, c, he, hb⟩
/-- Two own slices with the same bytes are the same. -/
theorem same_own {w : World} {B B' : Nat} {A A' : Option Addr} {n n' c c' : Nat} {bs : List UInt8} (h : OwB 5 w B (.slice A n c) bs) (h' : OwB 5 w B' (.slice A' n' c') bs) :
    Calls Try.prog 7 #[.slice A n c, .slice A' n' c'] w fun e w' => e = .returned (.bool true) ∧ ∃ m, w' = w.drewN m :=
  (same_any A A' n n' c c' _ bs bs w h.rdS.2.1 h'.rdS.2.1 h.rdS.1 h'.rdS.1).mono fun _ _ ⟨he, hw⟩ => ⟨by rw [he, decide_eq_true rfl], hw⟩
/-- bs times f, its first j bytes so far; the others as they are. -/
def mTo (a : List UInt8) (f j : Nat) : List UInt8 := scaleL (a.take j) f ++ a.drop j
theorem mTo_len (a : List UInt8) (f j : Nat) : (mTo a f j).length = a.length := by simp [mTo, scaleL_len]; omega
theorem mTo_zero (a : List UInt8) (f : Nat) : mTo a f 0 = a := by simp [mTo, scaleL]
theorem mTo_all (a : List UInt8) (f : Nat) : mTo a f a.length = scaleL a f := by simp [mTo]
theorem mTo_get (a : List UInt8) (f : Nat) {j : Nat} (hj : j < a.length) : (mTo a f j).getD j 0 = a.getD j 0 := by
  have hl : (scaleL (a.take j) f).length = j := by rw [scaleL_len]; simp; omega
  unfold mTo
  rw [List.getD_eq_getElem?_getD, List.getElem?_append_right (by omega), hl]
  simp
theorem mTo_succ (a : List UInt8) (f : Nat) {j : Nat} (hj : j < a.length) : (mTo a f j).set j (mulU (a.getD j 0) f) = mTo a f (j + 1) := by
  have hl : (scaleL (a.take j) f).length = j := by rw [scaleL_len]; simp; omega
  unfold mTo
  rw [List.set_append_right _ _ (by omega), hl, Nat.sub_self, List.drop_eq_getElem_cons hj, List.set_cons_zero, List.take_succ_eq_append_getElem hj]
  unfold scaleL
  rw [List.map_append, List.append_assoc]
  simp [hj]
set_option maxRecDepth 100000 in
set_option maxHeartbeats 1600000 in
theorem tells (Al : Option Addr) (l : List (List UInt8)) (cl : Nat) (n : Int) (f : Nat) (w : World) (_ : l.length ≤ cl) (hrl : RdC w w.heap.size Al l) (hn : -9223372036854775808 ≤ n ∧ n ≤ 9223372036854775807) (hf : f < 256) :
    Calls Try.prog 5 #[.slice Al l.length cl, .int .i64 n, .int .u8 (f : Int)] w fun e w' => e = .returned (.bool true) ∧ Below w.heap.size w w' := by
  go_enter Try.func5, Try.ntmps5
  go_wp2_with fail
  refine (parts_any Al l l.length cl n w rfl hrl hn).mono ?_
  rintro e w1 ⟨Ax, cx, rfl, hcx, hx, hb1⟩
  have hxl := Lib.hid (show (partsR l n).length ≤ 7 by rw [partsR_len]; omega)
  generalize partsR l n = x at hx hcx hxl
  have h7 := hxl.out
  go_wp2_with fail
  refine (p_any Ax x x.length cx w1 rfl hx).mono ?_
  rintro e w2 ⟨v2, rfl, ho2, hb2⟩
  obtain ⟨A2, c2, rfl, hc2, _⟩ := ho2.rd
  have hx2 := (hx.below hb2 (Nat.le_refl _)).more hb2.size
  have hw2 := hb1.trans (hb2.mono hb1.size)
  go_wp2_with fail
  refine (refP_any Ax x x.length cx w2 rfl hx2).mono ?_
  rintro e w3 ⟨v3, rfl, ho3, hb3⟩
  obtain ⟨A3, c3, rfl, hc3, _⟩ := ho3.rd
  have hx3 := (hx2.below hb3 (Nat.le_refl _)).more hb3.size
  have hw3 := hw2.trans (hb3.mono hw2.size)
  go_wp2_with fail
  refine (same_own (ho2.below hb3) ho3).mono ?_
  rintro e w4 ⟨rfl, m4, rfl⟩
  have hx4 : RdR (w3.drewN m4) (w3.drewN m4).heap.size Ax x := hx3.below (belowN _ _ _) (Nat.le_refl _)
  have hw4 := hw3.trans (belowN w.heap.size w3 m4)
  clear ho2 ho3 hx3 hw3 hw2 hx2 hb2 hb3
  generalize w3.drewN m4 = w4 at hx4 hw4 ⊢
  go_wp2_with fail
  refine (q_any Ax x x.length cx w4 rfl hx4).mono ?_
  rintro e w5 ⟨v5, rfl, ho5, hb5⟩
  obtain ⟨A5, c5, rfl, hc5, _⟩ := ho5.rd
  have hx5 := (hx4.below hb5 (Nat.le_refl _)).more hb5.size
  have hw5 := hw4.trans (hb5.mono hw4.size)
  go_wp2_with fail
  refine (refQ_any Ax x x.length cx w5 rfl hx5).mono ?_
  rintro e w6 ⟨v6, rfl, ho6, hb6⟩
  obtain ⟨A6, c6, rfl, hc6, _⟩ := ho6.rd
  have hx6 := (hx5.below hb6 (Nat.le_refl _)).more hb6.size
  have hw6 := hw5.trans (hb6.mono hw5.size)
  go_wp2_with fail
  refine (same_own (ho5.below hb6) ho6).mono ?_
  rintro e w7 ⟨rfl, m7, rfl⟩
  have hx7 : RdR (w6.drewN m7) (w6.drewN m7).heap.size Ax x := hx6.below (belowN _ _ _) (Nat.le_refl _)
  have hw7 := hw6.trans (belowN w.heap.size w6 m7)
  clear ho5 ho6 hx6 hw6 hw5 hx5 hb5 hb6
  generalize w6.drewN m7 = w7 at hx7 hw7 ⊢
  go_wp2_with fail
  refine (p_none w7).mono ?_
  rintro e w8 ⟨A8, c8, rfl, hb8⟩
  have hx8 := (hx7.below hb8 (Nat.le_refl _)).more hb8.size
  have hw8 := hw7.trans (hb8.mono hw7.size)
  go_wp2_with fail
  refine (q_none w8).mono ?_
  rintro e w9 ⟨A9, c9, rfl, hb9⟩
  have hx9 := (hx8.below hb9 (Nat.le_refl _)).more hb9.size
  have hw9 := hw8.trans (hb9.mono hw8.size)
  clear hx8 hw8 hb8 hb9 hx7 hw7 hx4 hw4
  go_wp2_with fail
  go_loopw [8] (fun i wr => ∃ k : Nat, 1 ≤ k ∧ k ≤ 8 ∧ i = .int .i64 k ∧ RdR wr wr.heap.size Ax x ∧ Below w.heap.size w wr) (fun i _ => 8 - (intOf i).toNat)
  case atStart => exact ⟨1, Nat.le_refl _, by omega, rfl, hx9, hw9⟩
  case round =>
    obtain ⟨k, hk1, hk8, rfl, hxr, hwr⟩ := hrel
    by_cases hlt : k < x.length
    · obtain ⟨b, off, rfl, hbb, hc⟩ := hxr.2 (by omega)
      obtain ⟨j, hj⟩ : ∃ j, j + 1 = k := ⟨k - 1, by omega⟩
      obtain ⟨A1, c1, q1, r1⟩ := hc j (by omega)
      obtain ⟨A2, c2, q2, r2⟩ := hc k hlt
      have hjl : j < x.length := by omega
      have es : IntKind.i64.wrap ((k : Int) - 1) = (j : Int) := by rw [IntWalk.i64_in _ (by omega)]; omega
      have i0 : (0 : Int) ≤ (k : Int) := by omega
      have i1 : (k : Int) < (x.length : Int) := by omega
      have i2 : (0 : Int) ≤ (j : Int) := by omega
      have i3 : (j : Int) < (x.length : Int) := by omega
      have hln1 := Lib.hid r1.1
      generalize x.getD j [] = y1 at q1 r1
      generalize x.getD k [] = y2 at q2 r2
      have CA : Hid (∀ W, Below wr.heap.size wr W → Calls Try.prog 11 #[.slice A1 y1.length c1, .slice A2 y2.length c2] W fun e w' => ∃ v, e = .returned v ∧ OwB 5 w' W.heap.size v (pB [y1, y2]) ∧ Below W.heap.size W w') :=
        Lib.hid fun W hb => add_any A1 A2 y1 y2 _ _ c1 c2 wr.heap.size W rfl rfl (r1.below hb (Nat.le_refl _)) (r2.below hb (Nat.le_refl _)) hb.size
      have CR : Hid (∀ W g, W.heap[g]? = some (.cells #[.slice A1 y1.length c1, .slice A2 y2.length c2] 22) → Below wr.heap.size wr W → Calls Try.prog 15 #[.slice (some ⟨g, 0, none⟩) 2 2] W fun e w' => ∃ v, e = .returned v ∧ OwB 5 w' W.heap.size v (pB [y1, y2]) ∧ Below W.heap.size W w') :=
        Lib.hid fun W g hg hb => refP_any _ [y1, y2] 2 2 W rfl (rdr_block2 hg rfl rfl (r1.below hb (Nat.le_refl _)) (r2.below hb (Nat.le_refl _)) hb.size)
      generalize pB [y1, y2] = pp at CA CR
      have Hc := Lib.hid hc
      have Hj := Lib.hid hj
      clear hc hj r1 r2
      go_wp2_with fail
      go_cut [68] (fun s W => s = .bool false ∧ Below wr.heap.size wr W)
      case first =>
        go_region_held3 (fun W => W.cell? ⟨b, off + j, none⟩ = some (.slice A1 y1.length c1) ∧ W.cell? ⟨b, off + k, none⟩ = some (.slice A2 y2.length c2) ∧ Below wr.heap.size wr W)
          ((repeat' apply And.intro) <;> first | assumption | exact (hbwR.trans (belowN wr.heap.size wR mS)) | exact (Below.refl _ _).drew | exact (below1 _ _).drew | exact hbwA.alloc hbwA.size _ | exact (Below.cell (by first | assumption | exact (Below.refl _ _).drew | exact (below1 _ _).drew | exact hbwA.alloc hbwA.size _) hbb).trans q1 | exact (Below.cell (by first | assumption | exact (Below.refl _ _).drew | exact (below1 _ _).drew | exact hbwA.alloc hbwA.size _) hbb).trans q2)
          (first
            | (go_at_call 11
               (with_reducible refine (CA.out _ ?_).mono ?_)
               (first | exact (Below.refl _ _).drew | exact (below1 _ _).drew)
               rintro e wA ⟨vA, rfl, hoA, hbA⟩
               obtain ⟨AA, cA, rfl, _, _⟩ := hoA.rd
               obtain ⟨BA, hoA⟩ : ∃ BA, OwB 5 wA BA (.slice AA pp.length cA) pp := ⟨_, hoA⟩
               have hbwA : Below wr.heap.size wr wA := by first | exact (Below.refl _ _).drew.trans (hbA.mono (Nat.le_refl _)) | exact (below1 _ _).drew.trans (hbA.mono (by simp))
               dsimp only)
            | (go_at_call 15
               (with_reducible refine (CR.out _ _ ?_ ?_).mono ?_)
               (first | exact hp_new _ _ _ rfl | (rw [hbA.block _ (by simp)]; (try rw [hp_drew]); exact hp_new _ _ _ (by simp)))
               (first | exact hbwA | exact hbwA.alloc hbwA.size _)
               rintro e wR ⟨vR, rfl, hoR, hbR⟩
               obtain ⟨AR, cR, rfl, _, _⟩ := hoR.rd
               have hoA2 : OwB 5 wR BA (.slice AA pp.length cA) pp := by first | exact hoA.below hbR | exact (hoA.below (below1 _ _)).below hbR
               have hbwR : Below wr.heap.size wr wR := by first | exact hbwA.trans (hbR.mono hbwA.size) | exact (hbwA.alloc hbwA.size _).trans (hbR.mono (hbwA.alloc hbwA.size _).size)
               dsimp only)
            | (go_at_call 7
               (with_reducible refine (same_own hoA2 hoR).mono ?_)
               rintro e wS ⟨rfl, mS, rfl⟩
               have hbwS := hbwR.trans (belowN wr.heap.size wR mS)
               dsimp only))
        all_goals (go_wp2_with fail; go_meet; exact ⟨rfl, hbwS⟩)
      case rest =>
        obtain ⟨rfl, hbc⟩ := hcut
        have hxc := (hxr.below hbc (Nat.le_refl _)).more hbc.size
        have hwc := hwr.trans (hbc.mono hwr.size)
        go_wp2
        go_roundw
        case rel => exact ⟨k + 1, by omega, by omega, by go_num, hxc, hwc⟩
        case measure => simp [intOf]; omega
    · have hge : x.length ≤ k := by omega
      clear hx9 hw9
      go_wp2_with fail
      go_loopw [71] (fun i wq => ∃ t : Nat, t ≤ x.length ∧ i = .int .i64 t ∧ RdR wq wq.heap.size Ax x ∧ Below w.heap.size w wq) (fun i _ => x.length - (intOf i).toNat)
      case atStart => exact ⟨0, Nat.zero_le _, rfl, hxr, hwr⟩
      case round =>
        obtain ⟨t, ht, rfl, hxq, hwq⟩ := hrel
        rename World => wq
        by_cases hlt2 : t < x.length
        · obtain ⟨b, off, rfl, hbb, hc⟩ := hxq.2 (by omega)
          obtain ⟨A1, c1, q1, r1⟩ := hc t hlt2
          have hl1 := r1.1
          generalize x.getD t [] = y at q1 r1 hl1
          clear hc
          go_wp2_with fail
          refine (copy_any A1 y.length c1 _ y wq rfl r1).mono ?_
          rintro e wc ⟨vc, rfl, hoc, hbc⟩
          obtain ⟨Ac, cc, rfl, hcc, _⟩ := hoc.rd
          go_wp2_with fail
          go_loopw [79] (fun i wi => ∃ j : Nat, j ≤ y.length ∧ i = .int .i64 j ∧ OwB 5 wi wq.heap.size (.slice Ac y.length cc) (mTo y f j) ∧ Below wq.heap.size wq wi) (fun i _ => y.length - (intOf i).toNat)
          case atStart => exact ⟨0, Nat.zero_le _, rfl, by rw [mTo_zero]; exact hoc, hbc⟩
          case round =>
            obtain ⟨j, hj, rfl, hoi, hbi⟩ := hrel
            rename World => wi
            by_cases hlt3 : j < y.length
            · obtain ⟨g, cap, hv, hg, hg2, _, _, _⟩ := hoi.pos (by rw [mTo_len]; omega)
              injection hv with hv1 hv2 hv3
              subst hv1
              clear hv2 hv3
              obtain ⟨h4, h5⟩ := hoi.cell (mTo_len y f j) j hlt3
              rw [mTo_get y f hlt3] at h4
              have Hset := Lib.hid (hoi.set (mTo_len y f j) j (mulU (y.getD j 0) f)).1
              rw [mTo_succ y f hlt3] at Hset
              have i0 : (0 : Int) ≤ (j : Int) := by omega
              have i1 : (j : Int) < (y.length : Int) := by omega
              have CM := Lib.hid (fun W => refMul_u8 (y.getD j 0) f hf W)
              generalize mulU (y.getD j 0) f = m at CM Hset
              generalize y.getD j 0 = d at h4 CM
              go_wp2_with fail
              refine (CM.out _).mono ?_
              rintro e w2 ⟨rfl, rfl⟩
              go_wp2
              go_roundw
              case rel => exact ⟨j + 1, by omega, by go_num, Hset.out, hbi.setCell (p := ⟨g, j, none⟩) hg _⟩
              case measure => simp [intOf]; omega
            · obtain rfl : j = y.length := by omega
              rw [mTo_all] at hoi
              have hsl := Lib.hid (scaleL_len y f)
              have Csc := Lib.hid (scale_any A1 y y.length c1 f wi rfl hf ((r1.below hbi (Nat.le_refl _)).more hbi.size))
              generalize scaleL y f = z at hoi hsl Csc
              go_wp2_with fail
              refine Csc.out.mono ?_
              rintro e ws ⟨vs, rfl, hos, hbs⟩
              obtain ⟨As, cs, rfl, _, _⟩ := hos.rd
              have hbs2 := hbi.trans (hbs.mono hbi.size)
              go_wp2_with fail
              refine (same_own hos (hoi.below hbs)).mono ?_
              rintro e wz ⟨rfl, mz, rfl⟩
              have hxz : RdR (ws.drewN mz) (ws.drewN mz).heap.size _ x := ((hxq.below hbs2 (Nat.le_refl _)).more hbs2.size).below (belowN _ _ _) (Nat.le_refl _)
              have hwz := (hwq.trans (hbs2.mono hwq.size)).trans (belowN w.heap.size ws mz)
              generalize ws.drewN mz = wz at hxz hwz ⊢
              go_wp2
              go_roundw
              case rel => exact ⟨t + 1, by omega, by go_num, hxz, hwz⟩
              case measure => simp [intOf]; omega
        · obtain rfl : t = x.length := by omega
          go_wp2_with fail
          refine (wakesSynd_any wq).mono ?_
          rintro e wz ⟨rfl, hbz⟩
          go_wp2
          go_ret
          exact ⟨rfl, hwq.trans (hbz.mono hwq.size)⟩
end Go.Proofs.Ytfhbdfhndgfneaa
