/- CrcTells' walk. -/
import Derived.Test.YtgpdmdahlcihmaaDoorSeal
import Derived.Test.YtgpdmdahlcihmaaDoorWakes
import Derived.Test.YtgpdmdahlcihmaaDoorRefCrc
import Derived.Test.YtgpdmdahlcihmaaDoorOwnZ
namespace Go.Proofs.YtgpdmdahlcihmaaDoor
open Go.RowKit

/-- What stays as it is while the law runs. -/
def TS (w W : World) (P : Nat) (Au : Option Addr) (cu : Nat) (u : List UInt8) (Ay : Option Addr) (cy : Nat) (y : List UInt8) (Az : Option Addr) (cz : Nat) (z : List UInt8) : Prop :=
  OwB 5 W w.heap.size (.slice Au u.length cu) u ∧ OwB 5 W w.heap.size (.slice Ay y.length cy) y ∧ OwB 5 W w.heap.size (.slice Az z.length cz) z ∧
    W.heap[P]? = some (.cells #[.slice Ay y.length cy, .slice Az z.length cz] 23) ∧ Below w.heap.size w W
section
variable {w W W' : World} {P : Nat} {Au : Option Addr} {cu : Nat} {u : List UInt8} {Ay : Option Addr} {cy : Nat} {y : List UInt8} {Az : Option Addr} {cz : Nat} {z : List UInt8}
theorem TS.below (h : TS w W P Au cu u Ay cy y Az cz z) (hb : Below W.heap.size W W') : TS w W' P Au cu u Ay cy y Az cz z := by
  obtain ⟨h1, h2, h3, h4, h5⟩ := h
  exact ⟨h1.below hb, h2.below hb, h3.below hb, (hb.block P (Array.getElem?_eq_some_iff.1 h4).1).trans h4, h5.trans (hb.mono h5.size)⟩
theorem TS.tab (h : TS w W P Au cu u Ay cy y Az cz z) (ht : TabOk w) : TabOk W := ht.below h.2.2.2.2 ht.pos
theorem TS.three (h : TS w W P Au cu u Ay cy y Az cz z) {g : Nat} (hg : W.heap[g]? = some (.cells #[.slice Au u.length cu, .slice Ay y.length cy, .slice Az z.length cz] 23)) : RdR W W.heap.size (some ⟨g, 0, none⟩) [u, y, z] :=
  rdr_block3 hg rfl rfl rfl h.1.rdS.1 h.2.1.rdS.1 h.2.2.1.rdS.1 (Nat.le_refl _)
theorem TS.two (h : TS w W P Au cu u Ay cy y Az cz z) {g : Nat} (hg : W.heap[g]? = some (.cells #[.slice Ay y.length cy, .slice Az z.length cz] 23)) : RdR W W.heap.size (some ⟨g, 0, none⟩) [y, z] :=
  rdr_block2 hg rfl rfl h.2.1.rdS.1 h.2.2.1.rdS.1 (Nat.le_refl _)
theorem TS.drewN (h : TS w W P Au cu u Ay cy y Az cz z) (n : Nat) : TS w (W.drewN n) P Au cu u Ay cy y Az cz z := h.below (belowN _ _ _)
end
theorem rdr_nil (w : World) (B : Nat) (A : Option Addr) : RdR w B A [] := ⟨by simp, fun h => by simp at h⟩
set_option maxRecDepth 100000 in
set_option maxHeartbeats 1600000 in
theorem tells (Aa : Option Addr) (a : List UInt8) (ca : Nat) (Ab : Option Addr) (b : List UInt8) (cb : Nat) (Ac : Option Addr) (c : List UInt8) (cc : Nat) (full : Bool) (w : World)
    (hca : a.length ≤ ca) (_ : ca ≤ 140737488355328) (hra : RdB w w.heap.size Aa a) (hcb : b.length ≤ cb) (_ : cb ≤ 140737488355328) (hrb : RdB w w.heap.size Ab b) (hcc : c.length ≤ cc) (_ : cc ≤ 140737488355328) (hrc : RdB w w.heap.size Ac c) (ht : TabOk w) :
    Calls Tryd.prog 5 #[.slice Aa a.length ca, .slice Ab b.length cb, .slice Ac c.length cc, .bool full] w fun e w' => e = .returned (.bool true) ∧ Below w.heap.size w w' := by
  have hpos := ht.pos
  go_enter Tryd.func5, Tryd.ntmps5
  go_wp2_with fail
  refine (cut_any Aa a.length ca w.heap.size 60 a w (by decide) rfl hca hra).mono ?_
  rintro e w1 ⟨va, rfl, ha1, hb1⟩
  have hlx : Hid ((a.take 60).length ≤ 60) := Lib.hid (by rw [List.length_take]; omega)
  generalize a.take 60 = x at ha1 hlx
  go_wp2_with fail
  refine (cut_any Ab b.length cb w.heap.size 60 b w1 (by decide) rfl hcb (hrb.below hb1 (Nat.le_refl _))).mono ?_
  rintro e w2 ⟨vb, rfl, hbb2, hb2⟩
  have hly : Hid ((b.take 60).length ≤ 60) := Lib.hid (by rw [List.length_take]; omega)
  generalize b.take 60 = y at hbb2 hly
  have hb12 := hb1.trans (hb2.mono hb1.size)
  go_wp2_with fail
  refine (cut_any Ac c.length cc w.heap.size 60 c w2 (by decide) rfl hcc (hrc.below hb12 (Nat.le_refl _))).mono ?_
  rintro e w3 ⟨vc, rfl, hc3, hb3⟩
  have hlz : Hid ((c.take 60).length ≤ 60) := Lib.hid (by rw [List.length_take]; omega)
  generalize c.take 60 = z at hc3 hlz
  have Hxb := Lib.hid (fun j hj => (ha1.lt j hj).2)
  have ha3 := (ha1.below hb2).below hb3
  have hbb3 := hbb2.below hb3
  have hs1 := hb1.size
  have hs2 := hb2.size
  have hs3 := hb3.size
  have hbw3 := hb12.trans (hb3.mono (by omega))
  clear ha1 hbb2 hb12 hra hrb hrc
  obtain ⟨Ax, cx, rfl, hcx, _⟩ := ha3.rd
  obtain ⟨Ay, cy, rfl, hcy, _⟩ := hbb3.rd
  obtain ⟨Az, cz, rfl, hcz, _⟩ := hc3.rd
  go_upto_if 17 with fail
  go_cut [0] (fun s0 W => ∃ A cu u, s0 = .slice A u.length cu ∧ u.length ≤ 60 ∧ OwB 5 W w.heap.size (.slice A u.length cu) u ∧ OwB 5 W w.heap.size (.slice Ay y.length cy) y ∧ OwB 5 W w.heap.size (.slice Az z.length cz) z ∧ Below w.heap.size w W)
  case first =>
    cases full
    · go_wp2_with fail
      go_meet
      exact ⟨Ax, cx, x, rfl, hlx.out, ha3, hbb3.le hs1, hc3.le (by omega), hbw3⟩
    · have hxl := hlx.out
      go_wp2_with (at_builtin; refine wpList_append_Z _ rfl _ _ _ _ rfl w.heap.size 5 .i64 Tryd.underlying23 Tryd.underlying3 info_u8 _ x rfl ha3 .i64 60 rfl (by decide) (by omega) (by omega) ?_; intro v' w4 hv4 hg4 hat4; obtain ⟨g4, k4, rfl, hg4b, hg4l, hk4, _, _⟩ := hv4.pos (by simp); rw [show (x ++ List.replicate 60 (0 : UInt8)).length = x.length + 60 by simp] at hv4 hk4 ⊢; have i0 : (32 : Int) ≤ (k4 : Int) := by omega)
      have hb4 := (hbb3.growF hg4 Hxb.out).le hs1
      have hc4 := (hc3.growF hg4 (fun j hj => by have := Hxb.out j hj; omega)).le (show w.heap.size ≤ w2.heap.size by omega)
      have hu4 := (hv4.takeS (by simp) 32 (by omega))
      have hl4 : ((x ++ List.replicate 60 (0 : UInt8)).take 32).length = 32 := by simp
      have hbw4 := hbw3.grown hg4 (by have := hbw3.size; omega) (fun j hj => (ha3.lt j hj).1)
      go_meet
      generalize (x ++ List.replicate 60 (0 : UInt8)).take 32 = u at hu4 hl4
      rw [← hl4] at hu4
      exact ⟨some ⟨g4, 0, none⟩, k4, u, by rw [hl4], by omega, hu4, hb4, hc4, hbw4⟩
  case rest =>
    obtain ⟨Au, cu, u, rfl, hul, hu, hb, hc, hbw⟩ := hcut
    have T0 : TS w (wc.alloc (.cells #[.slice Ay y.length cy, .slice Az z.length cz] 23)) wc.heap.size Au cu u Ay cy y Az cz z :=
      ⟨hu.below (below1 _ _), hb.below (below1 _ _), hc.below (below1 _ _), hp_new _ _ _ rfl, hbw.alloc hbw.size _⟩
    generalize hP : wc.heap.size = P at T0 ⊢
    go_wp2_with fail
    have T1 := T0.below (below1 _ (.cells #[.slice Au u.length cu, .slice Ay y.length cy, .slice Az z.length cz] 23))
    refine (sum_any _ [u, y, z] 3 3 _ (sumR [u, y, z]) rfl rfl (T1.three (hp_new _ _ _ (by simp [hP]))) (T1.tab ht)).mono ?_
    rintro e w1' ⟨rfl, rfl⟩
    go_wp2_with fail
    have T2 := T1.below (below1 _ (.cells #[.slice Au u.length cu, .slice Ay y.length cy, .slice Az z.length cz] 23))
    refine (refSum_any _ [u, y, z] 3 3 _ rfl (T2.three (hp_new _ _ _ (by simp [hP])))).mono ?_
    rintro e w2' ⟨rfl, rfl⟩
    generalize sumR [u, y, z] = s
    go_wp2_with fail
    refine (sum_any _ [] 0 0 _ (sumR []) rfl rfl (rdr_nil _ _ _) (T2.tab ht)).mono ?_
    rintro e w1' ⟨rfl, rfl⟩
    go_wp2_with fail
    refine (refSum_any _ [] 0 0 _ rfl (rdr_nil _ _ _)).mono ?_
    rintro e w2' ⟨rfl, rfl⟩
    generalize sumR [] = s0
    have T3 := T2.below (below1 _ (.cells #[.slice Ay y.length cy, .slice Az z.length cz] 23))
    by_cases hu32 : u.length = 32
    · have hcu := T3.1.rdS.2.2
      have Hrs := Lib.hid (right_stamped u [y, z] hu32)
      have Hsl := Lib.hid (stamped_len u [y, z] hu32)
      have Hu := Lib.hid hu32
      have e1 : ((u.length : Int) == 32) = true := by rw [beq_iff_eq]; omega
      have e2 : ((u.length : Int) != 32) = false := by rw [hu32]; rfl
      clear hu32
      clear hul
      have G3 := T3.two (g := P + 1 + 1 + 1) (hp_new _ _ _ (by simp [hP]))
      go_wp2_with fail
      refine (right_n Au _ u.length cu 2 u [y, z] 2 _ Hu.out rfl Hu.out hcu T3.1.rdS.1 G3 (T3.tab ht)).mono ?_
      rintro e w4 ⟨rfl, hb4⟩
      have T4 := T3.below hb4
      go_wp2_with fail
      refine (refRight_n Au _ u.length cu 2 u [y, z] 2 _ Hu.out rfl (by decide) Hu.out T4.1.rdS.1 (T4.two T4.2.2.2.1)).mono ?_
      rintro e w5 ⟨rfl, hb5⟩
      have T5 := T4.below hb5
      generalize rightB u [y, z] = r
      go_wp2_with fail
      refine (copy_any Au u.length cu _ u w5 rfl T5.1.rdS.1).mono ?_
      rintro e w6 ⟨vx, rfl, hx6, hb6⟩
      obtain ⟨gx, kx, rfl, hgx, hgx6, hkx, _, _⟩ := hx6.pos (by rw [Hu.out]; omega)
      have T6 := T5.below hb6
      have T7 := T6.below (below1 w6 (.cells #[.slice Ay y.length cy, .slice Az z.length cz] 23))
      go_wp2_with fail
      refine (stamp_n gx kx w5.heap.size u.length _ 2 u [y, z] 2 _ Hu.out rfl (hx6.below (below1 _ _)) Hu.out (T7.two (hp_new _ _ _ rfl)) (T7.tab ht)).mono ?_
      rintro e w8 ⟨rfl, hx8, hg8⟩
      have hb58 : Below w5.heap.size w5 w8 := (hb6.alloc hb6.size _).grown hg8 (by have := hb6.size; simp; omega) (fun j hj => by injection hj; omega)
      have T8 := T5.below hb58
      clear hx6 hg8
      go_wp2_with fail
      refine (refSealed_n Au _ u.length cu 2 u [y, z] 2 w8 Hu.out rfl (by decide) Hu.out T8.1.rdS.1 (T8.two T8.2.2.2.1)).mono ?_
      rintro e w9 ⟨vs, rfl, hs9, hb9⟩
      have T9 := T8.below hb9
      have hx9 := hx8.below hb9
      obtain ⟨As, cs, rfl, _, _⟩ := hs9.rd
      have Hsu : Hid (u.length = (stamped u [y, z]).length) := Lib.hid (Hu.out.trans Hsl.out.symm)
      go_wp2_with fail
      refine (same_any _ As u.length (stamped u [y, z]).length kx cs w9.heap.size (stamped u [y, z]) (stamped u [y, z]) w9 Hsu.out rfl hx9.rdS.1 hs9.rdS.1).mono ?_
      rintro e w10 ⟨rfl, m, rfl⟩
      rw [decide_eq_true rfl]
      have T10 := T9.drewN m
      have hx10 : OwB _ (w9.drewN m) _ _ _ := hx9
      have T11 := T10.below (below1 _ (.cells #[.slice Ay y.length cy, .slice Az z.length cz] 23))
      go_wp2_with fail
      refine (right_n _ _ u.length kx 2 (stamped u [y, z]) [y, z] 2 _ Hu.out rfl Hsl.out hkx (hx10.below (below1 _ _)).rdS.1 (T11.two (hp_new _ _ _ rfl)) (T11.tab ht)).mono ?_
      rintro e w12 ⟨rfl, hb12⟩
      rw [Hrs.out]
      have T12 := T11.below hb12
      clear T11 hx10
      go_wp2_with (go_at_call 9; refine (wakes_any _ (T12.tab ht)).mono ?_; rintro e w13 ⟨rfl, hb13⟩)
      go_ret
      exact ⟨rfl, T12.2.2.2.2.trans (hb13.mono T12.2.2.2.2.size)⟩
    · have e1 : ((u.length : Int) == 32) = false := by rw [beq_eq_false_iff_ne]; omega
      have e2 : ((u.length : Int) != 32) = true := by rw [bne_iff_ne]; omega
      go_wp2_with fail
      refine (rightNo_any Au _ u.length cu 2 2 _ hu32).mono ?_
      rintro e w4 ⟨rfl, rfl⟩
      go_wp2_with fail
      refine (refRightNo_any Au _ u.length cu 2 2 _ hu32).mono ?_
      rintro e w5 ⟨rfl, hb5⟩
      have T5 := T3.below hb5
      go_wp2_with fail
      refine (copy_any Au u.length cu _ u w5 rfl T5.1.rdS.1).mono ?_
      rintro e w6 ⟨vx, rfl, hx6, hb6⟩
      obtain ⟨Ax', cx', rfl, _, _⟩ := hx6.rd
      have T6 := T5.below hb6
      have T7 := T6.below (below1 w6 (.cells #[.slice Ay y.length cy, .slice Az z.length cz] 23))
      have hx7 := hx6.below (below1 w6 (.cells #[.slice Ay y.length cy, .slice Az z.length cz] 23))
      go_wp2_with fail
      refine (stampNo_any Ax' _ u.length cx' 2 2 _ hu32).mono ?_
      rintro e w8 ⟨rfl, rfl⟩
      go_wp2_with fail
      refine (same_any Ax' Au u.length u.length cx' cu _ u u _ rfl rfl hx7.rdS.1 T7.1.rdS.1).mono ?_
      rintro e w10 ⟨rfl, m, rfl⟩
      rw [decide_eq_true rfl]
      have T10 := T7.drewN m
      clear T7 hx7
      go_wp2_with (go_at_call 9; refine (wakes_any _ (T10.tab ht)).mono ?_; rintro e w13 ⟨rfl, hb13⟩)
      go_ret
      exact ⟨rfl, T10.2.2.2.2.trans (hb13.mono T10.2.2.2.2.size)⟩
end Go.Proofs.YtgpdmdahlcihmaaDoor
