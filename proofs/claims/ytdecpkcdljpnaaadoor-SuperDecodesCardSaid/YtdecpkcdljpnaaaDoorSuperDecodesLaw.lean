/- SuperDecodes walked. -/
import Derived.Test.YtdecpkcdljpnaaaDoorSuperDecodesLoop
import Derived.Test.YtdecpkcdljpnaaaDoorSupOfA
import Derived.Test.YtdecpkcdljpnaaaDoorSupWakes
import Derived.Test.YtdecpkcdljpnaaaDoorKeepCut
import Derived.Test.YtdecpkcdljpnaaaDoorOwnZ
import Derived.Carry
set_option linter.unusedVariables false
set_option linter.unusedSimpArgs false
namespace Go.Proofs.YtdecpkcdljpnaaaDoor
open Go.RowKit

theorem refEncode_some (s : Su) (w : World) (h : Su64 s) : Calls Tryd.prog 14 #[.agg #[.int .i64 s.g, .int .i64 s.al, .int .i64 s.ad, .int .i64 s.ac, .int .i64 s.bl, .int .i64 s.bd, .int .i64 s.bc, .bool s.r, .int .i64 s.wi, .int .i64 s.ep, .int .i64 s.ou]] w fun e w' => ∃ (v : Value) (ok : Bool) (X : List UInt8), e = .returned (.tuple #[v, .bool ok]) ∧ OwB 5 w' w.heap.size v X ∧ (ok = true → X.length = 32) ∧ Below w.heap.size w w' := by
  cases hk : suOk s
  · refine (refEncode_no s w h (Lib.hid hk)).mono ?_
    rintro e w' ⟨rfl, hb⟩
    exact ⟨_, false, [], rfl, OwB.nil _ _ _, (fun h => by cases h), hb⟩
  · refine (refEncode_yes s w h (Lib.hid hk)).mono ?_
    rintro e w' ⟨v, rfl, ho, hb⟩
    exact ⟨v, true, _, rfl, ho, fun _ => suB_len s, hb⟩
theorem cut_lit (k : Nat) (z : Int) (hz : z = (k : Int)) (A : Option Addr) (n c B : Nat) (bs : List UInt8) (w : World) (hk : k ≤ 140737488355328) (hn : n = bs.length) (hc : n ≤ c) (hr : RdB w B A bs) :
    Calls Tryd.prog 15 #[.slice A n c, .int .i64 z] w fun e w' => ∃ v, e = .returned v ∧ OwB 5 w' w.heap.size v (bs.take k) ∧ Below w.heap.size w w' := by
  subst hz
  exact cut_any A n c B k bs w hk hn hc hr
theorem rdc_three {w : World} {g : Nat} {A A' A2 : Option Addr} {n n' n2 c c' c2 : Nat} {bs bs' b2 : List UInt8} {t : TypeId} {f : Nat × Nat} (hg : w.heap[g]? = some (.cells #[.slice A n c, .slice A' n' c', .slice A2 n2 c2] t f)) (hn : n = bs.length) (hn' : n' = bs'.length) (hn2 : n2 = b2.length) (hc : n ≤ c) (hc' : n' ≤ c') (hc2 : n2 ≤ c2)
    (h : RdB w w.heap.size A bs) (h' : RdB w w.heap.size A' bs') (h2 : RdB w w.heap.size A2 b2) : RdC w w.heap.size (some ⟨g, 0, none⟩) [bs, bs', b2] := by
  subst hn hn' hn2
  refine ⟨by simp, fun _ => ⟨g, 0, rfl, (Array.getElem?_eq_some_iff.1 hg).1, fun k hk => ?_⟩⟩
  obtain rfl | rfl | rfl : k = 0 ∨ k = 1 ∨ k = 2 := by simp at hk; omega
  · exact ⟨A, c, by rw [Nat.zero_add, cell_of_row w g 0 _ t f hg]; rfl, hc, h⟩
  · exact ⟨A', c', by rw [Nat.zero_add, cell_of_row w g 1 _ t f hg]; rfl, hc', h'⟩
  · exact ⟨A2, c2, by rw [Nat.zero_add, cell_of_row w g 2 _ t f hg]; rfl, hc2, h2⟩
set_option maxRecDepth 100000 in
set_option maxHeartbeats 8000000 in
theorem superdecodes (gen a b window epoch out how at' : Int) (c : UInt8) (sealed' : Bool) (A : Option Addr) (raw : List UInt8) (cr : Nat) (w : World) (hgen : (-9223372036854775808 ≤ gen ∧ gen ≤ 9223372036854775807)) (ha : (-9223372036854775808 ≤ a ∧ a ≤ 9223372036854775807)) (hb : (-9223372036854775808 ≤ b ∧ b ≤ 9223372036854775807)) (hwin : (-9223372036854775808 ≤ window ∧ window ≤ 9223372036854775807)) (hep : (-9223372036854775808 ≤ epoch ∧ epoch ≤ 9223372036854775807)) (hout : (-9223372036854775808 ≤ out ∧ out ≤ 9223372036854775807)) (hhow : (-9223372036854775808 ≤ how ∧ how ≤ 9223372036854775807)) (hat : (-9223372036854775808 ≤ at' ∧ at' ≤ 9223372036854775807)) (hl : raw.length ≤ cr) (_ : cr ≤ 140737488355328) (hr : RdB w w.heap.size A raw) (ht : TabOk w) :
    Calls Tryd.prog 5 #[.int .i64 gen, .int .i64 a, .int .i64 b, .int .i64 window, .int .i64 epoch, .int .i64 out, .int .i64 how, .int .i64 at', .int .u8 (c.toNat : Int), .bool sealed', .slice A raw.length cr] w fun e w' => e = .returned (.bool true) ∧ Below w.heap.size w w' := by
  have CO := Lib.hid (fun V => suOf_any gen a b window epoch out how V hgen ha hb hwin hep hout hhow)
  have Ht := Lib.hid ht
  have hw0 : 0 < w.heap.size := ht.pos
  have Wk := Lib.hid (fun W (hW : Below w.heap.size w W) => wakesSu_any W (Ht.out.below hW hw0))
  have bk := withinI_bd at' 32 (by omega)
  have WN := Lib.hid (fun W => within_any at' 32 W hat (by omega))
  obtain ⟨k, hk⟩ := Int.eq_ofNat_of_zero_le bk.1
  rw [hk] at WN bk
  have bkn : k < 32 := by omega
  have C32 := Lib.hid (fun W (hW : Below w.heap.size w W) => cut_lit 32 32 rfl A raw.length cr w.heap.size raw W (by omega) rfl hl (hr.below hW (Nat.le_refl _)))
  have C40 := Lib.hid (fun W (hW : Below w.heap.size w W) => cut_lit 40 40 rfl A raw.length cr w.heap.size raw W (by omega) rfl hl (hr.below hW (Nat.le_refl _)))
  have hl32 : (raw.take 32).length ≤ 32 := by rw [List.length_take]; omega
  have hl40 : (raw.take 40).length ≤ 40 := by rw [List.length_take]; omega
  generalize raw.take 32 = r32 at C32 hl32
  generalize raw.take 40 = r40 at C40 hl40
  generalize raw.length = rn at C32 C40
  clear hgen ha hb hwin hep hout hhow hat ht hk hr hl
  go_enter Tryd.func5, Tryd.ntmps5
  go_wp2_with fail
  (with_reducible refine (CO.out _).mono ?_); rintro e w1 ⟨s, h64, rfl, hb1⟩
  have HF1 := Lib.hid hb1
  clear CO hb1
  go_wp2_with fail
  (with_reducible refine (refEncode_some s _ h64).mono ?_); rintro e w2 ⟨v2, ok, X0, rfl, o2, hX0, hb2⟩
  have HX0 := Lib.hid hX0
  have HF2 := Lib.hid (HF1.out.trans (hb2.mono HF1.out.size))
  have o2' := Lib.hid (o2.le HF1.out.size)
  clear hX0 hb2 o2 HF1 h64
  go_upto_if 44 with fail
  go_cut [23] (fun s23 W => ∃ (g cap : Nat) (X : List UInt8), s23 = .slice (some ⟨g, 0, none⟩) 32 cap ∧ Hid (X.length = 32) ∧ OwB 5 W w.heap.size (.slice (some ⟨g, 0, none⟩) 32 cap) X ∧ Below w.heap.size w W)
  case first =>
    cases ok
    · go_wp2_with fail
      (with_reducible refine (C32.out _ HF2.out).mono ?_); rintro e w3 ⟨v3, rfl, o3, hb3⟩
      have F3 := HF2.out.trans (hb3.mono HF2.out.size)
      have o3' := o3.le HF2.out.size
      clear o3 hb3 HF2 o2' HX0
      go_wp2_with (at_builtin; refine wpList_append_Z _ rfl _ _ _ _ rfl w.heap.size 5 .i64 Tryd.underlying26 Tryd.underlying3 info_u8 _ r32 rfl o3' .i64 32 rfl (by decide) (by omega) (by exact F3.size) ?_; intro v' w4 hv4 hg4 hat4; obtain ⟨g4, k4, rfl, hg4b, hg4l, hk4, _, _⟩ := hv4.pos (by simp); rw [show (r32 ++ List.replicate 32 (0 : UInt8)).length = r32.length + 32 by simp] at hv4 hk4 ⊢; have i0 : (32 : Int) ≤ (k4 : Int) := by omega)
      have hu4 := hv4.takeS (by simp) 32 (by omega)
      have hl4 : Hid (((r32 ++ List.replicate 32 (0 : UInt8)).take 32).length = 32) := Lib.hid (by simp)
      have F4 := F3.grown hg4 F3.size (fun j hj => (o3'.lt j hj).1)
      go_meet
      generalize (r32 ++ List.replicate 32 (0 : UInt8)).take 32 = u at hu4 hl4
      exact ⟨g4, k4, u, rfl, hl4, hu4, F4⟩
    · have hx := HX0.out rfl
      obtain ⟨g, cap, rfl, hBg, hgl, hcap, hcm, hrd⟩ := o2'.out.pos (by omega)
      rw [hx] at o2' hcap ⊢
      have Hx := Lib.hid hx
      clear hx hrd
      go_wp2_with fail
      go_meet
      exact ⟨g, cap, X0, rfl, Hx, o2'.out, HF2.out⟩
  case rest =>
    clear C32 HF2 o2' HX0
    obtain ⟨g, cap, X, rfl, HX, o, F⟩ := hcut
    obtain ⟨hc1, hf1⟩ := o.cell HX.out k (by omega)
    have Hset := Lib.hid (o.set HX.out k (X.getD k 0 ^^^ c))
    have hx := xor_u8 (X.getD k 0) c
    generalize X.getD k 0 = x0 at hc1 Hset hx
    generalize x0 ^^^ c = x1 at Hset hx
    have HX1 : Hid ((X.set k x1).length = 32) := Lib.hid (by rw [List.length_set]; exact HX.out)
    have kI : (0 : Int) ≤ (k : Int) ∧ (k : Int) < 32 := by omega
    have hcap := o.rdS.2.2
    have HF := Lib.hid F
    have hgB := (o.lt g rfl)
    have HS1 := Lib.hid (F.grown Hset.out.2 F.size (fun j e => by injection e with e; subst e; exact hgB.1))
    have HO1 := Lib.hid Hset.out.1
    generalize X.set k x1 = X1 at HX1 HO1
    clear HX F o Hset
    go_wp2_with fail
    (with_reducible refine (WN.out _).mono ?_); rintro e wy ⟨rfl, hwy⟩
    obtain rfl : wy = wc := hwy
    go_upto_if 57 with fail
    go_cut [23] (fun s23 W => ∃ (g cap : Nat) (X : List UInt8), s23 = .slice (some ⟨g, 0, none⟩) 32 cap ∧ Hid (X.length = 32) ∧ OwB 5 W w.heap.size (.slice (some ⟨g, 0, none⟩) 32 cap) X ∧ Below w.heap.size w W)
    case first =>
      cases sealed'
      · go_wp2_with fail
        go_meet
        exact ⟨g, cap, X1, rfl, HX1, HO1.out, HS1.out⟩
      · have CS := Lib.hid (refSealed_n (some ⟨g, 0, none⟩) none 32 cap 0 X1 [] 0 _ rfl rfl (by omega) HX1.out HO1.out.rdS.1 ⟨by simp, fun h => by simp at h⟩)
        have HL := Lib.hid (stamped_len X1 [] HX1.out)
        generalize stamped X1 [] = X2 at CS HL
        clear hc1 hf1 hx
        go_wp2_with fail
        (with_reducible refine CS.out.mono ?_); rintro e w5 ⟨v5, rfl, o5, hb5⟩
        have F5 := HS1.out.trans (hb5.mono HS1.out.size)
        have o5' := o5.le HS1.out.size
        obtain ⟨g5, cap5, rfl, hBg, hgl, hcap5, hcm, hrd⟩ := o5'.pos (by rw [HL.out]; omega)
        rw [HL.out] at o5' hcap5 ⊢
        clear o5 hb5 hrd
        go_wp2_with fail
        go_meet
        exact ⟨g5, cap5, X2, rfl, HL, o5', F5⟩
    case rest =>
      clear hc1 hf1 hx HS1 HO1 HX1 HF hgB hcap kI WN
      obtain ⟨g, cap, X, rfl, HX, o, F⟩ := hcut
      have hcap := o.rdS.2.2
      have i0 : (31 : Int) ≤ (cap : Int) := by omega
      have O31 := Lib.hid (o.takeS HX.out 31 (by omega))
      have HO := Lib.hid o
      have HF := Lib.hid F
      have Hl31 : Hid ((X.take 31).length = 31) := Lib.hid (by rw [List.length_take, HX.out]; rfl)
      generalize X.take 31 = X31 at O31 Hl31
      clear o F
      go_wp2_with fail
      go_region_held3 (fun _ => True) (trivial)
        (first
          | (go_at_call 15
             (with_reducible refine (C40.out _ ?_).mono ?_)
             exact HF.out.drew
             rintro e w6 ⟨v6, rfl, o6, hb6⟩
             obtain ⟨A6, c6, rfl, hc6, hr6⟩ := o6.rd
             dsimp only))
      have T6 : Below wc.heap.size wc w6 := (Below.refl _ _).drew.trans (hb6.mono (Nat.le_refl _))
      have T7 := T6.alloc T6.size (.cells #[.slice (some ⟨g, 0, none⟩) 32 cap, .slice A6 r40.length c6, .slice (some ⟨g, 0, none⟩) 31 cap] 26)
      have H0 : RdC (w6.alloc (.cells #[.slice (some ⟨g, 0, none⟩) 32 cap, .slice A6 r40.length c6, .slice (some ⟨g, 0, none⟩) 31 cap] 26)) (w6.alloc (.cells #[.slice (some ⟨g, 0, none⟩) 32 cap, .slice A6 r40.length c6, .slice (some ⟨g, 0, none⟩) 31 cap] 26)).heap.size (some ⟨w6.heap.size, 0, none⟩) [X, r40, X31] :=
        rdc_three (hp_new _ _ _ rfl) HX.out.symm rfl Hl31.out.symm hcap hc6 (by omega) ((HO.out.rdS.1.below T7 (Nat.le_refl _)).more T7.size) ((hr6.below (below1 w6 _) (Nat.le_refl _)).more (by simp)) ((O31.out.rdS.1.below T7 (Nat.le_refl _)).more T7.size)
      have F7 := HF.out.trans (T7.mono HF.out.size)
      have H1 := Lib.hid H0
      have H2 := Lib.hid F7
      clear H0 F7 T7 T6 hr6 o6 hb6 hc6
      go_upto_block 0 with fail
      refine wp_block ?_
      refine sdR _ _ _ _ _ _ _ _ _ _ _ _ _ _ _ _ _ _ _ _ _ _ _ _ _ _ _ _ _ _ _ _ _ _ _ _ _ _ _ _ _ _ _ _ _ _ _ _ _ _ _ _ _ _ _ _ _ _ _ _ _ _ _ _ _ _ _ _ _ _ _ _ _ _ _ _ _ _ _ _ _ _ _ _ _ _ _ _ _ _ _ _ _ _ _ _ _ (by rfl) Ht.out ⟨by omega, H1.out, H2.out⟩ (fun v26 v27 v28 v29 v30 v68 v69 v70 v71 v72 v73 v74 v75 v76 v77 v78 v79 v80 v81 v82 v83 v84 v85 v86 v87 v88 v89 v90 v91 v92 v93 v94 v95 v96 v97 v98 k V2 hI hx => ?_)
      have F := hI.2.2
      clear hI hx H1 H2
      go_wp2_with fail
      (with_reducible refine (Wk.out _ F).mono ?_); rintro e w8 ⟨rfl, hb8⟩
      go_wp2_with fail
      go_ret
      exact ⟨rfl, F.trans (hb8.mono F.size)⟩
end Go.Proofs.YtdecpkcdljpnaaaDoor
