/- CrcParts' walk. -/
import Derived.Test.YtgpdmdahlcihmaaDoorSeal
import Derived.Test.YtgpdmdahlcihmaaDoorWakes
import Derived.Test.YtgpdmdahlcihmaaDoorCrcFind
namespace Go.Proofs.YtgpdmdahlcihmaaDoor
open Go.RowKit

set_option maxHeartbeats 1600000 in
set_option maxRecDepth 100000 in
theorem parts (Aa : Option Addr) (a : List UInt8) (ca : Nat) (cut : Int) (at_ : Int) (c : UInt8) (w : World)
    (hca : a.length ≤ ca) (_ : ca ≤ 140737488355328) (hra : RdB w w.heap.size Aa a) (hcut : -9223372036854775808 ≤ cut ∧ cut ≤ 9223372036854775807) (hat_ : -9223372036854775808 ≤ at_ ∧ at_ ≤ 9223372036854775807) (ht : TabOk w) :
    Calls Tryd.prog 6 #[.slice Aa a.length ca, .int .i64 cut, .int .i64 at_, .int .u8 (c.toNat : Int)] w fun e w' => e = .returned (.bool true) ∧ Below w.heap.size w w' := by
  have hpos := ht.pos
  have km : ∀ w, (Instr.makeSlice 23 (.int .i64 32) (.int .i64 32)).run Tryd.prog w = .ok (.slice (some ⟨w.heap.size, 0, none⟩) 32 32) (w.alloc (.cells (zcells 32) 5)) := make_bytes 32 (by decide)
  go_enter Tryd.func6, Tryd.ntmps6
  go_wp2_with fail
  refine (cut_any Aa a.length ca w.heap.size 100 a w (by decide) rfl hca hra).mono ?_
  rintro e w1 ⟨va, rfl, hx1, hb1⟩
  have hlx : Hid ((a.take 100).length ≤ 100) := Lib.hid (by rw [List.length_take]; omega)
  generalize a.take 100 = x at hx1 hlx
  obtain ⟨Ax, cx, rfl, hcx, hrx⟩ := hx1.rd
  have hxl := hlx.out
  have hs1 := hb1.size
  have hwi := withinI_bd cut ((x.length : Int) + 1) (by omega)
  obtain ⟨k, hk⟩ := Int.eq_ofNat_of_zero_le hwi.1
  rw [hk] at hwi
  have hkx : k ≤ x.length := by omega
  have Hk := Lib.hid hk
  clear hk hwi
  go_wp2_with fail
  refine (within_any cut ((x.length : Int) + 1) w1 hcut (by omega)).mono ?_
  rintro e w' ⟨rfl, rfl⟩
  rw [Hk.out]
  have htw := ht.below hb1 hpos
  have i0 : (0 : Int) ≤ (k : Int) := by omega
  have i1 : (k : Int) ≤ (x.length : Int) := by omega
  have i2 : (k : Int) ≤ (cx : Int) := by omega
  have i3 : (x.length : Int) ≤ (cx : Int) := by omega
  have i4 : k ≤ cx := by omega
  have S1 : Hid (∀ W g, W.heap[g]? = some (.cells #[.slice Ax x.length cx] 23) → Below w'.heap.size w' W → Calls Tryd.prog 8 #[.slice (some ⟨g, 0, none⟩) 1 1] W fun e w' => e = .returned (.int .u32 ((sumR [x] : Nat) : Int)) ∧ w' = W) :=
    Lib.hid fun W g h hb => sum_one g Ax x cx _ _ w'.heap.size W h hb.size (hrx.below hb (Nat.le_refl _)) (htw.below hb htw.pos) _ rfl
  have S2 : Hid (∀ W g, W.heap[g]? = some (.cells #[.slice Ax k cx, .slice (if cx = k then Ax else Ax.map (·.add k)) (x.length - k) (cx - k)] 23) → Below w'.heap.size w' W → Calls Tryd.prog 8 #[.slice (some ⟨g, 0, none⟩) 2 2] W fun e w' => e = .returned (.int .u32 ((sumR [x] : Nat) : Int)) ∧ w' = W) :=
    Lib.hid fun W g h hb => sum_two g _ _ (x.take k) (x.drop k) _ _ _ _ _ _ w'.heap.size W h (by simp; omega) (by simp) hb.size ((hrx.below hb (Nat.le_refl _)).take k) ((hrx.below hb (Nat.le_refl _)).drop k cx hcx) (htw.below hb htw.pos) _ (sumR_eq (by simp))
  have S4 : Hid (∀ W g, W.heap[g]? = some (.cells #[.slice none 0 0, .slice Ax k cx, .slice none 0 0, .slice (if cx = k then Ax else Ax.map (·.add k)) (x.length - k) (cx - k)] 23) → Below w'.heap.size w' W → Calls Tryd.prog 8 #[.slice (some ⟨g, 0, none⟩) 4 4] W fun e w' => e = .returned (.int .u32 ((sumR [x] : Nat) : Int)) ∧ w' = W) :=
    Lib.hid fun W g h hb => sum_four g _ _ (x.take k) (x.drop k) _ _ _ _ _ _ w'.heap.size W h (by simp; omega) (by simp) hb.size ((hrx.below hb (Nat.le_refl _)).take k) ((hrx.below hb (Nat.le_refl _)).drop k cx hcx) (htw.below hb htw.pos) _ (sumR_eq (by simp))
  generalize sumR [x] = s at S1 S2 S4
  go_wp2_with fail
  go_cut [46] (fun s46 W => s46 = .bool false ∧ Below w'.heap.size w' W)
  case first =>
    go_region_held3 (fun W => Below w'.heap.size w' W) (first | exact (Below.refl _ _).drew | assumption | exact Below.alloc ‹_› (Below.size ‹_›) _)
      (first
        | (go_at_call 8; (with_reducible refine (S1.out _ _ ?_ ‹_›).mono ?_); (first | ((try rw [hp_drew]); exact hp_new _ _ _ (by simp)) | ((try rw [hp_drew]); rw [hp_old _ _ _ (by simp)]; exact hp_new _ _ _ (by simp)) | ((try rw [hp_drew]); rw [hp_old _ _ _ (by simp), hp_old _ _ _ (by simp)]; exact hp_new _ _ _ (by simp)) | ((try rw [hp_drew]); rw [hp_old _ _ _ (by simp), hp_old _ _ _ (by simp), hp_old _ _ _ (by simp)]; exact hp_new _ _ _ (by simp))); rintro e w2 ⟨rfl, rfl⟩; dsimp only)
        | (go_at_call 8; (with_reducible refine (S2.out _ _ ?_ ‹_›).mono ?_); (first | ((try rw [hp_drew]); exact hp_new _ _ _ (by simp)) | ((try rw [hp_drew]); rw [hp_old _ _ _ (by simp)]; exact hp_new _ _ _ (by simp)) | ((try rw [hp_drew]); rw [hp_old _ _ _ (by simp), hp_old _ _ _ (by simp)]; exact hp_new _ _ _ (by simp)) | ((try rw [hp_drew]); rw [hp_old _ _ _ (by simp), hp_old _ _ _ (by simp), hp_old _ _ _ (by simp)]; exact hp_new _ _ _ (by simp))); rintro e w2 ⟨rfl, rfl⟩; dsimp only)
        | (go_at_call 8; (with_reducible refine (S4.out _ _ ?_ ‹_›).mono ?_); (first | ((try rw [hp_drew]); exact hp_new _ _ _ (by simp)) | ((try rw [hp_drew]); rw [hp_old _ _ _ (by simp)]; exact hp_new _ _ _ (by simp)) | ((try rw [hp_drew]); rw [hp_old _ _ _ (by simp), hp_old _ _ _ (by simp)]; exact hp_new _ _ _ (by simp)) | ((try rw [hp_drew]); rw [hp_old _ _ _ (by simp), hp_old _ _ _ (by simp), hp_old _ _ _ (by simp)]; exact hp_new _ _ _ (by simp))); rintro e w2 ⟨rfl, rfl⟩; dsimp only))
    all_goals (generalize (if cx = k then Ax else Option.map (fun x => x.add k) Ax) = A2; go_wp2_with fail; go_meet; exact ⟨rfl, (below4 _ _ _ _ _).drew⟩)
  case rest =>
    obtain ⟨rfl, hb2⟩ := hcut
    have hx2 := hx1.below hb2
    have hbw2 : Below w.heap.size w wc := hb1.trans (hb2.mono hs1)
    have hs2 := hb2.size
    have ht2 := ht.below hbw2 hpos
    clear S1 S2 S4 hrx htw hb2
    have own0 := own_make 5 wc 32 (by decide)
    have Hz := Lib.hid (copyB_len (List.replicate 32 0) x)
    rw [List.length_replicate] at Hz
    go_wp2_with (refine wpList_copy_B rfl _ _ _ rfl 5 Tryd.underlying23 size_u8 wc.heap.size 32 32 wc.heap.size (List.replicate 32 0) rfl own0 (by simp) (wc.heap.size + 1) Ax x.length cx x rfl rfl ((hx2.rdS.1.below (below1 wc _) (Nat.le_refl _)).more (by simp)) ?_; intro w3 hb3 hg3 r3)
    have hbc3 : Below wc.heap.size wc w3 := (below1 wc _).grown hg3 (by simp) (by simp)
    have hx3 := hx2.below hbc3
    have hbw3 : Below w.heap.size w w3 := hbw2.trans (hbc3.mono (by omega))
    have ht3 := ht.below hbw3 hpos
    have hs3 : wc.heap.size < w3.heap.size := by have := hg3.size; simp at this; omega
    generalize copyB (List.replicate 32 0) x = b0 at hb3 Hz
    clear own0 hg3 hx2
    generalize hgb : wc.heap.size = gb at hb3 hs3 ⊢
    have hgw : w.heap.size ≤ gb := by omega
    have C7 : Hid (∀ W g', W.heap[g']? = some (.cells #[.slice Ax x.length cx] 23) → Below w3.heap.size w3 W → Calls Tryd.prog 12 #[.slice (some ⟨gb, 0, none⟩) 32 32, .slice (some ⟨g', 0, none⟩) 1 1] W
        fun e w' => e = .returned (.bool true) ∧ OwB 5 w' gb (.slice (some ⟨gb, 0, none⟩) 32 32) (stamped b0 [x]) ∧ W.grownBy w' (some gb)) :=
      Lib.hid fun W g' hg hb => stamp_any gb 32 gb _ 1 b0 [x] 1 W rfl (hb3.below hb) Hz.out (rdr_block1 hg rfl (hx3.below hb).rdS.1 (Nat.le_refl _)) (ht3.below hb ht3.pos)
    have Hs1 := Lib.hid (stamped_len b0 [x] Hz.out)
    have Hr1 := Lib.hid (right_stamped b0 [x] Hz.out)
    have Hr2 : Hid (rightB (stamped b0 [x]) [x.take k, x.drop k] = true) := Lib.hid (right_parts Hr1.out (by simp))
    have hxb : ∀ j, (Value.slice Ax x.length cx).ownBlock = some j → j < gb := fun j hj => by have := (hx1.lt j hj).2; omega
    have Hxb := Lib.hid hxb
    clear hxb
    (try simp only [Act.put, List.setIfInBounds_toArray, List.set_cons_zero, List.set_cons_succ])
    go_cut [74] (fun s74 W => s74 = .bool false ∧ OwB 5 W gb (.slice (some ⟨gb, 0, none⟩) 32 32) (stamped b0 [x]) ∧ OwB 5 W w.heap.size (.slice Ax x.length cx) x ∧ Below w.heap.size w W)
    case first =>
      go_region_held3 (fun _ => True) (trivial)
        (first
          | (go_at_call 12
             refine (C7.out _ _ ?_ (below1 _ _).drew).mono ?_
             (first | ((try rw [hp_drew]); exact hp_new _ _ _ (by simp)) | ((try rw [hp_drew]); rw [hp_old _ _ _ (by simp)]; exact hp_new _ _ _ (by simp)))
             rintro e w4 ⟨rfl, hb4, hg4⟩
             have Hg4 := Lib.hid hg4
             clear hg4
             have hx4 := (hx3.below (below1 w3 (.cells #[.slice Ax x.length cx] 23)).drew).grown Hg4.out (.inr (fun e => by have := Hxb.out gb e; omega))
             have hbw4 : Below w.heap.size w w4 := (hbw3.trans ((below1 w3 (.cells #[.slice Ax x.length cx] 23)).drew.mono hbw3.size)).grown Hg4.out (by have := hbw3.size; simp; omega) (fun j hj => by injection hj; omega)
             have ht4 := ht.below hbw4 hpos
             have R1 : Hid (∀ W g', W.heap[g']? = some (.cells #[.slice Ax x.length cx] 23) → Below w4.heap.size w4 W → Calls Tryd.prog 15 #[.slice (some ⟨gb, 0, none⟩) 32 32, .slice (some ⟨g', 0, none⟩) 1 1] W fun e w' => e = .returned (.bool true) ∧ Below W.heap.size W w') := Lib.hid fun W g' hg hb => by
               have := right32_any _ _ 32 1 (stamped b0 [x]) [x] 1 W rfl Hs1.out (by omega) (hb4.below hb).rdS.1 (rdr_block1 hg rfl (hx4.below hb).rdS.1 (Nat.le_refl _)) (ht4.below hb ht4.pos)
               rwa [Hr1.out] at this
             have R2 : Hid (∀ W g', W.heap[g']? = some (.cells #[.slice Ax k cx, .slice (if cx = k then Ax else Ax.map (·.add k)) (x.length - k) (cx - k)] 23) → Below w4.heap.size w4 W → Calls Tryd.prog 15 #[.slice (some ⟨gb, 0, none⟩) 32 32, .slice (some ⟨g', 0, none⟩) 2 2] W fun e w' => e = .returned (.bool true) ∧ Below W.heap.size W w') := Lib.hid fun W g' hg hb => by
               have := right32_any _ _ 32 2 (stamped b0 [x]) [x.take k, x.drop k] 2 W rfl Hs1.out (by omega) (hb4.below hb).rdS.1 (rdr_block2 hg (by simp; omega) (by simp) ((hx4.below hb).rdS.1.take k) ((hx4.below hb).rdS.1.drop k cx hcx) (Nat.le_refl _)) (ht4.below hb ht4.pos)
               rwa [Hr2.out] at this
             dsimp only)
          | (go_at_call 15
             (with_reducible refine (R1.out _ _ ?_ (below1 _ _)).mono ?_)
             (first | ((try rw [hp_drew]); exact hp_new _ _ _ (by simp)) | ((try rw [hp_drew]); rw [hp_old _ _ _ (by simp)]; exact hp_new _ _ _ (by simp)))
             rintro e w5 ⟨rfl, hb5⟩
             have hb45 : Below w4.heap.size w4 w5 := (below1 w4 _).trans (hb5.mono (by simp))
             dsimp only)
          | (go_at_call 15
             (with_reducible refine (R2.out _ _ ?_ (hb45.alloc hb45.size _)).mono ?_)
             (first | ((try rw [hp_drew]); exact hp_new _ _ _ (by simp)) | ((try rw [hp_drew]); rw [hp_old _ _ _ (by simp)]; exact hp_new _ _ _ (by simp)))
             rintro e w6 ⟨rfl, hb6⟩
             have hb46 : Below w4.heap.size w4 w6 := (hb45.alloc hb45.size _).trans (hb6.mono (by have := hb45.size; simp; omega))
             dsimp only))
      generalize (if cx = k then Ax else Option.map (fun x => x.add k) Ax) = A2
      have hbw6 := hbw4.trans (hb46.mono hbw4.size)
      have hb6' := hb4.below hb46
      have hx6 := hx4.below hb46
      go_wp2_with fail
      go_meet
      exact ⟨rfl, hb6', hx6, hbw6⟩
    case rest =>
      obtain ⟨rfl, hb6, hx6, hbw6⟩ := hcut
      clear C7 hb3 hx3 ht3 hx1
      have hgb6 := (hb6.lt gb rfl).2
      have ht6 := ht.below hbw6 hpos
      go_wp2_with fail
      refine (copy_any (some ⟨gb, 0, none⟩) 32 32 _ (stamped b0 [x]) _ Hs1.out.symm hb6.rdS.1).mono ?_
      rintro e w7 ⟨vx, rfl, hu7, hb7⟩
      obtain ⟨gx, kx, rfl, hgx, hgx7, hkx2, _, _⟩ := hu7.pos (by rw [Hs1.out]; omega)
      rw [Hs1.out] at hu7 hkx2 ⊢
      go_wp2_with fail
      refine (copy_any Ax x.length cx _ x w7 rfl (hx6.below hb7).rdS.1).mono ?_
      rintro e w8 ⟨vy, rfl, hy8, hb8⟩
      obtain ⟨Ay, ky, rfl, hky, _⟩ := hy8.rd
      have hu8 := hu7.below hb8
      have hb8' := (hb6.below hb7).below hb8
      have hx8 := (hx6.below hb7).below hb8
      have hs7 := hb7.size
      have hs8 := hb8.size
      have hs6 := hbw6.size
      have hbw8 : Below w.heap.size w w8 := (hbw6.trans (hb7.mono hbw6.size)).trans (hb8.mono (by omega))
      clear hu7 hb6 hx6
      go_wp2_with fail
      have hwi := withinI_bd at_ (32 + (x.length : Int)) (by omega)
      obtain ⟨i, hi⟩ := Int.eq_ofNat_of_zero_le hwi.1
      rw [hi] at hwi
      have hil : i < 32 + x.length := by omega
      have Hi := Lib.hid hi
      clear hi hwi
      refine (within_any at_ (32 + (x.length : Int)) w8 hat_ (by omega)).mono ?_
      rintro e w9 ⟨rfl, rfl⟩
      rw [Hi.out]
      by_cases hi32 : i < 32
      · obtain ⟨hco, hfo⟩ := hu8.cell Hs1.out i hi32
        have exr := xor_u8 ((stamped b0 [x]).getD i 0) c
        have Hset := Lib.hid (hu8.set Hs1.out i ((stamped b0 [x]).getD i 0 ^^^ c))
        have Hmath := Lib.hid (right_set Hr1.out i hi32 c)
        have Hsl : Hid (((stamped b0 [x]).set i ((stamped b0 [x]).getD i 0 ^^^ c)).length = 32) := Lib.hid (by rw [List.length_set]; exact Hs1.out)
        generalize (stamped b0 [x]).getD i 0 = z at hco exr Hset Hmath Hsl
        generalize z ^^^ c = z' at exr Hset Hmath Hsl
        generalize (stamped b0 [x]).set i z' = s2 at Hset Hmath Hsl
        have i5 : (i : Int) < 32 := by omega
        have i6 : (0 : Int) ≤ (i : Int) := by omega
        go_wp2_with fail
        have hg9 := Hset.out.2
        have hu9 := Hset.out.1
        have Hsz : Hid (w9.heap.size = (w9.setCell ⟨gx, i, none⟩ (.int .u8 (z'.toNat : Int))).heap.size) := Lib.hid (by simp)
        generalize w9.setCell ⟨gx, i, none⟩ (.int .u8 (z'.toNat : Int)) = w10 at hg9 hu9 Hsz ⊢
        have hy9 := hy8.grown hg9 (.inr (fun e => by have := (hy8.lt gx e).1; omega))
        have hbw10 := hbw8.grown hg9 (by omega) (fun j hj => by injection hj; omega)
        clear hg9 Hset hco hfo exr hy8
        refine (right32_any (some ⟨gx, 0, none⟩) (some ⟨w9.heap.size, 0, none⟩) kx 1 s2 [x] 1 _ rfl Hsl.out (by omega) (hu9.below (below1 w10 _)).rdS.1 (rdr_block1 (hp_new _ _ _ Hsz.out) rfl (hy9.below (below1 w10 _)).rdS.1 (Nat.le_refl _)) (ht.below (hbw10.alloc hbw10.size _) hpos)).mono ?_
        rintro e w11 ⟨rfl, hb11⟩
        rw [Hmath.out]
        have hbw11 := (hbw10.alloc hbw10.size _).trans (hb11.mono (by have := hbw10.size; simp; omega))
        go_wp2_with fail
        refine (rightNo_any _ _ 31 _ _ _ _ (by decide)).mono ?_
        rintro e w12 ⟨rfl, rfl⟩
        go_wp2_with fail
        refine (rightNo_any none none 0 0 0 0 _ (by decide)).mono ?_
        rintro e w13 ⟨rfl, rfl⟩
        have hbw13 := hbw11.alloc hbw11.size (.cells #[.slice Ax x.length cx] 23)
        go_wp2_with (go_at_call 9; refine (wakes_any _ (ht.below hbw13 hpos)).mono ?_; rintro e w14 ⟨rfl, hb14⟩)
        go_ret
        exact ⟨rfl, hbw13.trans (hb14.mono hbw13.size)⟩
      · have hpx : 0 < x.length := by omega
        obtain ⟨gy, kz, hv, hgy, hgy9, _, _, _⟩ := hy8.pos hpx
        injection hv with hv1 hv2 hv3
        subst hv1 hv3
        clear hv2
        obtain ⟨hco, hfo⟩ := hy8.cell rfl (i - 32) (by omega)
        have exr := xor_u8 (x.getD (i - 32) 0) c
        have Hset := Lib.hid (hy8.set rfl (i - 32) (x.getD (i - 32) 0 ^^^ c))
        have Hmath := Lib.hid (right_part Hr1.out (i - 32) (by omega) c)
        have Hyl : Hid ((x.set (i - 32) (x.getD (i - 32) 0 ^^^ c)).length = x.length) := Lib.hid (by rw [List.length_set])
        generalize x.getD (i - 32) 0 = z at hco exr Hset Hmath Hyl
        generalize z ^^^ c = z' at exr Hset Hmath Hyl
        generalize x.set (i - 32) z' = y2 at Hset Hmath Hyl
        have i5 : (32 : Int) ≤ (i : Int) := by omega
        have i6 : (i : Int) < 32 + (x.length : Int) := by omega
        go_wp2_with fail
        have hg9 := Hset.out.2
        have hy9 := Hset.out.1
        have Hsz : Hid (w9.heap.size = (w9.setCell ⟨gy, i - 32, none⟩ (.int .u8 (z'.toNat : Int))).heap.size) := Lib.hid (by simp)
        generalize w9.setCell ⟨gy, i - 32, none⟩ (.int .u8 (z'.toNat : Int)) = w10 at hg9 hy9 Hsz ⊢
        have hu9 := hu8.grown hg9 (.inr (by simp [Value.ownBlock]; omega))
        have hbw10 := hbw8.grown hg9 (by omega) (fun j hj => by injection hj; omega)
        clear hg9 Hset hco hfo exr hy8
        refine (right32_any (some ⟨gx, 0, none⟩) (some ⟨w9.heap.size, 0, none⟩) kx 1 (stamped b0 [x]) [y2] 1 _ rfl Hs1.out (by omega) (hu9.below (below1 w10 _)).rdS.1 (rdr_block1 (hp_new _ _ _ Hsz.out) Hyl.out.symm (hy9.below (below1 w10 _)).rdS.1 (Nat.le_refl _)) (ht.below (hbw10.alloc hbw10.size _) hpos)).mono ?_
        rintro e w11 ⟨rfl, hb11⟩
        rw [Hmath.out]
        have hbw11 := (hbw10.alloc hbw10.size _).trans (hb11.mono (by have := hbw10.size; simp; omega))
        go_wp2_with fail
        refine (rightNo_any _ _ 31 _ _ _ _ (by decide)).mono ?_
        rintro e w12 ⟨rfl, rfl⟩
        go_wp2_with fail
        refine (rightNo_any none none 0 0 0 0 _ (by decide)).mono ?_
        rintro e w13 ⟨rfl, rfl⟩
        have hbw13 := hbw11.alloc hbw11.size (.cells #[.slice Ax x.length cx] 23)
        go_wp2_with (go_at_call 9; refine (wakes_any _ (ht.below hbw13 hpos)).mono ?_; rintro e w14 ⟨rfl, hb14⟩)
        go_ret
        exact ⟨rfl, hbw13.trans (hb14.mono hbw13.size)⟩
end Go.Proofs.YtgpdmdahlcihmaaDoor
