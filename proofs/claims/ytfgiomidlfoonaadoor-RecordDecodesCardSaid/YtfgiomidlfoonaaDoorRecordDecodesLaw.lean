/- RecordDecodes walked. -/
import Derived.Test.YtfgiomidlfoonaaDoorRecordDecodesLoop
import Derived.Carry
set_option linter.unusedVariables false
set_option linter.unusedSimpArgs false
namespace Go.Proofs.YtfgiomidlfoonaaDoor
open Go.RowKit

set_option maxRecDepth 100000 in
set_option maxHeartbeats 16000000 in
theorem recorddecodes (seq : Int) (A : Option Addr) (l : List Int) (cl : Nat) (how part at' : Int) (c : UInt8) (sealed' : Bool) (w : World) (hseq : (-9223372036854775808 ≤ seq ∧ seq ≤ 9223372036854775807)) (_ : l.length ≤ cl) (hz : RdZ w w.heap.size A l) (hhow : (-9223372036854775808 ≤ how ∧ how ≤ 9223372036854775807)) (hpart : (-9223372036854775808 ≤ part ∧ part ≤ 9223372036854775807)) (hat : (-9223372036854775808 ≤ at' ∧ at' ≤ 9223372036854775807)) (ht : TabOk w) :
    Calls Tryd.prog 5 #[.int .i64 seq, .slice A l.length cl, .int .i64 how, .int .i64 part, .int .i64 at', .int .u8 (c.toNat : Int), .bool sealed'] w fun e w' => e = .returned (.bool true) ∧ Below w.heap.size w w' := by
  have hm1 : -60 < how.tmod 60 := Int.lt_tmod_of_pos _ (by omega)
  have hm2 : how.tmod 60 < 60 := Int.tmod_lt_of_pos _ (by omega)
  have CO := Lib.hid (of_any seq (how.tmod 60) A l cl w hseq (by omega) hz)
  have Ht := Lib.hid ht
  have hw0 : 0 < w.heap.size := ht.pos
  have Wk := Lib.hid (fun W (hW : Below w.heap.size w W) => wakesRec_any W (Ht.out.below hW hw0))
  have bP := withinI_bd part 4 (by omega)
  have WP := Lib.hid (fun W => within_any part 4 W hpart (by omega))
  obtain ⟨k, hk⟩ := Int.eq_ofNat_of_zero_le bP.1
  rw [hk] at WP bP
  have bA := withinI_bd at' 32 (by omega)
  have WA := Lib.hid (fun W => within_any at' 32 W hat (by omega))
  obtain ⟨i, hi⟩ := Int.eq_ofNat_of_zero_le bA.1
  rw [hi] at WA bA
  have b4 := withinI_bd at' 4 (by omega)
  have W4 := Lib.hid (fun W => within_any at' 4 W hat (by omega))
  obtain ⟨m4, hm4⟩ := Int.eq_ofNat_of_zero_le b4.1
  rw [hm4] at W4 b4
  have tp := i64_tdiv part 4 (by omega) hpart
  have W12 := Lib.hid (fun W => within_any (part.tdiv 4) 12 W tp (by omega))
  generalize withinI (part.tdiv 4) 12 = q12 at W12
  have kq : IntKind.i64.wrap (part.tdiv 4) = part.tdiv 4 := by rw [IntKind.wrap_i64]; omega
  obtain ⟨m31, ha31, hm31⟩ := and31 at'
  have hk4 : k < 4 := by omega
  have hi32 : i < 32 := by omega
  have hm44 : m4 < 4 := by omega
  clear hseq hz hhow hpart hat ht hk hi hm1 hm2 hm4 tp
  go_enter Tryd.func5, Tryd.ntmps5
  go_wp2_with fail
  (with_reducible refine CO.out.mono ?_); rintro e w1 ⟨s, L, B, cb, rfl, hs64, h64, hl6, ho1, hb1⟩
  obtain ⟨_, hlc, hr1⟩ := ho1.rdc
  have HR2 := Lib.hid (hr1.later (below1 w1 (.cells #[.int .i64 s, .slice B L.length cb] 32)))
  have HB2 := Lib.hid (rxb_new w1 s B L.length cb 32)
  have F2 := Lib.hid (hb1.trans ((below1 w1 (.cells #[.int .i64 s, .slice B L.length cb] 32)).mono hb1.size))
  clear CO hb1 ho1 hr1 h64 hlc
  go_upto_region 2 with fail
  go_name_world W2 hW2
  rw [hW2] at HR2 HB2 F2
  clear hW2
  go_cut [16, 17] (fun s16 s17 W => ∃ v ok, s16 = v ∧ s17 = .bool ok ∧ (ok = true → ∃ g cap bk cp rs, v = .slice (some ⟨g, 0, none⟩) 4 cap ∧ Rw w.heap.size W g cap 4 bk cp rs) ∧ Below w.heap.size w W)
  case first =>
    have CR := Lib.hid (fun V (hV : Below W2.heap.size W2 V) => refRecs_any B L.length cb L V rfl (by omega) (HR2.out.later hV))
    cases hok : recOk s L
    · have HOK : Hid (Hid (recOk s L = false)) := Lib.hid (Lib.hid hok)
      clear hok
      refine wp_region_noPanic (region_ord 11 [] (fun V => Below W2.heap.size W2 V) (by kernel_rfl) (by kernel_rfl) (fun _ _ _ _ _ h => h) fun R => ?_)
      change anyI _ _ _ _ _ _ 11 _ _ W2.drew
      have HS0 := Lib.hid (show (fun V => Below W2.heap.size W2 V) W2.drew from (Below.refl _ _).drew)
      refine' anyI_take R 0 rfl (v := ?_) (by kernel_rfl) (by rfl) (fun V hV => ?hy) HS0.out ?_
      case hy => ((try dsimp only at hV);  have q := HB2.out.below hV; have p0 := q.1; have p1 := q.2; clear q; go_simp; try with_reducible rfl)
      try simp only [Act.put, List.getElem_toArray, List.getElem_cons_succ, List.getElem_cons_zero, List.setIfInBounds_toArray, List.set_cons_zero, List.set_cons_succ]
      refine' anyI_take R 1 rfl (v := ?_) (by kernel_rfl) (by rfl) (fun V hV => ?hy) HS0.out ?_
      case hy => ((try dsimp only at hV);  have q := HB2.out.below hV; have p0 := q.1; have p1 := q.2; clear q; go_simp; try with_reducible rfl)
      try simp only [Act.put, List.getElem_toArray, List.getElem_cons_succ, List.getElem_cons_zero, List.setIfInBounds_toArray, List.set_cons_zero, List.set_cons_succ]
      refine' anyI_take R 2 rfl (v := ?_) (by kernel_rfl) (by rfl) (fun V hV => ?hy) HS0.out ?_
      case hy => ((try dsimp only at hV);  have q := HB2.out.below hV; have p0 := q.1; have p1 := q.2; clear q; go_simp; try with_reducible rfl)
      try simp only [Act.put, List.getElem_toArray, List.getElem_cons_succ, List.getElem_cons_zero, List.setIfInBounds_toArray, List.set_cons_zero, List.set_cons_succ]
      refine' anyI_take R 3 rfl (v := ?_) (by kernel_rfl) (by rfl) (fun V hV => ?hy) HS0.out ?_
      case hy => ((try dsimp only at hV);  have q := HB2.out.below hV; have p0 := q.1; have p1 := q.2; clear q; go_simp; try with_reducible rfl)
      try simp only [Act.put, List.getElem_toArray, List.getElem_cons_succ, List.getElem_cons_zero, List.setIfInBounds_toArray, List.set_cons_zero, List.set_cons_succ]
      refine anyI_one 4 (by kernel_rfl) rfl ?_
      try simp only [List.getElem_toArray, List.getElem_cons_succ, List.getElem_cons_zero]
      refine opE_step ?_
      rw [if_pos (by rfl)]
      go_simp
      go_at_call 17
      refine (CR.out _ HS0.out).mono ?_
      rintro e wr ⟨vr, rfl, Or, hbr⟩
      obtain ⟨Ar, cr, rfl, hcr, rdr⟩ := Or.rd
      have HRr := Lib.hid rdr
      replace HS0 := Lib.hid (HS0.out.trans (hbr.mono HS0.out.size))
      clear hbr Or rdr
      try dsimp only
      refine ⟨HS0.out, ?_⟩
      try simp only [Act.put, List.getElem_toArray, List.getElem_cons_succ, List.getElem_cons_zero, List.setIfInBounds_toArray, List.set_cons_zero, List.set_cons_succ]
      refine anyI_one 5 (by kernel_rfl) rfl ?_
      try simp only [List.getElem_toArray, List.getElem_cons_succ, List.getElem_cons_zero]
      refine opE_step ?_
      rw [if_pos (by rfl)]
      go_simp
      go_at_call 16
      refine (refEncRec_no Ar L.length cr s L wr rfl hcr hs64 HRr.out HOK.out).mono ?_
      rintro e we ⟨rfl, hbe⟩
      replace HS0 := Lib.hid (HS0.out.trans (hbe.mono HS0.out.size))
      clear hbe HRr
      try dsimp only
      refine ⟨HS0.out, ?_⟩
      try simp only [Act.put, List.getElem_toArray, List.getElem_cons_succ, List.getElem_cons_zero, List.setIfInBounds_toArray, List.set_cons_zero, List.set_cons_succ]
      refine' anyI_take R 6 rfl (v := ?_) (by kernel_rfl) (by rfl) (fun V hV => ?hy) HS0.out ?_
      case hy => ((try dsimp only at hV);  have q := HB2.out.below hV; have p0 := q.1; have p1 := q.2; clear q; go_simp; try with_reducible rfl)
      try simp only [Act.put, List.getElem_toArray, List.getElem_cons_succ, List.getElem_cons_zero, List.setIfInBounds_toArray, List.set_cons_zero, List.set_cons_succ]
      refine' anyI_take R 7 rfl (v := ?_) (by kernel_rfl) (by rfl) (fun V hV => ?hy) HS0.out ?_
      case hy => ((try dsimp only at hV);  have q := HB2.out.below hV; have p0 := q.1; have p1 := q.2; clear q; go_simp; try with_reducible rfl)
      try simp only [Act.put, List.getElem_toArray, List.getElem_cons_succ, List.getElem_cons_zero, List.setIfInBounds_toArray, List.set_cons_zero, List.set_cons_succ]
      refine' anyI_take R 8 rfl (v := ?_) (by kernel_rfl) (by rfl) (fun V hV => ?hy) HS0.out ?_
      case hy => ((try dsimp only at hV);  have q := HB2.out.below hV; have p0 := q.1; have p1 := q.2; clear q; go_simp; try with_reducible rfl)
      try simp only [Act.put, List.getElem_toArray, List.getElem_cons_succ, List.getElem_cons_zero, List.setIfInBounds_toArray, List.set_cons_zero, List.set_cons_succ]
      refine' anyI_take R 9 rfl (v := ?_) (by kernel_rfl) (by rfl) (fun V hV => ?hy) HS0.out ?_
      case hy => ((try dsimp only at hV);  have q := HB2.out.below hV; have p0 := q.1; have p1 := q.2; clear q; go_simp; try with_reducible rfl)
      try simp only [Act.put, List.getElem_toArray, List.getElem_cons_succ, List.getElem_cons_zero, List.setIfInBounds_toArray, List.set_cons_zero, List.set_cons_succ]
      refine' anyI_take R 10 rfl (v := ?_) (by kernel_rfl) (by rfl) (fun V hV => ?hy) HS0.out ?_
      case hy => ((try dsimp only at hV);  have q := HB2.out.below hV; have p0 := q.1; have p1 := q.2; clear q; go_simp; try with_reducible rfl)
      try simp only [Act.put, List.getElem_toArray, List.getElem_cons_succ, List.getElem_cons_zero, List.setIfInBounds_toArray, List.set_cons_zero, List.set_cons_succ]
      refine anyI_tail (by kernel_rfl) ?_
      try simp only [List.drop_succ_cons, List.drop_zero]
      clear R
      go_wp2_with fail
      refine NoPanic.normal ?_
      try simp only [Exit.then]
      refine ‹∀ (a : Act) (w : World), Met _ a w → _› _ _ ?_
      go_meet
      exact ⟨_, false, rfl, rfl, (fun h => by cases h), F2.out.trans (HS0.out.mono F2.out.size)⟩
    · have HOK : Hid (Hid (recOk s L = true)) := Lib.hid (Lib.hid hok)
      clear hok
      refine wp_region_noPanic (region_ord 11 [] (fun V => Below W2.heap.size W2 V) (by kernel_rfl) (by kernel_rfl) (fun _ _ _ _ _ h => h) fun R => ?_)
      change anyI _ _ _ _ _ _ 11 _ _ W2.drew
      have HS0 := Lib.hid (show (fun V => Below W2.heap.size W2 V) W2.drew from (Below.refl _ _).drew)
      refine' anyI_take R 0 rfl (v := ?_) (by kernel_rfl) (by rfl) (fun V hV => ?hy) HS0.out ?_
      case hy => ((try dsimp only at hV);  have q := HB2.out.below hV; have p0 := q.1; have p1 := q.2; clear q; go_simp; try with_reducible rfl)
      try simp only [Act.put, List.getElem_toArray, List.getElem_cons_succ, List.getElem_cons_zero, List.setIfInBounds_toArray, List.set_cons_zero, List.set_cons_succ]
      refine' anyI_take R 1 rfl (v := ?_) (by kernel_rfl) (by rfl) (fun V hV => ?hy) HS0.out ?_
      case hy => ((try dsimp only at hV);  have q := HB2.out.below hV; have p0 := q.1; have p1 := q.2; clear q; go_simp; try with_reducible rfl)
      try simp only [Act.put, List.getElem_toArray, List.getElem_cons_succ, List.getElem_cons_zero, List.setIfInBounds_toArray, List.set_cons_zero, List.set_cons_succ]
      refine' anyI_take R 2 rfl (v := ?_) (by kernel_rfl) (by rfl) (fun V hV => ?hy) HS0.out ?_
      case hy => ((try dsimp only at hV);  have q := HB2.out.below hV; have p0 := q.1; have p1 := q.2; clear q; go_simp; try with_reducible rfl)
      try simp only [Act.put, List.getElem_toArray, List.getElem_cons_succ, List.getElem_cons_zero, List.setIfInBounds_toArray, List.set_cons_zero, List.set_cons_succ]
      refine' anyI_take R 3 rfl (v := ?_) (by kernel_rfl) (by rfl) (fun V hV => ?hy) HS0.out ?_
      case hy => ((try dsimp only at hV);  have q := HB2.out.below hV; have p0 := q.1; have p1 := q.2; clear q; go_simp; try with_reducible rfl)
      try simp only [Act.put, List.getElem_toArray, List.getElem_cons_succ, List.getElem_cons_zero, List.setIfInBounds_toArray, List.set_cons_zero, List.set_cons_succ]
      refine anyI_one 4 (by kernel_rfl) rfl ?_
      try simp only [List.getElem_toArray, List.getElem_cons_succ, List.getElem_cons_zero]
      refine opE_step ?_
      rw [if_pos (by rfl)]
      go_simp
      go_at_call 17
      refine (CR.out _ HS0.out).mono ?_
      rintro e wr ⟨vr, rfl, Or, hbr⟩
      obtain ⟨Ar, cr, rfl, hcr, rdr⟩ := Or.rd
      have HRr := Lib.hid rdr
      replace HS0 := Lib.hid (HS0.out.trans (hbr.mono HS0.out.size))
      clear hbr Or rdr
      try dsimp only
      refine ⟨HS0.out, ?_⟩
      try simp only [Act.put, List.getElem_toArray, List.getElem_cons_succ, List.getElem_cons_zero, List.setIfInBounds_toArray, List.set_cons_zero, List.set_cons_succ]
      refine anyI_one 5 (by kernel_rfl) rfl ?_
      try simp only [List.getElem_toArray, List.getElem_cons_succ, List.getElem_cons_zero]
      refine opE_step ?_
      rw [if_pos (by rfl)]
      go_simp
      go_at_call 16
      refine (refEncRec_yes Ar L.length cr s L wr rfl hcr hs64 HRr.out HOK.out).mono ?_
      rintro e we ⟨gr, capr, bkr, cpr, rfl, Rr, hbe⟩
      have HRw := Lib.hid (Rr.le (show w.heap.size ≤ wr.heap.size from Nat.le_trans F2.out.size HS0.out.size))
      replace HS0 := Lib.hid (HS0.out.trans (hbe.mono HS0.out.size))
      clear hbe HRr Rr
      try dsimp only
      refine ⟨HS0.out, ?_⟩
      try simp only [Act.put, List.getElem_toArray, List.getElem_cons_succ, List.getElem_cons_zero, List.setIfInBounds_toArray, List.set_cons_zero, List.set_cons_succ]
      refine' anyI_take R 6 rfl (v := ?_) (by kernel_rfl) (by rfl) (fun V hV => ?hy) HS0.out ?_
      case hy => ((try dsimp only at hV);  have q := HB2.out.below hV; have p0 := q.1; have p1 := q.2; clear q; go_simp; try with_reducible rfl)
      try simp only [Act.put, List.getElem_toArray, List.getElem_cons_succ, List.getElem_cons_zero, List.setIfInBounds_toArray, List.set_cons_zero, List.set_cons_succ]
      refine' anyI_take R 7 rfl (v := ?_) (by kernel_rfl) (by rfl) (fun V hV => ?hy) HS0.out ?_
      case hy => ((try dsimp only at hV);  have q := HB2.out.below hV; have p0 := q.1; have p1 := q.2; clear q; go_simp; try with_reducible rfl)
      try simp only [Act.put, List.getElem_toArray, List.getElem_cons_succ, List.getElem_cons_zero, List.setIfInBounds_toArray, List.set_cons_zero, List.set_cons_succ]
      refine' anyI_take R 8 rfl (v := ?_) (by kernel_rfl) (by rfl) (fun V hV => ?hy) HS0.out ?_
      case hy => ((try dsimp only at hV);  have q := HB2.out.below hV; have p0 := q.1; have p1 := q.2; clear q; go_simp; try with_reducible rfl)
      try simp only [Act.put, List.getElem_toArray, List.getElem_cons_succ, List.getElem_cons_zero, List.setIfInBounds_toArray, List.set_cons_zero, List.set_cons_succ]
      refine' anyI_take R 9 rfl (v := ?_) (by kernel_rfl) (by rfl) (fun V hV => ?hy) HS0.out ?_
      case hy => ((try dsimp only at hV);  have q := HB2.out.below hV; have p0 := q.1; have p1 := q.2; clear q; go_simp; try with_reducible rfl)
      try simp only [Act.put, List.getElem_toArray, List.getElem_cons_succ, List.getElem_cons_zero, List.setIfInBounds_toArray, List.set_cons_zero, List.set_cons_succ]
      refine' anyI_take R 10 rfl (v := ?_) (by kernel_rfl) (by rfl) (fun V hV => ?hy) HS0.out ?_
      case hy => ((try dsimp only at hV);  have q := HB2.out.below hV; have p0 := q.1; have p1 := q.2; clear q; go_simp; try with_reducible rfl)
      try simp only [Act.put, List.getElem_toArray, List.getElem_cons_succ, List.getElem_cons_zero, List.setIfInBounds_toArray, List.set_cons_zero, List.set_cons_succ]
      refine anyI_tail (by kernel_rfl) ?_
      try simp only [List.drop_succ_cons, List.drop_zero]
      clear R
      go_wp2_with fail
      refine NoPanic.normal ?_
      try simp only [Exit.then]
      refine ‹∀ (a : Act) (w : World), Met _ a w → _› _ _ ?_
      go_meet
      exact ⟨_, true, rfl, rfl, (fun _ => ⟨_, _, _, _, _, rfl, HRw.out⟩), F2.out.trans (HS0.out.mono F2.out.size)⟩
  case rest =>
    clear HR2 HB2 F2 hl6
    obtain ⟨v, ok, rfl, rfl, hv, hF0⟩ := hcut
    go_upto_if 40 with fail
    go_cut [16] (fun s16 W => ∃ g cap bk cp rs, s16 = .slice (some ⟨g, 0, none⟩) 4 cap ∧ Rw w.heap.size W g cap 4 bk cp rs ∧ Below w.heap.size w W)
    case first =>
      cases ok
      · have HF0 := Lib.hid hF0
        clear hv hF0
        go_upto_region 4 with fail
        refine rdZ _ _ _ _ _ _ _ _ _ _ _ _ _ _ _ _ _ _ _ _ _ _ _ _ _ _ _ _ _ _ _ _ _ _ _ _ _ _ _ _ _ _ _ _ _ _ _ _ _ _ _ _ _ _ _ _ _ _ _ _ _ _ _ _ _ _ _ _ _ _ _ _ _ _ _ _ _ _ _ _ _ _ _ _ _ _ _ _ _ _ _ _ _ _ _ _ _ _ _ _ _ _ _ _ _ _ _ _ _ _ _ _ _ _ _ _ _ _ _ _ _ _ _ _ _ _ _ _ _ _ _ _ _ _ _ _ _ _ _ _ _ _ _ _ _ _ _ _ _ _ _ _ _ _ _ _ _ _ _ _ _ _ _ _ _ _ _ _ _ _ _ _ _ _ _ _ _ (fun v41 v42 v43 v44 v45 g bk cp V hrw hb => ?_)
        refine ‹∀ (a : Act) (w : World), Met _ a w → _› _ _ ?_
        go_meet
        exact ⟨_, _, _, _, _, rfl, hrw.le HF0.out.size, HF0.out.trans (hb.mono HF0.out.size)⟩
      · obtain ⟨g, cap, bk, cp, rs, rfl, hrw⟩ := hv rfl
        have HRw := Lib.hid hrw
        have HF0 := Lib.hid hF0
        clear hv hrw hF0
        go_wp2_with fail
        go_meet
        exact ⟨_, _, _, _, _, rfl, HRw.out, HF0.out⟩
    case rest =>
      clear hv hF0
      obtain ⟨g, cap, bk, cp, rs, rfl, hrw, hF⟩ := hcut
      have hx := xor_u8 ((rs.getD k []).getD i 0) c
      obtain ⟨b, hbk⟩ : ∃ b, bk k = b := ⟨_, rfl⟩
      obtain ⟨x0, hx0⟩ : ∃ x0, (rs.getD k []).getD i 0 = x0 := ⟨_, rfl⟩
      rw [hx0] at hx
      obtain ⟨x1, hx1⟩ : ∃ x1, x0 ^^^ c = x1 := ⟨_, rfl⟩
      rw [hx1] at hx
      have Hx0 := Lib.hid hx0
      have Hbk := Lib.hid hbk
      have HPut := Lib.hid (hrw.put k hk4 i x1)
      rw [hbk] at HPut
      have HBl := Lib.hid ((hrw.blt k hk4).1)
      rw [hbk] at HBl
      have k0 : (0 : Int) ≤ (k : Int) := by omega
      have k1 : (k : Int) < 4 := by omega
      have i0 : (0 : Int) ≤ (i : Int) := by omega
      have i1 : (i : Int) < 32 := by omega
      clear hx1 hx0 hbk
      go_wp2_with fail
      refine wp_region_noPanic (region_ord 12 [] (fun V => Rw w.heap.size V g cap 4 bk cp rs ∧ Below w.heap.size w V) (by kernel_rfl) (by kernel_rfl) (fun _ _ _ _ _ h => h) fun R => ?_)
      change anyI _ _ _ _ _ _ 13 _ _ wc.drew
      have HS0 := Lib.hid (show (fun V => Rw w.heap.size V g cap 4 bk cp rs ∧ Below w.heap.size w V) wc.drew from ⟨hrw.drew, hF.drew⟩)
      refine' anyI_take R 0 rfl (v := ?_) (by kernel_rfl) (by rfl) (fun V hV => ?hy) HS0.out ?_
      case hy => ((try dsimp only at hV);  have p0 := hV.1.cell k hk4; have p1 := hV.1.byte k hk4 i hi32; have p2 := p1.2; replace p1 := p1.1; rw [Hx0.out, Hbk.out] at p1; rw [Hbk.out] at p0; rw [Hbk.out] at p2; go_simp; try with_reducible rfl)
      try simp only [Act.put, List.getElem_toArray, List.getElem_cons_succ, List.getElem_cons_zero, List.setIfInBounds_toArray, List.set_cons_zero, List.set_cons_succ]
      refine' anyI_take R 1 rfl (v := ?_) (by kernel_rfl) (by rfl) (fun V hV => ?hy) HS0.out ?_
      case hy => ((try dsimp only at hV);  have p0 := hV.1.cell k hk4; have p1 := hV.1.byte k hk4 i hi32; have p2 := p1.2; replace p1 := p1.1; rw [Hx0.out, Hbk.out] at p1; rw [Hbk.out] at p0; rw [Hbk.out] at p2; go_simp; try with_reducible rfl)
      try simp only [Act.put, List.getElem_toArray, List.getElem_cons_succ, List.getElem_cons_zero, List.setIfInBounds_toArray, List.set_cons_zero, List.set_cons_succ]
      refine' anyI_take R 5 rfl (v := ?_) (by kernel_rfl) (by rfl) (fun V hV => ?hy) HS0.out ?_
      case hy => ((try dsimp only at hV);  have p0 := hV.1.cell k hk4; have p1 := hV.1.byte k hk4 i hi32; have p2 := p1.2; replace p1 := p1.1; rw [Hx0.out, Hbk.out] at p1; rw [Hbk.out] at p0; rw [Hbk.out] at p2; go_simp; try with_reducible rfl)
      try simp only [Act.put, List.getElem_toArray, List.getElem_cons_succ, List.getElem_cons_zero, List.setIfInBounds_toArray, List.set_cons_zero, List.set_cons_succ]
      refine' anyI_take R 9 rfl (v := ?_) (by kernel_rfl) (by rfl) (fun V hV => ?hy) HS0.out ?_
      case hy => ((try dsimp only at hV);  have p0 := hV.1.cell k hk4; have p1 := hV.1.byte k hk4 i hi32; have p2 := p1.2; replace p1 := p1.1; rw [Hx0.out, Hbk.out] at p1; rw [Hbk.out] at p0; rw [Hbk.out] at p2; go_simp; try with_reducible rfl)
      try simp only [Act.put, List.getElem_toArray, List.getElem_cons_succ, List.getElem_cons_zero, List.setIfInBounds_toArray, List.set_cons_zero, List.set_cons_succ]
      refine anyI_one 2 (by kernel_rfl) rfl ?_
      try simp only [List.getElem_toArray, List.getElem_cons_succ, List.getElem_cons_zero]
      refine opE_step ?_
      rw [if_pos (by rfl)]
      go_simp
      go_at_call 11
      (with_reducible refine (WP.out _).mono ?_)
      rintro e wx ⟨rfl, rfl⟩
      try dsimp only
      refine ⟨HS0.out, ?_⟩
      try simp only [Act.put, List.getElem_toArray, List.getElem_cons_succ, List.getElem_cons_zero, List.setIfInBounds_toArray, List.set_cons_zero, List.set_cons_succ]
      refine' anyI_take R 3 rfl (v := ?_) (by kernel_rfl) (by rfl) (fun V hV => ?hy) HS0.out ?_
      case hy => ((try dsimp only at hV);  have p0 := hV.1.cell k hk4; have p1 := hV.1.byte k hk4 i hi32; have p2 := p1.2; replace p1 := p1.1; rw [Hx0.out, Hbk.out] at p1; rw [Hbk.out] at p0; rw [Hbk.out] at p2; go_simp; try with_reducible rfl)
      try simp only [Act.put, List.getElem_toArray, List.getElem_cons_succ, List.getElem_cons_zero, List.setIfInBounds_toArray, List.set_cons_zero, List.set_cons_succ]
      refine' anyI_take R 4 rfl (v := ?_) (by kernel_rfl) (by rfl) (fun V hV => ?hy) HS0.out ?_
      case hy => ((try dsimp only at hV);  have p0 := hV.1.cell k hk4; have p1 := hV.1.byte k hk4 i hi32; have p2 := p1.2; replace p1 := p1.1; rw [Hx0.out, Hbk.out] at p1; rw [Hbk.out] at p0; rw [Hbk.out] at p2; go_simp; try with_reducible rfl)
      try simp only [Act.put, List.getElem_toArray, List.getElem_cons_succ, List.getElem_cons_zero, List.setIfInBounds_toArray, List.set_cons_zero, List.set_cons_succ]
      refine anyI_one 6 (by kernel_rfl) rfl ?_
      try simp only [List.getElem_toArray, List.getElem_cons_succ, List.getElem_cons_zero]
      refine opE_step ?_
      rw [if_pos (by rfl)]
      go_simp
      go_at_call 11
      (with_reducible refine (WA.out _).mono ?_)
      rintro e wx ⟨rfl, rfl⟩
      try dsimp only
      refine ⟨HS0.out, ?_⟩
      try simp only [Act.put, List.getElem_toArray, List.getElem_cons_succ, List.getElem_cons_zero, List.setIfInBounds_toArray, List.set_cons_zero, List.set_cons_succ]
      refine' anyI_take R 7 rfl (v := ?_) (by kernel_rfl) (by rfl) (fun V hV => ?hy) HS0.out ?_
      case hy => ((try dsimp only at hV);  have p0 := hV.1.cell k hk4; have p1 := hV.1.byte k hk4 i hi32; have p2 := p1.2; replace p1 := p1.1; rw [Hx0.out, Hbk.out] at p1; rw [Hbk.out] at p0; rw [Hbk.out] at p2; go_simp; try with_reducible rfl)
      try simp only [Act.put, List.getElem_toArray, List.getElem_cons_succ, List.getElem_cons_zero, List.setIfInBounds_toArray, List.set_cons_zero, List.set_cons_succ]
      refine' anyI_take R 8 rfl (v := ?_) (by kernel_rfl) (by rfl) (fun V hV => ?hy) HS0.out ?_
      case hy => ((try dsimp only at hV);  have p0 := hV.1.cell k hk4; have p1 := hV.1.byte k hk4 i hi32; have p2 := p1.2; replace p1 := p1.1; rw [Hx0.out, Hbk.out] at p1; rw [Hbk.out] at p0; rw [Hbk.out] at p2; go_simp; try with_reducible rfl)
      try simp only [Act.put, List.getElem_toArray, List.getElem_cons_succ, List.getElem_cons_zero, List.setIfInBounds_toArray, List.set_cons_zero, List.set_cons_succ]
      refine' anyI_take R 10 rfl (v := ?_) (by kernel_rfl) (by rfl) (fun V hV => ?hy) HS0.out ?_
      case hy => ((try dsimp only at hV);  have p0 := hV.1.cell k hk4; have p1 := hV.1.byte k hk4 i hi32; have p2 := p1.2; replace p1 := p1.1; rw [Hx0.out, Hbk.out] at p1; rw [Hbk.out] at p0; rw [Hbk.out] at p2; go_simp; try with_reducible rfl)
      try simp only [Act.put, List.getElem_toArray, List.getElem_cons_succ, List.getElem_cons_zero, List.setIfInBounds_toArray, List.set_cons_zero, List.set_cons_succ]
      refine' anyI_take R 11 rfl (v := ?_) (by kernel_rfl) (by rfl) (fun V hV => ?hy) HS0.out ?_
      case hy => ((try dsimp only at hV);  have p0 := hV.1.cell k hk4; have p1 := hV.1.byte k hk4 i hi32; have p2 := p1.2; replace p1 := p1.1; rw [Hx0.out, Hbk.out] at p1; rw [Hbk.out] at p0; rw [Hbk.out] at p2; go_simp; try with_reducible rfl)
      try simp only [Act.put, List.getElem_toArray, List.getElem_cons_succ, List.getElem_cons_zero, List.setIfInBounds_toArray, List.set_cons_zero, List.set_cons_succ]
      refine anyI_tail (by kernel_rfl) ?_
      try simp only [List.drop_succ_cons, List.drop_zero]
      clear R
      have c0 := (HS0.out.1.byte k hk4 i hi32).1
      have c1 := (HS0.out.1.byte k hk4 i hi32).2
      rw [Hbk.out] at c1
      rw [Hbk.out, Hx0.out] at c0
      have HP7 := Lib.hid HPut.out.1.drew
      have F7 := Lib.hid (Below.drew <| hF.grown HPut.out.2 hF.size (fun j e => by injection e with e; subst e; exact HBl.out))
      clear HS0 hrw hF HPut HBl Hx0 Hbk
      go_wp2_with fail
      refine NoPanic.normal ?_
      clear c0 c1 hx
      go_upto_if 58 with fail
      go_name_world W7 hW7
      rw [hW7] at HP7 F7
      clear hW7
      generalize rs.set k ((rs.getD k []).set i x1) = rs7 at HP7
      go_cut [16] (fun s16 W => ∃ g cap bk cp rs, s16 = .slice (some ⟨g, 0, none⟩) 4 cap ∧ Rw w.heap.size W g cap 4 bk cp rs ∧ Below w.heap.size w W)
      case first =>
        cases sealed'
        · go_wp2_with fail
          go_meet
          exact ⟨_, _, _, _, _, rfl, HP7.out, F7.out⟩
        · have hrw2 := HP7.out
          have hF2 := F7.out
          have hroom := hrw2.room
          have kc1 : ¬ cap = 1 := by omega
          have kc2 : (4 : Int) ≤ (cap : Int) := by omega
          have HC2 := Lib.hid (And.intro hrw2 hF2)
          clear hroom
          go_wp2_with fail
          refine wp_region_noPanic (region_ord 8 [] (fun V => Rw w.heap.size V g cap 4 bk cp rs7 ∧ Below w.heap.size w V) (by kernel_rfl) (by kernel_rfl) (fun _ _ _ _ _ h => h) fun R => ?_)
          change anyI _ _ _ _ _ _ 9 _ _ W7.drew
          have HS0 := Lib.hid (show (fun V => Rw w.heap.size V g cap 4 bk cp rs7 ∧ Below w.heap.size w V) W7.drew from ⟨hrw2.drew, hF2.drew⟩)
          refine' anyI_take R 0 rfl (v := ?_) (by kernel_rfl) (by rfl) (fun V hV => ?hy) HS0.out ?_
          case hy => ((try dsimp only at hV);  have p0 := hV.1.cell 0 (by omega); go_simp; try with_reducible rfl)
          try simp only [Act.put, List.getElem_toArray, List.getElem_cons_succ, List.getElem_cons_zero, List.setIfInBounds_toArray, List.set_cons_zero, List.set_cons_succ]
          refine' anyI_take R 1 rfl (v := ?_) (by kernel_rfl) (by rfl) (fun V hV => ?hy) HS0.out ?_
          case hy => ((try dsimp only at hV);  have p0 := hV.1.cell 0 (by omega); go_simp; try with_reducible rfl)
          try simp only [Act.put, List.getElem_toArray, List.getElem_cons_succ, List.getElem_cons_zero, List.setIfInBounds_toArray, List.set_cons_zero, List.set_cons_succ]
          refine' anyI_take R 2 rfl (v := ?_) (by kernel_rfl) (by rfl) (fun V hV => ?hy) HS0.out ?_
          case hy => ((try dsimp only at hV);  have p0 := hV.1.cell 0 (by omega); go_simp; try with_reducible rfl)
          try simp only [Act.put, List.getElem_toArray, List.getElem_cons_succ, List.getElem_cons_zero, List.setIfInBounds_toArray, List.set_cons_zero, List.set_cons_succ]
          refine' anyI_take R 3 rfl (v := ?_) (by kernel_rfl) (by rfl) (fun V hV => ?hy) HS0.out ?_
          case hy => ((try dsimp only at hV);  have p0 := hV.1.cell 0 (by omega); go_simp; try with_reducible rfl)
          try simp only [Act.put, List.getElem_toArray, List.getElem_cons_succ, List.getElem_cons_zero, List.setIfInBounds_toArray, List.set_cons_zero, List.set_cons_succ]
          refine' anyI_take R 4 rfl (v := ?_) (by kernel_rfl) (by rfl) (fun V hV => ?hy) HS0.out ?_
          case hy => ((try dsimp only at hV);  have p0 := hV.1.cell 0 (by omega); go_simp; try with_reducible rfl)
          try simp only [Act.put, List.getElem_toArray, List.getElem_cons_succ, List.getElem_cons_zero, List.setIfInBounds_toArray, List.set_cons_zero, List.set_cons_succ]
          refine' anyI_take R 5 rfl (v := ?_) (by kernel_rfl) (by rfl) (fun V hV => ?hy) HS0.out ?_
          case hy => ((try dsimp only at hV);  have p0 := hV.1.cell 0 (by omega); go_simp; try with_reducible rfl)
          try simp only [Act.put, List.getElem_toArray, List.getElem_cons_succ, List.getElem_cons_zero, List.setIfInBounds_toArray, List.set_cons_zero, List.set_cons_succ]
          refine anyI_one 6 (by kernel_rfl) rfl ?_
          try simp only [List.getElem_toArray, List.getElem_cons_succ, List.getElem_cons_zero]
          refine opE_step ?_
          rw [if_pos (by rfl)]
          go_simp
          go_at_call 18
          refine (refSealed_n (some ⟨bk 0, 0, none⟩) (some ⟨g, 1, none⟩) 32 (cp 0) (cap - 1) (rs7.getD 0 []) (rs7.drop 1) 3 _ rfl (by have := hrw2.nn; simp; omega) (by omega) (hrw2.len 0 (by omega)) (HS0.out.1.rd 0 (by omega)) HS0.out.1.rdr1).mono ?_
          rintro e w8 ⟨v8, rfl, o8, hb8⟩
          have hsl := stamped_len (rs7.getD 0 []) (rs7.drop 1) (hrw2.len 0 (by omega))
          obtain ⟨gs, cs, rfl, hBg, hglt, hcap8, hcm8, _⟩ := o8.pos (by rw [hsl]; omega)
          rw [hsl] at o8 hcap8 ⊢
          have HSw := Lib.hid ((HS0.out.1.below hb8).swap 0 (by omega) (o8.le HS0.out.2.size) hsl (by have := HS0.out.1.glt.2; omega) (fun j hj => by have := (HS0.out.1.blt j hj).2; omega))
          replace HS0 := Lib.hid (And.intro (HS0.out.1.below hb8) (HS0.out.2.trans (hb8.mono HS0.out.2.size)))
          clear hb8 o8 hBg hglt hcap8 hcm8
          try dsimp only
          refine ⟨HS0.out, ?_⟩
          try simp only [Act.put, List.getElem_toArray, List.getElem_cons_succ, List.getElem_cons_zero, List.setIfInBounds_toArray, List.set_cons_zero, List.set_cons_succ]
          refine' anyI_take R 7 rfl (v := ?_) (by kernel_rfl) (by rfl) (fun V hV => ?hy) HS0.out ?_
          case hy => ((try dsimp only at hV);  have p0 := hV.1.cell 0 (by omega); go_simp; try with_reducible rfl)
          try simp only [Act.put, List.getElem_toArray, List.getElem_cons_succ, List.getElem_cons_zero, List.setIfInBounds_toArray, List.set_cons_zero, List.set_cons_succ]
          refine anyI_tail (by kernel_rfl) ?_
          try simp only [List.drop_succ_cons, List.drop_zero]
          clear R
          have c0 := HS0.out.1.cell 0 (by omega)
          have c1 := HS0.out.1.fz 0
          have Ffin := Lib.hid (HS0.out.2.grown HSw.out.2 HS0.out.2.size (fun j e => by injection e with e; subst e; exact HS0.out.1.glt.1))
          clear hrw2 hF2 HC2 hsl HS0
          go_wp2_with fail
          refine NoPanic.normal ?_
          try simp only [Exit.then]
          refine ‹∀ (a : Act) (w : World), Met _ a w → _› _ _ ?_
          go_meet
          exact ⟨_, _, _, _, _, rfl, HSw.out.1, Ffin.out⟩
      case rest =>
        clear HP7 F7 WA bP bA b4 k0 k1 i0 i1
        obtain ⟨g, cap, bk, cp, rs, rfl, hrw, hF⟩ := hcut
        have HRw := Lib.hid hrw
        have HF := Lib.hid hF
        have kroom := hrw.room
        clear hrw hF
        go_upto_block 0 with (go_at_call 11; (with_reducible refine (W12.out _).mono ?_); rintro e wx ⟨rfl, rfl⟩)
        try rename World => wd
        go_cut [16] (fun s16 W => ∃ A n c rs, s16 = .slice A n c ∧ rs.length = n ∧ n ≤ c ∧ RdC W W.heap.size A rs ∧ Below w.heap.size w W)
        case first =>
          by_cases q0 : q12 = 0
          · subst q0
            have j0 : (0 : Int) ≤ (m4 : Int) := by omega
            have j1 : (m4 : Int) ≤ (cap : Int) := by omega
            clear ha31 kroom
            go_wp2_with (go_at_call 11; (with_reducible refine (W4.out _).mono ?_); rintro e wx ⟨rfl, rfl⟩)
            go_meet
            exact ⟨_, m4, cap, _, rfl, by rw [List.length_take, HRw.out.nn]; omega, by have := HRw.out.room; omega, HRw.out.rdc.take m4, HF.out⟩
          · have e0 : (q12 == 0) = false := beq_eq_false_iff_ne.2 q0
            by_cases q1 : q12 = 1
            · subst q1
              have c0 := HRw.out.cell k hk4
              have c1 := HRw.out.fz k
              have HCut := Lib.hid (HRw.out.cutAt k hk4 m31 (by omega))
              have j0 : (0 : Int) ≤ (m31 : Int) := by omega
              have j1 : (m31 : Int) ≤ (cp k : Int) := by have := HRw.out.ccap k hk4; omega
              have k0 : (0 : Int) ≤ (k : Int) := by omega
              have k1 : (k : Int) < 4 := by omega
              clear e0 q0 kroom
              go_wp2_with (go_at_call 11; (with_reducible refine (WP.out _).mono ?_); rintro e wx ⟨rfl, rfl⟩)
              go_meet
              exact ⟨_, 4, cap, _, rfl, by rw [List.length_set, HRw.out.nn], HRw.out.room, HCut.out.1.more HCut.out.2.size, HF.out.grown HCut.out.2 HF.out.size (fun j e => by injection e with e; subst e; exact HRw.out.glt.1)⟩
            · have e1 : (q12 == 1) = false := beq_eq_false_iff_ne.2 q1
              by_cases q2 : q12 = 2
              · subst q2
                have c0 := HRw.out.cell 0 (by omega)
                have HA7 := Lib.hid (HRw.out.below (below1 wd (.cells #[.slice (some ⟨bk 0, 0, none⟩) 32 (cp 0)] 22)))
                have HV := Lib.hid (show RdV (wd.alloc (.cells #[.slice (some ⟨bk 0, 0, none⟩) 32 (cp 0)] 22)) (wd.heap.size + 1) (some ⟨wd.heap.size, 0, none⟩) [rwv bk cp 0] from fun _ => ⟨wd.heap.size, 0, rfl, by omega, fun j hj => by
                  obtain rfl : j = 0 := by simp at hj; omega
                  exact cell_of_row _ _ 0 _ _ _ (heap_alloc_new wd _)⟩)
                have Hz := Lib.hid (Nat.le_trans HF.out.size (below1 wd (.cells #[.slice (some ⟨bk 0, 0, none⟩) 32 (cp 0)] 22)).size)
                clear e0 e1 q0 q1 kroom
                go_wp2_with (at_builtin
                             refine wpList_append_V (by rfl) _ _ _ (by rfl) w.heap.size 22 (.slice none 0 0) 24 Tryd.underlying24 info_row rfl (.slice (some ⟨g, 0, none⟩) 4 cap) 4 (rwvs bk cp 4) (by rfl) HA7.out.row _ (some ⟨wd.heap.size, 0, none⟩) 1 1 [rwv bk cp 0] (by rfl) (by rfl) HV.out (fun u hu => by rw [List.mem_singleton] at hu; rw [hu]; rfl) (by unfold maxLen; omega) (by omega) Hz.out ?_
                             intro v8 w8 r8 g8 hat8
                             obtain ⟨A8, c8, rfl, hc8, hR8⟩ := HA7.out.snoc (by omega) r8 g8
                             have F8 := Lib.hid ((HF.out.alloc HF.out.size (.cells #[.slice (some ⟨bk 0, 0, none⟩) 32 (cp 0)] 22)).grown g8 Hz.out (fun j e => by injection e with e; subst e; exact HRw.out.glt.1)))
                go_meet
                exact ⟨_, 5, c8, _, rfl, by rw [List.length_append, HRw.out.nn]; rfl, hc8, hR8, F8.out⟩
              · have e2 : (q12 == 2) = false := beq_eq_false_iff_ne.2 q2
                clear q0 q1 q2 kroom
                go_wp2_with fail
                go_meet
                exact ⟨_, 4, cap, _, rfl, HRw.out.nn, HRw.out.room, HRw.out.rdc, HF.out⟩
        case rest =>
          clear HRw HF kroom W12 W4 WP ha31 kq
          obtain ⟨Ax, nx, cx, ps, rfl, hnx, hcx, hrx, hFx⟩ := hcut
          have CD := Lib.hid (decode_any Ax nx cx ps wc hnx hcx hrx (Ht.out.below hFx hw0))
          have CR := Lib.hid (fun V (hV : Below wc.heap.size wc V) => refDecRec_any Ax nx cx ps V hnx ((hrx.below hV (Nat.le_refl _)).more hV.size))
          have HFx := Lib.hid hFx
          have hlen : (rcL ps).length ≤ 3 := by
            unfold rcL itsO
            split
            · rw [itsN_len]; omega
            · simp
          have hE : rcE ps = if rcO ps = true then 0 else 2 := rfl
          generalize rcE ps = er at CD hE
          generalize rcS ps = sr at CD CR
          generalize rcL ps = lr at CD CR hlen
          generalize rcO ps = okr at CR hE
          have Hlen := Lib.hid hlen
          have HE := Lib.hid hE
          clear hnx hcx hrx hFx hlen hE
          go_wp2_with fail
          refine CD.out.mono ?_
          rintro e w4 ⟨v4, rfl, ho4, hb4⟩
          obtain ⟨A4, c4, rfl, hc4, _⟩ := ho4.rd
          obtain ⟨_, _, hr4⟩ := ho4.rdc
          have B5 := hb4.trans ((below1 w4 (.cells #[.int .i64 sr, .slice A4 lr.length c4] 32)).mono hb4.size)
          have HN5 := Lib.hid (rxb_new w4 sr A4 lr.length c4 32)
          have HR5 := Lib.hid (hr4.later (below1 w4 (.cells #[.int .i64 sr, .slice A4 lr.length c4] 32)))
          have F5 := Lib.hid (HFx.out.trans (B5.mono HFx.out.size))
          have CR5 := Lib.hid (CR.out _ B5)
          obtain ⟨W5, hW5⟩ : ∃ W, w4.alloc (.cells #[.int .i64 sr, .slice A4 lr.length c4] 32) = W := ⟨_, rfl⟩
          rw [hW5] at HN5 HR5 F5 CR5
          clear B5 hb4 ho4 hr4 CD CR hc4
          go_wp2_with fail
          refine CR5.out.mono ?_
          rintro e w6 ⟨v6, rfl, ho6, hb6⟩
          obtain ⟨A6, c6, rfl, hc6, hr6⟩ := ho6.rd
          have HN6 := Lib.hid (HN5.out.below hb6)
          have HR6 := Lib.hid (HR5.out.later hb6)
          have HI6 := Lib.hid hr6
          have F6 := Lib.hid (F5.out.trans (hb6.mono F5.out.size))
          have CF := Lib.hid (refRecs_any A4 lr.length c4 lr w6 rfl (by have := Hlen.out; omega) HR6.out)
          obtain ⟨q0, q1⟩ := HN6.out
          have hs : (sr != sr) = false := bne_self_eq_false _
          have hl : ((lr.length : Int) != (lr.length : Int)) = false := bne_self_eq_false _
          clear ho6 hb6 hr6 hc6 CR5 HN5 HR5 F5 hW5
          have HX := Lib.hid (show ∀ w7 v7, OwIt 51 w7 w6.heap.size 0 v7 lr → Below w6.heap.size w6 w7 → ∃ A7 c7, v7 = .slice A7 lr.length c7 ∧ RdI w7 w7.heap.size A7 lr ∧ RdI w7 w7.heap.size A6 lr ∧ Below w.heap.size w w7 from fun w7 v7 ho hb => by
            obtain ⟨A7, c7, rfl, _, h7⟩ := ho.rd
            exact ⟨A7, c7, rfl, h7, HI6.out.later hb, F6.out.trans (hb.mono F6.out.size)⟩)
          cases okr
          · obtain rfl : er = 2 := HE.out
            clear HE
            go_wp2_with fail
            refine CF.out.mono ?_
            rintro e w7 ⟨v7, rfl, ho7, hb7⟩
            obtain ⟨A7, c7, rfl, h7, h6, F7⟩ := HX.out w7 v7 ho7 hb7
            have H7 := Lib.hid (And.intro h7 h6)
            have HF7 := Lib.hid F7
            clear ho7 hb7 h7 h6 F7 q0 q1 CF hs hl
            go_upto_block 1 with fail
            refine wp_block ?_
            refine rdR _ _ _ _ _ _ _ _ _ _ _ _ _ _ _ _ _ _ _ _ _ _ _ _ _ _ _ _ _ _ _ _ _ _ _ _ _ _ _ _ _ _ _ _ _ _ _ _ _ _ _ _ _ _ _ _ _ _ _ _ _ _ _ _ _ _ _ _ _ _ _ _ _ _ _ _ _ _ _ _ _ _ _ _ _ _ _ _ _ _ _ _ _ _ _ _ _ _ _ _ _ _ _ _ _ _ _ _ _ _ _ _ _ _ _ _ _ _ _ _ _ _ _ _ _ _ _ _ _ _ _ _ _ _ _ _ _ _ _ _ _ _ _ _ _ _ _ _ _ _ _ _ _ _ _ _ _ _ _ _ _ _ _ _ _ _ _ _ _ _ _ H7.out.2 H7.out.1 rfl ⟨Nat.zero_le _, Below.refl _ _⟩ (fun v23 v24 v140 v141 v142 v143 v144 v145 v146 v147 v148 v149 v150 v151 v152 v153 v154 v155 v156 v157 v158 v159 v160 v161 v162 v163 v164 v165 v166 v167 v168 v169 v170 v171 v172 v173 j V hI hx => ?_)
            have F8 := Lib.hid (HF7.out.trans (hI.2.mono HF7.out.size))
            clear hI hx H7
            go_wp2_with fail
            (with_reducible refine (Wk.out _ F8.out).mono ?_); rintro e w9 ⟨rfl, hb9⟩
            go_wp2_with fail
            go_ret
            exact ⟨rfl, F8.out.trans (hb9.mono F8.out.size)⟩
          · obtain rfl : er = 0 := HE.out
            clear HE
            go_wp2_with fail
            refine CF.out.mono ?_
            rintro e w7 ⟨v7, rfl, ho7, hb7⟩
            obtain ⟨A7, c7, rfl, h7, h6, F7⟩ := HX.out w7 v7 ho7 hb7
            have H7 := Lib.hid (And.intro h7 h6)
            have HF7 := Lib.hid F7
            clear ho7 hb7 h7 h6 F7 q0 q1 CF hs hl
            go_upto_block 1 with fail
            refine wp_block ?_
            refine rdR _ _ _ _ _ _ _ _ _ _ _ _ _ _ _ _ _ _ _ _ _ _ _ _ _ _ _ _ _ _ _ _ _ _ _ _ _ _ _ _ _ _ _ _ _ _ _ _ _ _ _ _ _ _ _ _ _ _ _ _ _ _ _ _ _ _ _ _ _ _ _ _ _ _ _ _ _ _ _ _ _ _ _ _ _ _ _ _ _ _ _ _ _ _ _ _ _ _ _ _ _ _ _ _ _ _ _ _ _ _ _ _ _ _ _ _ _ _ _ _ _ _ _ _ _ _ _ _ _ _ _ _ _ _ _ _ _ _ _ _ _ _ _ _ _ _ _ _ _ _ _ _ _ _ _ _ _ _ _ _ _ _ _ _ _ _ _ _ _ _ _ H7.out.2 H7.out.1 rfl ⟨Nat.zero_le _, Below.refl _ _⟩ (fun v23 v24 v140 v141 v142 v143 v144 v145 v146 v147 v148 v149 v150 v151 v152 v153 v154 v155 v156 v157 v158 v159 v160 v161 v162 v163 v164 v165 v166 v167 v168 v169 v170 v171 v172 v173 j V hI hx => ?_)
            have F8 := Lib.hid (HF7.out.trans (hI.2.mono HF7.out.size))
            clear hI hx H7
            go_wp2_with fail
            (with_reducible refine (Wk.out _ F8.out).mono ?_); rintro e w9 ⟨rfl, hb9⟩
            go_wp2_with fail
            go_ret
            exact ⟨rfl, F8.out.trans (hb9.mono F8.out.size)⟩
end Go.Proofs.YtfgiomidlfoonaaDoor
