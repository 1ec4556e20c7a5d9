/- RecordForms walked. -/
import Derived.Test.YtfgiomidlfoonaaDoorRecordFormsAid
import Derived.Carry
set_option linter.unusedVariables false
set_option linter.unusedSimpArgs false
namespace Go.Proofs.YtfgiomidlfoonaaDoor
open Go.RowKit

set_option maxRecDepth 100000 in
set_option maxHeartbeats 8000000 in
theorem recordforms (n : Int) (w : World) (hn : (-9223372036854775808 ≤ n ∧ n ≤ 9223372036854775807)) (ht : TabOk w) :
    Calls Tryd.prog 3 #[.int .i64 n] w fun e w' => e = .returned (.bool true) ∧ Below w.heap.size w w' := by
  have Ht := Lib.hid ht
  have hw0 : 0 < w.heap.size := ht.pos
  have Wk := Lib.hid (fun W (hW : Below w.heap.size w W) => wakesRec_any W (Ht.out.below hW hw0))
  have hmk : ∀ w, (Instr.makeSlice 22 (.int .i64 32) (.int .i64 32)).run Tryd.prog w = .ok (.slice (some ⟨w.heap.size, 0, none⟩) 32 32) (w.alloc (.cells (zcells 32) 5)) := make_bytes 32 (by omega)
  have CS1 := Lib.hid fun V => sector_any n V hn
  obtain ⟨n1, hn1⟩ : ∃ n1, IntKind.i64.wrap (n + 1) = n1 := ⟨_, rfl⟩
  have hn1b : (-9223372036854775808 ≤ n1 ∧ n1 ≤ 9223372036854775807) := by rw [← hn1, IntKind.wrap_i64]; omega
  have CS2 := Lib.hid fun V => sector_any n1 V hn1b
  have hlx := sectorB_len n
  have hly := sectorB_len n1
  have HNo := Lib.hid (fun (rs : List (List UInt8)) (h : rs.getD 0 [] = sectorB n) => rcO_sector n h)
  have bx := withinI_bd n 1000 (by omega)
  have WN := Lib.hid (fun W => within_any n 1000 W hn (by omega))
  generalize withinI n 1000 = k at bx WN
  generalize sectorB n = x at CS1 hlx HNo
  generalize sectorB n1 = y at CS2 hly
  have Hlx := Lib.hid hlx
  have Hly := Lib.hid hly
  clear hn hn1b ht hlx hly
  go_enter Tryd.func3, Tryd.ntmps3
  go_wp2_with fail
  (with_reducible refine (CS1.out _).mono ?_); rintro e w1 ⟨gx, rfl, ox, hb1⟩
  have HF1 := Lib.hid hb1
  have OX := Lib.hid ox
  clear hb1 ox CS1
  go_wp2_with fail
  (with_reducible refine (CS2.out _).mono ?_); rintro e w2 ⟨gy, rfl, oy, hb2⟩
  have B3 := below1 w2 (.cells #[.int .i64 2, .int .i64 40, .slice (some ⟨gx, 0, none⟩) 32 32, .int .i64 7, .int .i64 36, .slice (some ⟨gy, 0, none⟩) 32 32] 29)
  have rx := ((OX.out.below hb2).rdS.1.below B3 (Nat.le_refl _)).more B3.size
  have ry := (oy.rdS.1.below B3 (Nat.le_refl _)).more B3.size
  have HI : RdI (w2.alloc (.cells #[.int .i64 2, .int .i64 40, .slice (some ⟨gx, 0, none⟩) 32 32, .int .i64 7, .int .i64 36, .slice (some ⟨gy, 0, none⟩) 32 32] 29)) (w2.alloc (.cells #[.int .i64 2, .int .i64 40, .slice (some ⟨gx, 0, none⟩) 32 32, .int .i64 7, .int .i64 36, .slice (some ⟨gy, 0, none⟩) 32 32] 29)).heap.size (some ⟨w2.heap.size, 0, none⟩) [⟨2, 40, x⟩, ⟨7, 36, y⟩] := rdi_block (l := [⟨2, 40, x⟩, ⟨7, 36, y⟩]) [.slice (some ⟨gx, 0, none⟩) 32 32, .slice (some ⟨gy, 0, none⟩) 32 32] (heap_alloc_new w2 (.cells #[.int .i64 2, .int .i64 40, .slice (some ⟨gx, 0, none⟩) 32 32, .int .i64 7, .int .i64 36, .slice (some ⟨gy, 0, none⟩) 32 32] 29)) (by simp) (by simp) rfl rfl (fun k hk => by
    match k, hk with
    | 0, _ => exact ⟨some ⟨gx, 0, none⟩, 32, by rw [show (itN [⟨2, 40, x⟩, ⟨7, 36, y⟩] 0).b.length = 32 from Hlx.out]; rfl, rx⟩
    | 1, _ => exact ⟨some ⟨gy, 0, none⟩, 32, by rw [show (itN [⟨2, 40, x⟩, ⟨7, 36, y⟩] 1).b.length = 32 from Hly.out]; rfl, ry⟩
    | k + 2, h => exact absurd h (by simp))
  have F3 := Lib.hid (HF1.out.trans ((hb2.trans (B3.mono hb2.size)).mono HF1.out.size))
  have CE := Lib.hid (encode_yes (some ⟨w2.heap.size, 0, none⟩) 2 2 168496141 [⟨2, 40, x⟩, ⟨7, 36, y⟩] (w2.alloc (.cells #[.int .i64 2, .int .i64 40, .slice (some ⟨gx, 0, none⟩) 32 32, .int .i64 7, .int .i64 36, .slice (some ⟨gy, 0, none⟩) 32 32] 29)) rfl (by omega) (by omega) HI (its64_l (fun x hx => by simp only [List.mem_cons, List.not_mem_nil, or_false] at hx; rcases hx with rfl | rfl <;> exact it64_mk (by omega) (by omega))) (Lib.hid (recF_ok x y Hlx.out Hly.out)) (Ht.out.below F3.out hw0))
  have RX := Lib.hid rx
  have RY := Lib.hid ry
  clear hb2 oy B3 rx ry HI HF1 OX CS2
  go_wp2_with fail
  (with_reducible refine CE.out.mono ?_); rintro e w4 ⟨g, bk, rfl, hp4, hb4⟩
  have hp4' := hp4.le (Nat.zero_le _)
  have F4 := Lib.hid (F3.out.trans (hb4.mono F3.out.size))
  have B5 := below1 w4 (.cells #[.int .u8 87, .int .u8 82, .int .u8 69, .int .u8 67, .int .u8 10, .int .u8 11, .int .u8 12, .int .u8 13, .int .u8 2, .int .u8 2, .int .u8 40, .int .u8 7, .int .u8 36, .int .u8 0, .int .u8 0, .int .u8 0, .int .u8 0, .int .u8 0, .int .u8 0, .int .u8 0, .int .u8 0, .int .u8 0, .int .u8 0, .int .u8 0, .int .u8 0, .int .u8 0, .int .u8 0, .int .u8 0] 5)
  have B45 := hb4.trans (B5.mono hb4.size)
  have RX5 := Lib.hid ((RX.out.below B45 (Nat.le_refl _)).more B45.size)
  have RY5 := Lib.hid ((RY.out.below B45 (Nat.le_refl _)).more B45.size)
  have HP5 := Lib.hid (hp4'.below B5)
  have F5 := Lib.hid (F4.out.trans (B5.mono F4.out.size))
  have hrs : (recB 168496141 [⟨2, 40, x⟩, ⟨7, 36, y⟩]).length = 4 := recB_len (by simp)
  have h28 := recF_28 x y
  obtain ⟨g1, g2, g3⟩ := recF_get x y
  have e0 := hp4'.cell 0 (by rw [hrs]; omega)
  have RW := Lib.hid ((own_lit (e := 5) (W := w4) (C := #[.int .u8 87, .int .u8 82, .int .u8 69, .int .u8 67, .int .u8 10, .int .u8 11, .int .u8 12, .int .u8 13, .int .u8 2, .int .u8 2, .int .u8 40, .int .u8 7, .int .u8 36, .int .u8 0, .int .u8 0, .int .u8 0, .int .u8 0, .int .u8 0, .int .u8 0, .int .u8 0, .int .u8 0, .int .u8 0, .int .u8 0, .int .u8 0, .int .u8 0, .int .u8 0, .int .u8 0, .int .u8 0]) (n := 28) [87, 82, 69, 67, 10, 11, 12, 13, 2, 2, 40, 7, 36, 0, 0, 0, 0, 0, 0, 0, 0, 0, 0, 0, 0, 0, 0, 0] rfl rfl (by omega)).rdS.1)
  generalize recB 168496141 [⟨2, 40, x⟩, ⟨7, 36, y⟩] = rs at HP5 hrs h28 g1 g2 g3
  have Hrs := Lib.hid hrs
  have H28 := Lib.hid h28
  have Hg := Lib.hid (And.intro g1 (And.intro g2 g3))
  clear hb4 hp4 hp4' B5 B45 CE RX RY F4 F3 hrs h28 g1 g2 g3
  go_wp2_with fail
  go_name_world W5 hW5
  rw [hW5] at HP5 RX5 RY5 F5 RW
  clear hW5 e0
  have K1 := Lib.hid (fun V (hV : Below W5.heap.size W5 V) => same_yes (some ⟨bk 0, 0, none⟩) (some ⟨w4.heap.size, 0, none⟩) 28 32 28 W5.heap.size [87, 82, 69, 67, 10, 11, 12, 13, 2, 2, 40, 7, 36, 0, 0, 0, 0, 0, 0, 0, 0, 0, 0, 0, 0, 0, 0, 0] V rfl ((by have := (HP5.out.rd 0 (by rw [Hrs.out]; omega)).take 28; rw [H28.out] at this; exact this.below hV (Nat.le_refl _))) (RW.out.below hV (Nat.le_refl _)))
  have K2 := Lib.hid (fun V (hV : Below W5.heap.size W5 V) => same_yes (some ⟨bk 1, 0, none⟩) (some ⟨gx, 0, none⟩) 32 32 32 W5.heap.size x V Hlx.out ((by have := HP5.out.rd 1 (by rw [Hrs.out]; omega); rw [Hg.out.1] at this; exact this.below hV (Nat.le_refl _))) (RX5.out.below hV (Nat.le_refl _)))
  have K3 := Lib.hid (fun V (hV : Below W5.heap.size W5 V) => same_yes (some ⟨bk 2, 0, none⟩) (some ⟨gy, 0, none⟩) 32 32 32 W5.heap.size y V Hly.out ((by have := HP5.out.rd 2 (by rw [Hrs.out]; omega); rw [Hg.out.2.1] at this; exact this.below hV (Nat.le_refl _))) (RY5.out.below hV (Nat.le_refl _)))
  have K4 := Lib.hid (fun V gz (hV : Below W5.heap.size W5 V) (hz : RdB V V.heap.size (some ⟨gz, 0, none⟩) z32) => same_yes (some ⟨bk 3, 0, none⟩) (some ⟨gz, 0, none⟩) 32 32 32 V.heap.size z32 V rfl ((by have := HP5.out.rd 3 (by rw [Hrs.out]; omega); rw [Hg.out.2.2] at this; exact (this.below hV (Nat.le_refl _)).more hV.size)) hz)
  refine wp_region_noPanic (region_ord 31 [] (fun V => Below W5.heap.size W5 V) (by kernel_rfl) (by kernel_rfl) (fun _ _ _ _ _ h => h) fun R => ?_)
  change anyI _ _ _ _ _ _ 31 _ _ W5.drew
  have HS0 := Lib.hid (show (fun V => Below W5.heap.size W5 V) W5.drew from (Below.refl _ _).drew)
  refine' anyI_take R 0 rfl (v := ?_) (by kernel_rfl) (by rfl) (fun V hV => ?hy) HS0.out ?_
  case hy => ((try dsimp only at hV);  have qp := HP5.out.below hV; have p0 := qp.cell 0 (by rw [Hrs.out]; omega); have p1 := qp.cell 1 (by rw [Hrs.out]; omega); have p2 := qp.cell 2 (by rw [Hrs.out]; omega); have p3 := qp.cell 3 (by rw [Hrs.out]; omega); clear qp; go_simp; try with_reducible rfl)
  try simp only [Act.put, List.getElem_toArray, List.getElem_cons_succ, List.getElem_cons_zero, List.setIfInBounds_toArray, List.set_cons_zero, List.set_cons_succ]
  refine' anyI_take R 1 rfl (v := ?_) (by kernel_rfl) (by rfl) (fun V hV => ?hy) HS0.out ?_
  case hy => ((try dsimp only at hV);  have qp := HP5.out.below hV; have p0 := qp.cell 0 (by rw [Hrs.out]; omega); have p1 := qp.cell 1 (by rw [Hrs.out]; omega); have p2 := qp.cell 2 (by rw [Hrs.out]; omega); have p3 := qp.cell 3 (by rw [Hrs.out]; omega); clear qp; go_simp; try with_reducible rfl)
  try simp only [Act.put, List.getElem_toArray, List.getElem_cons_succ, List.getElem_cons_zero, List.setIfInBounds_toArray, List.set_cons_zero, List.set_cons_succ]
  refine' anyI_take R 2 rfl (v := ?_) (by kernel_rfl) (by rfl) (fun V hV => ?hy) HS0.out ?_
  case hy => ((try dsimp only at hV);  have qp := HP5.out.below hV; have p0 := qp.cell 0 (by rw [Hrs.out]; omega); have p1 := qp.cell 1 (by rw [Hrs.out]; omega); have p2 := qp.cell 2 (by rw [Hrs.out]; omega); have p3 := qp.cell 3 (by rw [Hrs.out]; omega); clear qp; go_simp; try with_reducible rfl)
  try simp only [Act.put, List.getElem_toArray, List.getElem_cons_succ, List.getElem_cons_zero, List.setIfInBounds_toArray, List.set_cons_zero, List.set_cons_succ]
  refine' anyI_take R 3 rfl (v := ?_) (by kernel_rfl) (by rfl) (fun V hV => ?hy) HS0.out ?_
  case hy => ((try dsimp only at hV);  have qp := HP5.out.below hV; have p0 := qp.cell 0 (by rw [Hrs.out]; omega); have p1 := qp.cell 1 (by rw [Hrs.out]; omega); have p2 := qp.cell 2 (by rw [Hrs.out]; omega); have p3 := qp.cell 3 (by rw [Hrs.out]; omega); clear qp; go_simp; try with_reducible rfl)
  try simp only [Act.put, List.getElem_toArray, List.getElem_cons_succ, List.getElem_cons_zero, List.setIfInBounds_toArray, List.set_cons_zero, List.set_cons_succ]
  refine' anyI_take R 4 rfl (v := ?_) (by kernel_rfl) (by rfl) (fun V hV => ?hy) HS0.out ?_
  case hy => ((try dsimp only at hV);  have qp := HP5.out.below hV; have p0 := qp.cell 0 (by rw [Hrs.out]; omega); have p1 := qp.cell 1 (by rw [Hrs.out]; omega); have p2 := qp.cell 2 (by rw [Hrs.out]; omega); have p3 := qp.cell 3 (by rw [Hrs.out]; omega); clear qp; go_simp; try with_reducible rfl)
  try simp only [Act.put, List.getElem_toArray, List.getElem_cons_succ, List.getElem_cons_zero, List.setIfInBounds_toArray, List.set_cons_zero, List.set_cons_succ]
  refine anyI_one 5 (by kernel_rfl) rfl ?_
  try simp only [List.getElem_toArray, List.getElem_cons_succ, List.getElem_cons_zero]
  refine opE_step ?_
  rw [if_pos (by rfl)]
  go_simp
  go_at_call 10
  refine (K1.out _ HS0.out).mono ?_
  rintro e wa5 ⟨rfl, hb⟩
  replace HS0 := Lib.hid (HS0.out.trans (hb.mono HS0.out.size))
  clear hb
  try dsimp only
  refine ⟨HS0.out, ?_⟩
  try simp only [Act.put, List.getElem_toArray, List.getElem_cons_succ, List.getElem_cons_zero, List.setIfInBounds_toArray, List.set_cons_zero, List.set_cons_succ]
  refine' anyI_take R 6 rfl (v := ?_) (by kernel_rfl) (by rfl) (fun V hV => ?hy) HS0.out ?_
  case hy => ((try dsimp only at hV);  have qp := HP5.out.below hV; have p0 := qp.cell 0 (by rw [Hrs.out]; omega); have p1 := qp.cell 1 (by rw [Hrs.out]; omega); have p2 := qp.cell 2 (by rw [Hrs.out]; omega); have p3 := qp.cell 3 (by rw [Hrs.out]; omega); clear qp; go_simp; try with_reducible rfl)
  try simp only [Act.put, List.getElem_toArray, List.getElem_cons_succ, List.getElem_cons_zero, List.setIfInBounds_toArray, List.set_cons_zero, List.set_cons_succ]
  refine' anyI_take R 7 rfl (v := ?_) (by kernel_rfl) (by rfl) (fun V hV => ?hy) HS0.out ?_
  case hy => ((try dsimp only at hV);  have qp := HP5.out.below hV; have p0 := qp.cell 0 (by rw [Hrs.out]; omega); have p1 := qp.cell 1 (by rw [Hrs.out]; omega); have p2 := qp.cell 2 (by rw [Hrs.out]; omega); have p3 := qp.cell 3 (by rw [Hrs.out]; omega); clear qp; go_simp; try with_reducible rfl)
  try simp only [Act.put, List.getElem_toArray, List.getElem_cons_succ, List.getElem_cons_zero, List.setIfInBounds_toArray, List.set_cons_zero, List.set_cons_succ]
  refine' anyI_take R 8 rfl (v := ?_) (by kernel_rfl) (by rfl) (fun V hV => ?hy) HS0.out ?_
  case hy => ((try dsimp only at hV);  have qp := HP5.out.below hV; have p0 := qp.cell 0 (by rw [Hrs.out]; omega); have p1 := qp.cell 1 (by rw [Hrs.out]; omega); have p2 := qp.cell 2 (by rw [Hrs.out]; omega); have p3 := qp.cell 3 (by rw [Hrs.out]; omega); clear qp; go_simp; try with_reducible rfl)
  try simp only [Act.put, List.getElem_toArray, List.getElem_cons_succ, List.getElem_cons_zero, List.setIfInBounds_toArray, List.set_cons_zero, List.set_cons_succ]
  refine' anyI_take R 9 rfl (v := ?_) (by kernel_rfl) (by rfl) (fun V hV => ?hy) HS0.out ?_
  case hy => ((try dsimp only at hV);  have qp := HP5.out.below hV; have p0 := qp.cell 0 (by rw [Hrs.out]; omega); have p1 := qp.cell 1 (by rw [Hrs.out]; omega); have p2 := qp.cell 2 (by rw [Hrs.out]; omega); have p3 := qp.cell 3 (by rw [Hrs.out]; omega); clear qp; go_simp; try with_reducible rfl)
  try simp only [Act.put, List.getElem_toArray, List.getElem_cons_succ, List.getElem_cons_zero, List.setIfInBounds_toArray, List.set_cons_zero, List.set_cons_succ]
  refine' anyI_take R 10 rfl (v := ?_) (by kernel_rfl) (by rfl) (fun V hV => ?hy) HS0.out ?_
  case hy => ((try dsimp only at hV);  have qp := HP5.out.below hV; have p0 := qp.cell 0 (by rw [Hrs.out]; omega); have p1 := qp.cell 1 (by rw [Hrs.out]; omega); have p2 := qp.cell 2 (by rw [Hrs.out]; omega); have p3 := qp.cell 3 (by rw [Hrs.out]; omega); clear qp; go_simp; try with_reducible rfl)
  try simp only [Act.put, List.getElem_toArray, List.getElem_cons_succ, List.getElem_cons_zero, List.setIfInBounds_toArray, List.set_cons_zero, List.set_cons_succ]
  refine' anyI_take R 11 rfl (v := ?_) (by kernel_rfl) (by rfl) (fun V hV => ?hy) HS0.out ?_
  case hy => ((try dsimp only at hV);  have qp := HP5.out.below hV; have p0 := qp.cell 0 (by rw [Hrs.out]; omega); have p1 := qp.cell 1 (by rw [Hrs.out]; omega); have p2 := qp.cell 2 (by rw [Hrs.out]; omega); have p3 := qp.cell 3 (by rw [Hrs.out]; omega); clear qp; go_simp; try with_reducible rfl)
  try simp only [Act.put, List.getElem_toArray, List.getElem_cons_succ, List.getElem_cons_zero, List.setIfInBounds_toArray, List.set_cons_zero, List.set_cons_succ]
  refine anyI_one 12 (by kernel_rfl) rfl ?_
  try simp only [List.getElem_toArray, List.getElem_cons_succ, List.getElem_cons_zero]
  refine opE_step ?_
  rw [if_pos (by rfl)]
  go_simp
  go_at_call 10
  refine (K2.out _ HS0.out).mono ?_
  rintro e wa12 ⟨rfl, hb⟩
  replace HS0 := Lib.hid (HS0.out.trans (hb.mono HS0.out.size))
  clear hb
  try dsimp only
  refine ⟨HS0.out, ?_⟩
  try simp only [Act.put, List.getElem_toArray, List.getElem_cons_succ, List.getElem_cons_zero, List.setIfInBounds_toArray, List.set_cons_zero, List.set_cons_succ]
  refine' anyI_take R 13 rfl (v := ?_) (by kernel_rfl) (by rfl) (fun V hV => ?hy) HS0.out ?_
  case hy => ((try dsimp only at hV);  have qp := HP5.out.below hV; have p0 := qp.cell 0 (by rw [Hrs.out]; omega); have p1 := qp.cell 1 (by rw [Hrs.out]; omega); have p2 := qp.cell 2 (by rw [Hrs.out]; omega); have p3 := qp.cell 3 (by rw [Hrs.out]; omega); clear qp; go_simp; try with_reducible rfl)
  try simp only [Act.put, List.getElem_toArray, List.getElem_cons_succ, List.getElem_cons_zero, List.setIfInBounds_toArray, List.set_cons_zero, List.set_cons_succ]
  refine' anyI_take R 14 rfl (v := ?_) (by kernel_rfl) (by rfl) (fun V hV => ?hy) HS0.out ?_
  case hy => ((try dsimp only at hV);  have qp := HP5.out.below hV; have p0 := qp.cell 0 (by rw [Hrs.out]; omega); have p1 := qp.cell 1 (by rw [Hrs.out]; omega); have p2 := qp.cell 2 (by rw [Hrs.out]; omega); have p3 := qp.cell 3 (by rw [Hrs.out]; omega); clear qp; go_simp; try with_reducible rfl)
  try simp only [Act.put, List.getElem_toArray, List.getElem_cons_succ, List.getElem_cons_zero, List.setIfInBounds_toArray, List.set_cons_zero, List.set_cons_succ]
  refine' anyI_take R 15 rfl (v := ?_) (by kernel_rfl) (by rfl) (fun V hV => ?hy) HS0.out ?_
  case hy => ((try dsimp only at hV);  have qp := HP5.out.below hV; have p0 := qp.cell 0 (by rw [Hrs.out]; omega); have p1 := qp.cell 1 (by rw [Hrs.out]; omega); have p2 := qp.cell 2 (by rw [Hrs.out]; omega); have p3 := qp.cell 3 (by rw [Hrs.out]; omega); clear qp; go_simp; try with_reducible rfl)
  try simp only [Act.put, List.getElem_toArray, List.getElem_cons_succ, List.getElem_cons_zero, List.setIfInBounds_toArray, List.set_cons_zero, List.set_cons_succ]
  refine' anyI_take R 16 rfl (v := ?_) (by kernel_rfl) (by rfl) (fun V hV => ?hy) HS0.out ?_
  case hy => ((try dsimp only at hV);  have qp := HP5.out.below hV; have p0 := qp.cell 0 (by rw [Hrs.out]; omega); have p1 := qp.cell 1 (by rw [Hrs.out]; omega); have p2 := qp.cell 2 (by rw [Hrs.out]; omega); have p3 := qp.cell 3 (by rw [Hrs.out]; omega); clear qp; go_simp; try with_reducible rfl)
  try simp only [Act.put, List.getElem_toArray, List.getElem_cons_succ, List.getElem_cons_zero, List.setIfInBounds_toArray, List.set_cons_zero, List.set_cons_succ]
  refine' anyI_take R 17 rfl (v := ?_) (by kernel_rfl) (by rfl) (fun V hV => ?hy) HS0.out ?_
  case hy => ((try dsimp only at hV);  have qp := HP5.out.below hV; have p0 := qp.cell 0 (by rw [Hrs.out]; omega); have p1 := qp.cell 1 (by rw [Hrs.out]; omega); have p2 := qp.cell 2 (by rw [Hrs.out]; omega); have p3 := qp.cell 3 (by rw [Hrs.out]; omega); clear qp; go_simp; try with_reducible rfl)
  try simp only [Act.put, List.getElem_toArray, List.getElem_cons_succ, List.getElem_cons_zero, List.setIfInBounds_toArray, List.set_cons_zero, List.set_cons_succ]
  refine' anyI_take R 18 rfl (v := ?_) (by kernel_rfl) (by rfl) (fun V hV => ?hy) HS0.out ?_
  case hy => ((try dsimp only at hV);  have qp := HP5.out.below hV; have p0 := qp.cell 0 (by rw [Hrs.out]; omega); have p1 := qp.cell 1 (by rw [Hrs.out]; omega); have p2 := qp.cell 2 (by rw [Hrs.out]; omega); have p3 := qp.cell 3 (by rw [Hrs.out]; omega); clear qp; go_simp; try with_reducible rfl)
  try simp only [Act.put, List.getElem_toArray, List.getElem_cons_succ, List.getElem_cons_zero, List.setIfInBounds_toArray, List.set_cons_zero, List.set_cons_succ]
  refine' anyI_take R 19 rfl (v := ?_) (by kernel_rfl) (by rfl) (fun V hV => ?hy) HS0.out ?_
  case hy => ((try dsimp only at hV);  have qp := HP5.out.below hV; have p0 := qp.cell 0 (by rw [Hrs.out]; omega); have p1 := qp.cell 1 (by rw [Hrs.out]; omega); have p2 := qp.cell 2 (by rw [Hrs.out]; omega); have p3 := qp.cell 3 (by rw [Hrs.out]; omega); clear qp; go_simp; try with_reducible rfl)
  try simp only [Act.put, List.getElem_toArray, List.getElem_cons_succ, List.getElem_cons_zero, List.setIfInBounds_toArray, List.set_cons_zero, List.set_cons_succ]
  refine anyI_one 20 (by kernel_rfl) rfl ?_
  try simp only [List.getElem_toArray, List.getElem_cons_succ, List.getElem_cons_zero]
  refine opE_step ?_
  rw [if_pos (by rfl)]
  go_simp
  go_at_call 10
  refine (K3.out _ HS0.out).mono ?_
  rintro e wa20 ⟨rfl, hb⟩
  replace HS0 := Lib.hid (HS0.out.trans (hb.mono HS0.out.size))
  clear hb
  try dsimp only
  refine ⟨HS0.out, ?_⟩
  try simp only [Act.put, List.getElem_toArray, List.getElem_cons_succ, List.getElem_cons_zero, List.setIfInBounds_toArray, List.set_cons_zero, List.set_cons_succ]
  refine' anyI_take R 21 rfl (v := ?_) (by kernel_rfl) (by rfl) (fun V hV => ?hy) HS0.out ?_
  case hy => ((try dsimp only at hV);  have qp := HP5.out.below hV; have p0 := qp.cell 0 (by rw [Hrs.out]; omega); have p1 := qp.cell 1 (by rw [Hrs.out]; omega); have p2 := qp.cell 2 (by rw [Hrs.out]; omega); have p3 := qp.cell 3 (by rw [Hrs.out]; omega); clear qp; go_simp; try with_reducible rfl)
  try simp only [Act.put, List.getElem_toArray, List.getElem_cons_succ, List.getElem_cons_zero, List.setIfInBounds_toArray, List.set_cons_zero, List.set_cons_succ]
  refine' anyI_take R 22 rfl (v := ?_) (by kernel_rfl) (by rfl) (fun V hV => ?hy) HS0.out ?_
  case hy => ((try dsimp only at hV);  have qp := HP5.out.below hV; have p0 := qp.cell 0 (by rw [Hrs.out]; omega); have p1 := qp.cell 1 (by rw [Hrs.out]; omega); have p2 := qp.cell 2 (by rw [Hrs.out]; omega); have p3 := qp.cell 3 (by rw [Hrs.out]; omega); clear qp; go_simp; try with_reducible rfl)
  try simp only [Act.put, List.getElem_toArray, List.getElem_cons_succ, List.getElem_cons_zero, List.setIfInBounds_toArray, List.set_cons_zero, List.set_cons_succ]
  refine' anyI_take R 23 rfl (v := ?_) (by kernel_rfl) (by rfl) (fun V hV => ?hy) HS0.out ?_
  case hy => ((try dsimp only at hV);  have qp := HP5.out.below hV; have p0 := qp.cell 0 (by rw [Hrs.out]; omega); have p1 := qp.cell 1 (by rw [Hrs.out]; omega); have p2 := qp.cell 2 (by rw [Hrs.out]; omega); have p3 := qp.cell 3 (by rw [Hrs.out]; omega); clear qp; go_simp; try with_reducible rfl)
  try simp only [Act.put, List.getElem_toArray, List.getElem_cons_succ, List.getElem_cons_zero, List.setIfInBounds_toArray, List.set_cons_zero, List.set_cons_succ]
  refine' anyI_take R 24 rfl (v := ?_) (by kernel_rfl) (by rfl) (fun V hV => ?hy) HS0.out ?_
  case hy => ((try dsimp only at hV);  have qp := HP5.out.below hV; have p0 := qp.cell 0 (by rw [Hrs.out]; omega); have p1 := qp.cell 1 (by rw [Hrs.out]; omega); have p2 := qp.cell 2 (by rw [Hrs.out]; omega); have p3 := qp.cell 3 (by rw [Hrs.out]; omega); clear qp; go_simp; try with_reducible rfl)
  try simp only [Act.put, List.getElem_toArray, List.getElem_cons_succ, List.getElem_cons_zero, List.setIfInBounds_toArray, List.set_cons_zero, List.set_cons_succ]
  refine' anyI_take R 25 rfl (v := ?_) (by kernel_rfl) (by rfl) (fun V hV => ?hy) HS0.out ?_
  case hy => ((try dsimp only at hV);  have qp := HP5.out.below hV; have p0 := qp.cell 0 (by rw [Hrs.out]; omega); have p1 := qp.cell 1 (by rw [Hrs.out]; omega); have p2 := qp.cell 2 (by rw [Hrs.out]; omega); have p3 := qp.cell 3 (by rw [Hrs.out]; omega); clear qp; go_simp; try with_reducible rfl)
  try simp only [Act.put, List.getElem_toArray, List.getElem_cons_succ, List.getElem_cons_zero, List.setIfInBounds_toArray, List.set_cons_zero, List.set_cons_succ]
  refine' anyI_take R 26 rfl (v := ?_) (by kernel_rfl) (by rfl) (fun V hV => ?hy) HS0.out ?_
  case hy => ((try dsimp only at hV);  have qp := HP5.out.below hV; have p0 := qp.cell 0 (by rw [Hrs.out]; omega); have p1 := qp.cell 1 (by rw [Hrs.out]; omega); have p2 := qp.cell 2 (by rw [Hrs.out]; omega); have p3 := qp.cell 3 (by rw [Hrs.out]; omega); clear qp; go_simp; try with_reducible rfl)
  try simp only [Act.put, List.getElem_toArray, List.getElem_cons_succ, List.getElem_cons_zero, List.setIfInBounds_toArray, List.set_cons_zero, List.set_cons_succ]
  refine anyI_one 27 (by kernel_rfl) rfl ?_
  try simp only [List.getElem_toArray, List.getElem_cons_succ, List.getElem_cons_zero]
  refine opE_step ?_
  rw [if_pos (by rfl)]
  go_simp
  have RZ := Lib.hid (own_make 5 wa20 32 (by omega)).rdS.1
  replace HS0 := Lib.hid (HS0.out.alloc HS0.out.size (.cells (zcells 32) 5))
  try dsimp only
  refine ⟨HS0.out, ?_⟩
  try simp only [Act.put, List.getElem_toArray, List.getElem_cons_succ, List.getElem_cons_zero, List.setIfInBounds_toArray, List.set_cons_zero, List.set_cons_succ]
  refine anyI_one 28 (by kernel_rfl) rfl ?_
  try simp only [List.getElem_toArray, List.getElem_cons_succ, List.getElem_cons_zero]
  refine opE_step ?_
  rw [if_pos (by rfl)]
  go_simp
  go_at_call 10
  refine (K4.out _ _ HS0.out RZ.out).mono ?_
  rintro e wa28 ⟨rfl, hb⟩
  replace HS0 := Lib.hid (HS0.out.trans (hb.mono HS0.out.size))
  clear hb
  try dsimp only
  refine ⟨HS0.out, ?_⟩
  try simp only [Act.put, List.getElem_toArray, List.getElem_cons_succ, List.getElem_cons_zero, List.setIfInBounds_toArray, List.set_cons_zero, List.set_cons_succ]
  refine' anyI_take R 29 rfl (v := ?_) (by kernel_rfl) (by rfl) (fun V hV => ?hy) HS0.out ?_
  case hy => ((try dsimp only at hV);  have qp := HP5.out.below hV; have p0 := qp.cell 0 (by rw [Hrs.out]; omega); have p1 := qp.cell 1 (by rw [Hrs.out]; omega); have p2 := qp.cell 2 (by rw [Hrs.out]; omega); have p3 := qp.cell 3 (by rw [Hrs.out]; omega); clear qp; go_simp; try with_reducible rfl)
  try simp only [Act.put, List.getElem_toArray, List.getElem_cons_succ, List.getElem_cons_zero, List.setIfInBounds_toArray, List.set_cons_zero, List.set_cons_succ]
  refine' anyI_take R 30 rfl (v := ?_) (by kernel_rfl) (by rfl) (fun V hV => ?hy) HS0.out ?_
  case hy => ((try dsimp only at hV);  have qp := HP5.out.below hV; have p0 := qp.cell 0 (by rw [Hrs.out]; omega); have p1 := qp.cell 1 (by rw [Hrs.out]; omega); have p2 := qp.cell 2 (by rw [Hrs.out]; omega); have p3 := qp.cell 3 (by rw [Hrs.out]; omega); clear qp; go_simp; try with_reducible rfl)
  try simp only [Act.put, List.getElem_toArray, List.getElem_cons_succ, List.getElem_cons_zero, List.setIfInBounds_toArray, List.set_cons_zero, List.set_cons_succ]
  refine anyI_tail (by kernel_rfl) ?_
  try simp only [List.drop_succ_cons, List.drop_zero]
  clear R
  go_wp2_with fail
  refine NoPanic.normal ?_
  clear K1 K2 K3 K4 RW RZ RY5 H28
  have F6 := Lib.hid (F5.out.trans (HS0.out.mono F5.out.size))
  have HP6 := Lib.hid (HP5.out.below HS0.out)
  have RX6 := Lib.hid ((RX5.out.below HS0.out (Nat.le_refl _)).more HS0.out.size)
  clear HS0 HP5 RX5 F5
  go_wp2_with fail
  (with_reducible refine (WN.out _).mono ?_); rintro e wx ⟨rfl, hwx⟩
  obtain rfl : wa28 = wx := hwx.symm
  go_upto_region 9 with fail
  obtain ⟨N, hN⟩ : ∃ N, N = 1 + k := ⟨_, rfl⟩
  rw [← hN]
  have hNb : 1 ≤ N ∧ N ≤ 1000 := by omega
  clear hN bx WN hmk
  have B9 := below1 wa28 (.cells #[.int .i64 1, .int .i64 36, .slice (some ⟨gx, 0, none⟩) 32 32] 29)
  have c8 := fun i => cell_of_row _ _ i _ _ _ (heap_alloc_new wa28 (.cells #[.int .i64 1, .int .i64 36, .slice (some ⟨gx, 0, none⟩) 32 32] 29))
  have k0 := c8 0
  have k1 := c8 1
  have k2 := c8 2
  have F9 := Lib.hid (F6.out.trans (B9.mono F6.out.size))
  have HP9 := Lib.hid (HP6.out.below B9)
  have RX9 := Lib.hid ((RX6.out.below B9 (Nat.le_refl _)).more B9.size)
  clear B9 c8 F6 HP6 RX6
  go_upto_region 10 with fail
  go_name_world W9 hW9
  rw [hW9] at k0 k1 k2 F9 HP9 RX9
  clear hW9
  obtain ⟨t0, tB, tS⟩ := rtab_start N x gx W9 hNb Hlx.out RX9.out
  have T0 := Lib.hid t0
  have TB := Lib.hid tB
  have TS := Lib.hid tS
  clear t0 tB tS
  go_upto_block 0 with fail
  go_name_world W10 hW10
  rw [hW10] at T0 TB TS
  clear hW10 k0 k1 k2
  refine wp_block ?_
  refine rfR _ _ _ _ _ _ _ _ _ _ _ _ _ _ _ _ _ _ _ _ _ _ _ _ _ _ _ _ _ _ _ _ _ _ _ _ _ _ _ _ _ _ _ _ _ _ _ _ _ _ _ _ _ _ _ _ _ _ _ _ _ _ _ _ _ _ _ _ _ _ _ _ _ _ _ _ _ _ _ _ _ _ _ _ _ _ _ _ _ _ _ _ _ _ _ _ _ _ _ _ _ _ _ _ _ _ _ _ _ _ _ _ _ _ _ _ _ _ _ _ _ _ _ _ _ _ _ _ _ _ _ _ _ _ _ _ _ _ _ _ _ _ _ _ _ _ _ _ _ _ _ _ _ _ _ _ _ _ _ _ _ _ _ _ _ _ _ _ _ _ _ _ _ _ _ _ _ _ _ _ _ _ _ _ _ _ _ _ _ _ _ _ _ _ _ _ _ _ _ _ _ _ T0.out (by rw [TS.out]; omega) ⟨by omega, Below.refl _ _⟩ (fun v10 v11 v12 v136 v137 v138 v139 v140 v141 v142 v143 v144 v145 v146 v147 v148 v149 v150 v151 v152 v153 v154 v155 v156 j V10 hI hx => ?_)
  have B10 := TB.out.trans (hI.2.mono TB.out.size)
  have F10 := Lib.hid (F9.out.trans (B10.mono F9.out.size))
  have HP10 := Lib.hid (HP9.out.below B10)
  clear hI hx B10 T0 TB TS F9 HP9 RX9
  have C0 := Lib.hid (fun V => decode_not none 0 0 [] V rfl ⟨by simp, fun h => by simp at h⟩ rfl)
  have C3 := Lib.hid (fun V q (hV : Below w.heap.size w V) (h : RdR V V.heap.size (some ⟨q, 0, none⟩) [rs.getD 0 [], rs.getD 1 [], rs.getD 2 []]) => decode_not (some ⟨q, 0, none⟩) 3 3 [rs.getD 0 [], rs.getD 1 [], rs.getD 2 []] V rfl h rfl)
  have C4 := Lib.hid (fun V q (hV : Below w.heap.size w V) (h : RdC V V.heap.size (some ⟨q, 0, none⟩) [rs.getD 1 [], rs.getD 1 [], rs.getD 2 [], rs.getD 3 []]) => decode_none (some ⟨q, 0, none⟩) 4 4 [rs.getD 1 [], rs.getD 1 [], rs.getD 2 [], rs.getD 3 []] V rfl (by omega) h (HNo.out _ Hg.out.1) (Ht.out.below hV hw0))
  clear Hg HNo Hlx Hly hNb
  go_wp2_with fail
  (with_reducible refine (C0.out _).mono ?_); rintro e w11 ⟨rfl, hb11⟩
  have F11 := Lib.hid (F10.out.trans (hb11.mono F10.out.size))
  have HP11 := Lib.hid (HP10.out.below hb11)
  have BX := below1 w11 (.cells #[.int .i64 0, .slice none 0 0] 32)
  have HFc := Lib.hid (F11.out.trans (BX.mono F11.out.size))
  have HPc := Lib.hid (HP11.out.below BX)
  clear hb11 C0 F10 HP10 BX F11 HP11
  go_upto_region 18 with fail
  go_name_world W12 hW12
  rw [hW12] at HFc HPc
  clear hW12
  go_cut [15, 16] (fun s15 s16 W => s16 = .int .i64 2 ∧ P4 0 W g bk rs ∧ Below w.heap.size w W)
  case first =>
    clear C4
    refine wp_region_noPanic (region_ord 15 [13] (fun V => P4 0 V g bk rs ∧ Below w.heap.size w V) (by kernel_rfl) (by kernel_rfl) (fun _ _ _ _ _ h => h) fun R => ?_)
    change anyI _ _ _ _ _ _ 17 _ _ W12.drew
    have HS0 := Lib.hid (show (fun V => P4 0 V g bk rs ∧ Below w.heap.size w V) W12.drew from ⟨HPc.out.drew, HFc.out.drew⟩)
    obtain ⟨V0, hV0⟩ : ∃ V, W12.drew = V := ⟨_, rfl⟩
    rw [hV0] at HS0 ⊢
    clear hV0
    refine' anyI_take R 0 rfl (v := ?_) (by kernel_rfl) (by rfl) (fun V hV => ?hy) HS0.out ?_
    case hy => ((try dsimp only at hV);  have p0 := hV.1.cell 0 (by rw [Hrs.out]; omega); have p1 := hV.1.cell 1 (by rw [Hrs.out]; omega); have p2 := hV.1.cell 2 (by rw [Hrs.out]; omega); go_simp; try with_reducible rfl)
    try simp only [Act.put, List.getElem_toArray, List.getElem_cons_succ, List.getElem_cons_zero, List.setIfInBounds_toArray, List.set_cons_zero, List.set_cons_succ]
    refine' anyI_take R 1 rfl (v := ?_) (by kernel_rfl) (by rfl) (fun V hV => ?hy) HS0.out ?_
    case hy => ((try dsimp only at hV);  have p0 := hV.1.cell 0 (by rw [Hrs.out]; omega); have p1 := hV.1.cell 1 (by rw [Hrs.out]; omega); have p2 := hV.1.cell 2 (by rw [Hrs.out]; omega); go_simp; try with_reducible rfl)
    try simp only [Act.put, List.getElem_toArray, List.getElem_cons_succ, List.getElem_cons_zero, List.setIfInBounds_toArray, List.set_cons_zero, List.set_cons_succ]
    refine' anyI_take R 2 rfl (v := ?_) (by kernel_rfl) (by rfl) (fun V hV => ?hy) HS0.out ?_
    case hy => ((try dsimp only at hV);  have p0 := hV.1.cell 0 (by rw [Hrs.out]; omega); have p1 := hV.1.cell 1 (by rw [Hrs.out]; omega); have p2 := hV.1.cell 2 (by rw [Hrs.out]; omega); go_simp; try with_reducible rfl)
    try simp only [Act.put, List.getElem_toArray, List.getElem_cons_succ, List.getElem_cons_zero, List.setIfInBounds_toArray, List.set_cons_zero, List.set_cons_succ]
    refine' anyI_take R 3 rfl (v := ?_) (by kernel_rfl) (by rfl) (fun V hV => ?hy) HS0.out ?_
    case hy => ((try dsimp only at hV);  have p0 := hV.1.cell 0 (by rw [Hrs.out]; omega); have p1 := hV.1.cell 1 (by rw [Hrs.out]; omega); have p2 := hV.1.cell 2 (by rw [Hrs.out]; omega); go_simp; try with_reducible rfl)
    try simp only [Act.put, List.getElem_toArray, List.getElem_cons_succ, List.getElem_cons_zero, List.setIfInBounds_toArray, List.set_cons_zero, List.set_cons_succ]
    refine' anyI_take R 4 rfl (v := ?_) (by kernel_rfl) (by rfl) (fun V hV => ?hy) HS0.out ?_
    case hy => ((try dsimp only at hV);  have p0 := hV.1.cell 0 (by rw [Hrs.out]; omega); have p1 := hV.1.cell 1 (by rw [Hrs.out]; omega); have p2 := hV.1.cell 2 (by rw [Hrs.out]; omega); go_simp; try with_reducible rfl)
    try simp only [Act.put, List.getElem_toArray, List.getElem_cons_succ, List.getElem_cons_zero, List.setIfInBounds_toArray, List.set_cons_zero, List.set_cons_succ]
    refine' anyI_take R 5 rfl (v := ?_) (by kernel_rfl) (by rfl) (fun V hV => ?hy) HS0.out ?_
    case hy => ((try dsimp only at hV);  have p0 := hV.1.cell 0 (by rw [Hrs.out]; omega); have p1 := hV.1.cell 1 (by rw [Hrs.out]; omega); have p2 := hV.1.cell 2 (by rw [Hrs.out]; omega); go_simp; try with_reducible rfl)
    try simp only [Act.put, List.getElem_toArray, List.getElem_cons_succ, List.getElem_cons_zero, List.setIfInBounds_toArray, List.set_cons_zero, List.set_cons_succ]
    refine' anyI_take R 6 rfl (v := ?_) (by kernel_rfl) (by rfl) (fun V hV => ?hy) HS0.out ?_
    case hy => ((try dsimp only at hV);  have p0 := hV.1.cell 0 (by rw [Hrs.out]; omega); have p1 := hV.1.cell 1 (by rw [Hrs.out]; omega); have p2 := hV.1.cell 2 (by rw [Hrs.out]; omega); go_simp; try with_reducible rfl)
    try simp only [Act.put, List.getElem_toArray, List.getElem_cons_succ, List.getElem_cons_zero, List.setIfInBounds_toArray, List.set_cons_zero, List.set_cons_succ]
    refine' anyI_take R 7 rfl (v := ?_) (by kernel_rfl) (by rfl) (fun V hV => ?hy) HS0.out ?_
    case hy => ((try dsimp only at hV);  have p0 := hV.1.cell 0 (by rw [Hrs.out]; omega); have p1 := hV.1.cell 1 (by rw [Hrs.out]; omega); have p2 := hV.1.cell 2 (by rw [Hrs.out]; omega); go_simp; try with_reducible rfl)
    try simp only [Act.put, List.getElem_toArray, List.getElem_cons_succ, List.getElem_cons_zero, List.setIfInBounds_toArray, List.set_cons_zero, List.set_cons_succ]
    refine' anyI_take R 8 rfl (v := ?_) (by kernel_rfl) (by rfl) (fun V hV => ?hy) HS0.out ?_
    case hy => ((try dsimp only at hV);  have p0 := hV.1.cell 0 (by rw [Hrs.out]; omega); have p1 := hV.1.cell 1 (by rw [Hrs.out]; omega); have p2 := hV.1.cell 2 (by rw [Hrs.out]; omega); go_simp; try with_reducible rfl)
    try simp only [Act.put, List.getElem_toArray, List.getElem_cons_succ, List.getElem_cons_zero, List.setIfInBounds_toArray, List.set_cons_zero, List.set_cons_succ]
    refine anyI_two 9 14 (by kernel_rfl) rfl rfl ?_ ?_
    · try simp only [List.getElem_toArray, List.getElem_cons_succ, List.getElem_cons_zero]
      refine opE_step ?_
      rw [if_pos (by rfl)]
      go_simp
      have HG := Lib.hid (rdr_block3 (heap_alloc_new V0 (.cells #[.slice (some ⟨bk 0, 0, none⟩) 32 32, .slice (some ⟨bk 1, 0, none⟩) 32 32, .slice (some ⟨bk 2, 0, none⟩) 32 32] 22)) (HS0.out.1.len 0 (by rw [Hrs.out]; omega)).symm (HS0.out.1.len 1 (by rw [Hrs.out]; omega)).symm (HS0.out.1.len 2 (by rw [Hrs.out]; omega)).symm ((HS0.out.1.rd 0 (by rw [Hrs.out]; omega)).below (below1 V0 (.cells #[.slice (some ⟨bk 0, 0, none⟩) 32 32, .slice (some ⟨bk 1, 0, none⟩) 32 32, .slice (some ⟨bk 2, 0, none⟩) 32 32] 22)) (Nat.le_refl _)) ((HS0.out.1.rd 1 (by rw [Hrs.out]; omega)).below (below1 V0 (.cells #[.slice (some ⟨bk 0, 0, none⟩) 32 32, .slice (some ⟨bk 1, 0, none⟩) 32 32, .slice (some ⟨bk 2, 0, none⟩) 32 32] 22)) (Nat.le_refl _)) ((HS0.out.1.rd 2 (by rw [Hrs.out]; omega)).below (below1 V0 (.cells #[.slice (some ⟨bk 0, 0, none⟩) 32 32, .slice (some ⟨bk 1, 0, none⟩) 32 32, .slice (some ⟨bk 2, 0, none⟩) 32 32] 22)) (Nat.le_refl _)) (below1 V0 (.cells #[.slice (some ⟨bk 0, 0, none⟩) 32 32, .slice (some ⟨bk 1, 0, none⟩) 32 32, .slice (some ⟨bk 2, 0, none⟩) 32 32] 22)).size)
      replace HS0 := Lib.hid (And.intro (HS0.out.1.below (below1 V0 (.cells #[.slice (some ⟨bk 0, 0, none⟩) 32 32, .slice (some ⟨bk 1, 0, none⟩) 32 32, .slice (some ⟨bk 2, 0, none⟩) 32 32] 22))) (HS0.out.2.alloc HS0.out.2.size (.cells #[.slice (some ⟨bk 0, 0, none⟩) 32 32, .slice (some ⟨bk 1, 0, none⟩) 32 32, .slice (some ⟨bk 2, 0, none⟩) 32 32] 22)))
      obtain ⟨V0b, hVn⟩ : ∃ V, V0.alloc (.cells #[.slice (some ⟨bk 0, 0, none⟩) 32 32, .slice (some ⟨bk 1, 0, none⟩) 32 32, .slice (some ⟨bk 2, 0, none⟩) 32 32] 22) = V := ⟨_, rfl⟩
      rw [hVn] at HS0 HG ⊢
      clear hVn
      try dsimp only
      refine ⟨HS0.out, ?_⟩
      try simp only [Act.put, List.getElem_toArray, List.getElem_cons_succ, List.getElem_cons_zero, List.setIfInBounds_toArray, List.set_cons_zero, List.set_cons_succ]
      refine anyI_two 10 14 (by kernel_rfl) rfl rfl ?_ ?_
      · try simp only [List.getElem_toArray, List.getElem_cons_succ, List.getElem_cons_zero]
        refine opE_step ?_
        rw [if_pos (by rfl)]
        go_simp
        go_at_call 13
        refine (C3.out _ _ HS0.out.2 HG.out).mono ?_
        rintro e V0bc ⟨rfl, hb⟩
        replace HS0 := Lib.hid (And.intro (HS0.out.1.below hb) (HS0.out.2.trans (hb.mono HS0.out.2.size)))
        clear hb HG
        try dsimp only
        refine ⟨HS0.out, ?_⟩
        try simp only [Act.put, List.getElem_toArray, List.getElem_cons_succ, List.getElem_cons_zero, List.setIfInBounds_toArray, List.set_cons_zero, List.set_cons_succ]
        refine' anyI_take R 11 rfl (v := ?_) (by kernel_rfl) (by rfl) (fun V hV => ?hy) HS0.out ?_
        case hy => ((try dsimp only at hV);  have p0 := hV.1.cell 0 (by rw [Hrs.out]; omega); have p1 := hV.1.cell 1 (by rw [Hrs.out]; omega); have p2 := hV.1.cell 2 (by rw [Hrs.out]; omega); go_simp; try with_reducible rfl)
        try simp only [Act.put, List.getElem_toArray, List.getElem_cons_succ, List.getElem_cons_zero, List.setIfInBounds_toArray, List.set_cons_zero, List.set_cons_succ]
        refine' anyI_free R 13 rfl (v := ?_) (by kernel_rfl) (by rfl) (fun V => ?hy) ?_
        case hy => (go_simp; try with_reducible rfl)
        try simp only [Act.put, List.getElem_toArray, List.getElem_cons_succ, List.getElem_cons_zero, List.setIfInBounds_toArray, List.set_cons_zero, List.set_cons_succ]
        refine' anyI_take R 12 rfl (v := ?_) (by kernel_rfl) (by rfl) (fun V hV => ?hy) HS0.out ?_
        case hy => ((try dsimp only at hV);  have p0 := hV.1.cell 0 (by rw [Hrs.out]; omega); have p1 := hV.1.cell 1 (by rw [Hrs.out]; omega); have p2 := hV.1.cell 2 (by rw [Hrs.out]; omega); go_simp; try with_reducible rfl)
        try simp only [Act.put, List.getElem_toArray, List.getElem_cons_succ, List.getElem_cons_zero, List.setIfInBounds_toArray, List.set_cons_zero, List.set_cons_succ]
        refine anyI_one 14 (by kernel_rfl) rfl ?_
        try simp only [List.getElem_toArray, List.getElem_cons_succ, List.getElem_cons_zero]
        refine opE_step ?_
        rw [if_pos (by rfl)]
        go_simp
        have HK := Lib.hid HS0.out
        have HX := Lib.hid (DcS.start V0bc 32)
        replace HS0 := Lib.hid (And.intro (HS0.out.1.below (below1 V0bc (.cells #[.int .i64 0, .slice none 0 0] 32))) (HS0.out.2.alloc HS0.out.2.size (.cells #[.int .i64 0, .slice none 0 0] 32)))
        obtain ⟨V0bca, hVn⟩ : ∃ V, V0bc.alloc (.cells #[.int .i64 0, .slice none 0 0] 32) = V := ⟨_, rfl⟩
        rw [hVn] at HS0 HX ⊢
        clear hVn
        try dsimp only
        refine ⟨HS0.out, ?_⟩
        try simp only [Act.put, List.getElem_toArray, List.getElem_cons_succ, List.getElem_cons_zero, List.setIfInBounds_toArray, List.set_cons_zero, List.set_cons_succ]
        refine anyI_tail (by kernel_rfl) ?_
        try simp only [List.drop_succ_cons, List.drop_zero]
        clear R
        obtain ⟨p0, p1, pb, _⟩ := HX.out.put 0 (.slice none 0 0)
        have Hfin := Lib.hid (And.intro (HK.out.1.below pb) (HK.out.2.trans (pb.mono HK.out.2.size)))
        obtain ⟨_, q0, q1, q2⟩ := HX.out
        obtain ⟨q3, q4⟩ := And.intro (q2 0) (q2 1)
        clear p0 p1 pb q2 HK HS0 HX
        go_wp2_with fail
        refine NoPanic.normal ?_
        try simp only [Exit.then]
        refine ‹∀ (a : Act) (w : World), Met _ a w → _› _ _ ?_
        go_meet
        exact ⟨rfl, Hfin.out.1, Hfin.out.2⟩
      · try simp only [List.getElem_toArray, List.getElem_cons_succ, List.getElem_cons_zero]
        refine opE_step ?_
        rw [if_pos (by rfl)]
        go_simp
        have HK := Lib.hid HS0.out
        have HX := Lib.hid (DcS.start V0b 32)
        replace HS0 := Lib.hid (And.intro (HS0.out.1.below (below1 V0b (.cells #[.int .i64 0, .slice none 0 0] 32))) (HS0.out.2.alloc HS0.out.2.size (.cells #[.int .i64 0, .slice none 0 0] 32)))
        replace HG := Lib.hid ((HG.out.below (below1 V0b (.cells #[.int .i64 0, .slice none 0 0] 32)) (Nat.le_refl _)).more (below1 V0b (.cells #[.int .i64 0, .slice none 0 0] 32)).size)
        obtain ⟨V0ba, hVn⟩ : ∃ V, V0b.alloc (.cells #[.int .i64 0, .slice none 0 0] 32) = V := ⟨_, rfl⟩
        rw [hVn] at HS0 HX HG ⊢
        clear hVn
        try dsimp only
        refine ⟨HS0.out, ?_⟩
        try simp only [Act.put, List.getElem_toArray, List.getElem_cons_succ, List.getElem_cons_zero, List.setIfInBounds_toArray, List.set_cons_zero, List.set_cons_succ]
        refine anyI_one 10 (by kernel_rfl) rfl ?_
        try simp only [List.getElem_toArray, List.getElem_cons_succ, List.getElem_cons_zero]
        refine opE_step ?_
        rw [if_pos (by rfl)]
        go_simp
        go_at_call 13
        refine (C3.out _ _ HS0.out.2 HG.out).mono ?_
        rintro e V0bac ⟨rfl, hb⟩
        replace HS0 := Lib.hid (And.intro (HS0.out.1.below hb) (HS0.out.2.trans (hb.mono HS0.out.2.size)))
        replace HX := Lib.hid (HX.out.below hb)
        clear hb HG
        try dsimp only
        refine ⟨HS0.out, ?_⟩
        try simp only [Act.put, List.getElem_toArray, List.getElem_cons_succ, List.getElem_cons_zero, List.setIfInBounds_toArray, List.set_cons_zero, List.set_cons_succ]
        refine' anyI_take R 11 rfl (v := ?_) (by kernel_rfl) (by rfl) (fun V hV => ?hy) HS0.out ?_
        case hy => ((try dsimp only at hV);  have p0 := hV.1.cell 0 (by rw [Hrs.out]; omega); have p1 := hV.1.cell 1 (by rw [Hrs.out]; omega); have p2 := hV.1.cell 2 (by rw [Hrs.out]; omega); go_simp; try with_reducible rfl)
        try simp only [Act.put, List.getElem_toArray, List.getElem_cons_succ, List.getElem_cons_zero, List.setIfInBounds_toArray, List.set_cons_zero, List.set_cons_succ]
        refine' anyI_free R 13 rfl (v := ?_) (by kernel_rfl) (by rfl) (fun V => ?hy) ?_
        case hy => (go_simp; try with_reducible rfl)
        try simp only [Act.put, List.getElem_toArray, List.getElem_cons_succ, List.getElem_cons_zero, List.setIfInBounds_toArray, List.set_cons_zero, List.set_cons_succ]
        refine' anyI_take R 12 rfl (v := ?_) (by kernel_rfl) (by rfl) (fun V hV => ?hy) HS0.out ?_
        case hy => ((try dsimp only at hV);  have p0 := hV.1.cell 0 (by rw [Hrs.out]; omega); have p1 := hV.1.cell 1 (by rw [Hrs.out]; omega); have p2 := hV.1.cell 2 (by rw [Hrs.out]; omega); go_simp; try with_reducible rfl)
        try simp only [Act.put, List.getElem_toArray, List.getElem_cons_succ, List.getElem_cons_zero, List.setIfInBounds_toArray, List.set_cons_zero, List.set_cons_succ]
        refine anyI_tail (by kernel_rfl) ?_
        try simp only [List.drop_succ_cons, List.drop_zero]
        clear R
        obtain ⟨p0, p1, pb, _⟩ := HX.out.put 0 (.slice none 0 0)
        have Hfin := Lib.hid (And.intro (HK.out.1.below pb) (HK.out.2.trans (pb.mono HK.out.2.size)))
        obtain ⟨_, q0, q1, q2⟩ := HX.out
        obtain ⟨q3, q4⟩ := And.intro (q2 0) (q2 1)
        clear p0 p1 pb q2 HK HS0 HX
        go_wp2_with fail
        refine NoPanic.normal ?_
        try simp only [Exit.then]
        refine ‹∀ (a : Act) (w : World), Met _ a w → _› _ _ ?_
        go_meet
        exact ⟨rfl, Hfin.out.1, Hfin.out.2⟩
    · try simp only [List.getElem_toArray, List.getElem_cons_succ, List.getElem_cons_zero]
      refine opE_step ?_
      rw [if_pos (by rfl)]
      go_simp
      have HK := Lib.hid HS0.out
      have HX := Lib.hid (DcS.start V0 32)
      replace HS0 := Lib.hid (And.intro (HS0.out.1.below (below1 V0 (.cells #[.int .i64 0, .slice none 0 0] 32))) (HS0.out.2.alloc HS0.out.2.size (.cells #[.int .i64 0, .slice none 0 0] 32)))
      obtain ⟨V0a, hVn⟩ : ∃ V, V0.alloc (.cells #[.int .i64 0, .slice none 0 0] 32) = V := ⟨_, rfl⟩
      rw [hVn] at HS0 HX ⊢
      clear hVn
      try dsimp only
      refine ⟨HS0.out, ?_⟩
      try simp only [Act.put, List.getElem_toArray, List.getElem_cons_succ, List.getElem_cons_zero, List.setIfInBounds_toArray, List.set_cons_zero, List.set_cons_succ]
      refine anyI_one 9 (by kernel_rfl) rfl ?_
      try simp only [List.getElem_toArray, List.getElem_cons_succ, List.getElem_cons_zero]
      refine opE_step ?_
      rw [if_pos (by rfl)]
      go_simp
      have HG := Lib.hid (rdr_block3 (heap_alloc_new V0a (.cells #[.slice (some ⟨bk 0, 0, none⟩) 32 32, .slice (some ⟨bk 1, 0, none⟩) 32 32, .slice (some ⟨bk 2, 0, none⟩) 32 32] 22)) (HS0.out.1.len 0 (by rw [Hrs.out]; omega)).symm (HS0.out.1.len 1 (by rw [Hrs.out]; omega)).symm (HS0.out.1.len 2 (by rw [Hrs.out]; omega)).symm ((HS0.out.1.rd 0 (by rw [Hrs.out]; omega)).below (below1 V0a (.cells #[.slice (some ⟨bk 0, 0, none⟩) 32 32, .slice (some ⟨bk 1, 0, none⟩) 32 32, .slice (some ⟨bk 2, 0, none⟩) 32 32] 22)) (Nat.le_refl _)) ((HS0.out.1.rd 1 (by rw [Hrs.out]; omega)).below (below1 V0a (.cells #[.slice (some ⟨bk 0, 0, none⟩) 32 32, .slice (some ⟨bk 1, 0, none⟩) 32 32, .slice (some ⟨bk 2, 0, none⟩) 32 32] 22)) (Nat.le_refl _)) ((HS0.out.1.rd 2 (by rw [Hrs.out]; omega)).below (below1 V0a (.cells #[.slice (some ⟨bk 0, 0, none⟩) 32 32, .slice (some ⟨bk 1, 0, none⟩) 32 32, .slice (some ⟨bk 2, 0, none⟩) 32 32] 22)) (Nat.le_refl _)) (below1 V0a (.cells #[.slice (some ⟨bk 0, 0, none⟩) 32 32, .slice (some ⟨bk 1, 0, none⟩) 32 32, .slice (some ⟨bk 2, 0, none⟩) 32 32] 22)).size)
      replace HS0 := Lib.hid (And.intro (HS0.out.1.below (below1 V0a (.cells #[.slice (some ⟨bk 0, 0, none⟩) 32 32, .slice (some ⟨bk 1, 0, none⟩) 32 32, .slice (some ⟨bk 2, 0, none⟩) 32 32] 22))) (HS0.out.2.alloc HS0.out.2.size (.cells #[.slice (some ⟨bk 0, 0, none⟩) 32 32, .slice (some ⟨bk 1, 0, none⟩) 32 32, .slice (some ⟨bk 2, 0, none⟩) 32 32] 22)))
      replace HX := Lib.hid (HX.out.below (below1 V0a (.cells #[.slice (some ⟨bk 0, 0, none⟩) 32 32, .slice (some ⟨bk 1, 0, none⟩) 32 32, .slice (some ⟨bk 2, 0, none⟩) 32 32] 22)))
      obtain ⟨V0ab, hVn⟩ : ∃ V, V0a.alloc (.cells #[.slice (some ⟨bk 0, 0, none⟩) 32 32, .slice (some ⟨bk 1, 0, none⟩) 32 32, .slice (some ⟨bk 2, 0, none⟩) 32 32] 22) = V := ⟨_, rfl⟩
      rw [hVn] at HS0 HG HX ⊢
      clear hVn
      try dsimp only
      refine ⟨HS0.out, ?_⟩
      try simp only [Act.put, List.getElem_toArray, List.getElem_cons_succ, List.getElem_cons_zero, List.setIfInBounds_toArray, List.set_cons_zero, List.set_cons_succ]
      refine anyI_one 10 (by kernel_rfl) rfl ?_
      try simp only [List.getElem_toArray, List.getElem_cons_succ, List.getElem_cons_zero]
      refine opE_step ?_
      rw [if_pos (by rfl)]
      go_simp
      go_at_call 13
      refine (C3.out _ _ HS0.out.2 HG.out).mono ?_
      rintro e V0abc ⟨rfl, hb⟩
      replace HS0 := Lib.hid (And.intro (HS0.out.1.below hb) (HS0.out.2.trans (hb.mono HS0.out.2.size)))
      replace HX := Lib.hid (HX.out.below hb)
      clear hb HG
      try dsimp only
      refine ⟨HS0.out, ?_⟩
      try simp only [Act.put, List.getElem_toArray, List.getElem_cons_succ, List.getElem_cons_zero, List.setIfInBounds_toArray, List.set_cons_zero, List.set_cons_succ]
      refine' anyI_take R 11 rfl (v := ?_) (by kernel_rfl) (by rfl) (fun V hV => ?hy) HS0.out ?_
      case hy => ((try dsimp only at hV);  have p0 := hV.1.cell 0 (by rw [Hrs.out]; omega); have p1 := hV.1.cell 1 (by rw [Hrs.out]; omega); have p2 := hV.1.cell 2 (by rw [Hrs.out]; omega); go_simp; try with_reducible rfl)
      try simp only [Act.put, List.getElem_toArray, List.getElem_cons_succ, List.getElem_cons_zero, List.setIfInBounds_toArray, List.set_cons_zero, List.set_cons_succ]
      refine' anyI_free R 13 rfl (v := ?_) (by kernel_rfl) (by rfl) (fun V => ?hy) ?_
      case hy => (go_simp; try with_reducible rfl)
      try simp only [Act.put, List.getElem_toArray, List.getElem_cons_succ, List.getElem_cons_zero, List.setIfInBounds_toArray, List.set_cons_zero, List.set_cons_succ]
      refine' anyI_take R 12 rfl (v := ?_) (by kernel_rfl) (by rfl) (fun V hV => ?hy) HS0.out ?_
      case hy => ((try dsimp only at hV);  have p0 := hV.1.cell 0 (by rw [Hrs.out]; omega); have p1 := hV.1.cell 1 (by rw [Hrs.out]; omega); have p2 := hV.1.cell 2 (by rw [Hrs.out]; omega); go_simp; try with_reducible rfl)
      try simp only [Act.put, List.getElem_toArray, List.getElem_cons_succ, List.getElem_cons_zero, List.setIfInBounds_toArray, List.set_cons_zero, List.set_cons_succ]
      refine anyI_tail (by kernel_rfl) ?_
      try simp only [List.drop_succ_cons, List.drop_zero]
      clear R
      obtain ⟨p0, p1, pb, _⟩ := HX.out.put 0 (.slice none 0 0)
      have Hfin := Lib.hid (And.intro (HK.out.1.below pb) (HK.out.2.trans (pb.mono HK.out.2.size)))
      obtain ⟨_, q0, q1, q2⟩ := HX.out
      obtain ⟨q3, q4⟩ := And.intro (q2 0) (q2 1)
      clear p0 p1 pb q2 HK HS0 HX
      go_wp2_with fail
      refine NoPanic.normal ?_
      try simp only [Exit.then]
      refine ‹∀ (a : Act) (w : World), Met _ a w → _› _ _ ?_
      go_meet
      exact ⟨rfl, Hfin.out.1, Hfin.out.2⟩
  case rest =>
    clear C3 HFc HPc
    obtain ⟨rfl, hpc, hfc⟩ := hcut
    have HPc := Lib.hid hpc
    have HFc := Lib.hid hfc
    clear hpc hfc
    go_upto_region 19 with fail
    go_cut [17, 18] (fun s17 s18 W => s18 = .int .i64 2 ∧ P4 0 W g bk rs ∧ Below w.heap.size w W)
    case first =>
      refine wp_region_noPanic (region_ord 18 [16] (fun V => P4 0 V g bk rs ∧ Below w.heap.size w V) (by kernel_rfl) (by kernel_rfl) (fun _ _ _ _ _ h => h) fun R => ?_)
      change anyI _ _ _ _ _ _ 20 _ _ wc.drew
      have HS0 := Lib.hid (show (fun V => P4 0 V g bk rs ∧ Below w.heap.size w V) wc.drew from ⟨HPc.out.drew, HFc.out.drew⟩)
      obtain ⟨V0, hV0⟩ : ∃ V, wc.drew = V := ⟨_, rfl⟩
      rw [hV0] at HS0 ⊢
      clear hV0
      refine' anyI_take R 0 rfl (v := ?_) (by kernel_rfl) (by rfl) (fun V hV => ?hy) HS0.out ?_
      case hy => ((try dsimp only at hV);  have p1 := hV.1.cell 1 (by rw [Hrs.out]; omega); have p2 := hV.1.cell 2 (by rw [Hrs.out]; omega); have p3 := hV.1.cell 3 (by rw [Hrs.out]; omega); go_simp; try with_reducible rfl)
      try simp only [Act.put, List.getElem_toArray, List.getElem_cons_succ, List.getElem_cons_zero, List.setIfInBounds_toArray, List.set_cons_zero, List.set_cons_succ]
      refine' anyI_take R 1 rfl (v := ?_) (by kernel_rfl) (by rfl) (fun V hV => ?hy) HS0.out ?_
      case hy => ((try dsimp only at hV);  have p1 := hV.1.cell 1 (by rw [Hrs.out]; omega); have p2 := hV.1.cell 2 (by rw [Hrs.out]; omega); have p3 := hV.1.cell 3 (by rw [Hrs.out]; omega); go_simp; try with_reducible rfl)
      try simp only [Act.put, List.getElem_toArray, List.getElem_cons_succ, List.getElem_cons_zero, List.setIfInBounds_toArray, List.set_cons_zero, List.set_cons_succ]
      refine' anyI_take R 2 rfl (v := ?_) (by kernel_rfl) (by rfl) (fun V hV => ?hy) HS0.out ?_
      case hy => ((try dsimp only at hV);  have p1 := hV.1.cell 1 (by rw [Hrs.out]; omega); have p2 := hV.1.cell 2 (by rw [Hrs.out]; omega); have p3 := hV.1.cell 3 (by rw [Hrs.out]; omega); go_simp; try with_reducible rfl)
      try simp only [Act.put, List.getElem_toArray, List.getElem_cons_succ, List.getElem_cons_zero, List.setIfInBounds_toArray, List.set_cons_zero, List.set_cons_succ]
      refine' anyI_take R 3 rfl (v := ?_) (by kernel_rfl) (by rfl) (fun V hV => ?hy) HS0.out ?_
      case hy => ((try dsimp only at hV);  have p1 := hV.1.cell 1 (by rw [Hrs.out]; omega); have p2 := hV.1.cell 2 (by rw [Hrs.out]; omega); have p3 := hV.1.cell 3 (by rw [Hrs.out]; omega); go_simp; try with_reducible rfl)
      try simp only [Act.put, List.getElem_toArray, List.getElem_cons_succ, List.getElem_cons_zero, List.setIfInBounds_toArray, List.set_cons_zero, List.set_cons_succ]
      refine' anyI_take R 4 rfl (v := ?_) (by kernel_rfl) (by rfl) (fun V hV => ?hy) HS0.out ?_
      case hy => ((try dsimp only at hV);  have p1 := hV.1.cell 1 (by rw [Hrs.out]; omega); have p2 := hV.1.cell 2 (by rw [Hrs.out]; omega); have p3 := hV.1.cell 3 (by rw [Hrs.out]; omega); go_simp; try with_reducible rfl)
      try simp only [Act.put, List.getElem_toArray, List.getElem_cons_succ, List.getElem_cons_zero, List.setIfInBounds_toArray, List.set_cons_zero, List.set_cons_succ]
      refine' anyI_take R 5 rfl (v := ?_) (by kernel_rfl) (by rfl) (fun V hV => ?hy) HS0.out ?_
      case hy => ((try dsimp only at hV);  have p1 := hV.1.cell 1 (by rw [Hrs.out]; omega); have p2 := hV.1.cell 2 (by rw [Hrs.out]; omega); have p3 := hV.1.cell 3 (by rw [Hrs.out]; omega); go_simp; try with_reducible rfl)
      try simp only [Act.put, List.getElem_toArray, List.getElem_cons_succ, List.getElem_cons_zero, List.setIfInBounds_toArray, List.set_cons_zero, List.set_cons_succ]
      refine' anyI_take R 6 rfl (v := ?_) (by kernel_rfl) (by rfl) (fun V hV => ?hy) HS0.out ?_
      case hy => ((try dsimp only at hV);  have p1 := hV.1.cell 1 (by rw [Hrs.out]; omega); have p2 := hV.1.cell 2 (by rw [Hrs.out]; omega); have p3 := hV.1.cell 3 (by rw [Hrs.out]; omega); go_simp; try with_reducible rfl)
      try simp only [Act.put, List.getElem_toArray, List.getElem_cons_succ, List.getElem_cons_zero, List.setIfInBounds_toArray, List.set_cons_zero, List.set_cons_succ]
      refine' anyI_take R 7 rfl (v := ?_) (by kernel_rfl) (by rfl) (fun V hV => ?hy) HS0.out ?_
      case hy => ((try dsimp only at hV);  have p1 := hV.1.cell 1 (by rw [Hrs.out]; omega); have p2 := hV.1.cell 2 (by rw [Hrs.out]; omega); have p3 := hV.1.cell 3 (by rw [Hrs.out]; omega); go_simp; try with_reducible rfl)
      try simp only [Act.put, List.getElem_toArray, List.getElem_cons_succ, List.getElem_cons_zero, List.setIfInBounds_toArray, List.set_cons_zero, List.set_cons_succ]
      refine' anyI_take R 8 rfl (v := ?_) (by kernel_rfl) (by rfl) (fun V hV => ?hy) HS0.out ?_
      case hy => ((try dsimp only at hV);  have p1 := hV.1.cell 1 (by rw [Hrs.out]; omega); have p2 := hV.1.cell 2 (by rw [Hrs.out]; omega); have p3 := hV.1.cell 3 (by rw [Hrs.out]; omega); go_simp; try with_reducible rfl)
      try simp only [Act.put, List.getElem_toArray, List.getElem_cons_succ, List.getElem_cons_zero, List.setIfInBounds_toArray, List.set_cons_zero, List.set_cons_succ]
      refine' anyI_take R 9 rfl (v := ?_) (by kernel_rfl) (by rfl) (fun V hV => ?hy) HS0.out ?_
      case hy => ((try dsimp only at hV);  have p1 := hV.1.cell 1 (by rw [Hrs.out]; omega); have p2 := hV.1.cell 2 (by rw [Hrs.out]; omega); have p3 := hV.1.cell 3 (by rw [Hrs.out]; omega); go_simp; try with_reducible rfl)
      try simp only [Act.put, List.getElem_toArray, List.getElem_cons_succ, List.getElem_cons_zero, List.setIfInBounds_toArray, List.set_cons_zero, List.set_cons_succ]
      refine' anyI_take R 10 rfl (v := ?_) (by kernel_rfl) (by rfl) (fun V hV => ?hy) HS0.out ?_
      case hy => ((try dsimp only at hV);  have p1 := hV.1.cell 1 (by rw [Hrs.out]; omega); have p2 := hV.1.cell 2 (by rw [Hrs.out]; omega); have p3 := hV.1.cell 3 (by rw [Hrs.out]; omega); go_simp; try with_reducible rfl)
      try simp only [Act.put, List.getElem_toArray, List.getElem_cons_succ, List.getElem_cons_zero, List.setIfInBounds_toArray, List.set_cons_zero, List.set_cons_succ]
      refine' anyI_take R 11 rfl (v := ?_) (by kernel_rfl) (by rfl) (fun V hV => ?hy) HS0.out ?_
      case hy => ((try dsimp only at hV);  have p1 := hV.1.cell 1 (by rw [Hrs.out]; omega); have p2 := hV.1.cell 2 (by rw [Hrs.out]; omega); have p3 := hV.1.cell 3 (by rw [Hrs.out]; omega); go_simp; try with_reducible rfl)
      try simp only [Act.put, List.getElem_toArray, List.getElem_cons_succ, List.getElem_cons_zero, List.setIfInBounds_toArray, List.set_cons_zero, List.set_cons_succ]
      refine anyI_two 12 17 (by kernel_rfl) rfl rfl ?_ ?_
      · try simp only [List.getElem_toArray, List.getElem_cons_succ, List.getElem_cons_zero]
        refine opE_step ?_
        rw [if_pos (by rfl)]
        go_simp
        have HG := Lib.hid (rdc_four (heap_alloc_new V0 (.cells #[.slice (some ⟨bk 1, 0, none⟩) 32 32, .slice (some ⟨bk 1, 0, none⟩) 32 32, .slice (some ⟨bk 2, 0, none⟩) 32 32, .slice (some ⟨bk 3, 0, none⟩) 32 32] 22)) (HS0.out.1.len 1 (by rw [Hrs.out]; omega)) (HS0.out.1.len 1 (by rw [Hrs.out]; omega)) (HS0.out.1.len 2 (by rw [Hrs.out]; omega)) (HS0.out.1.len 3 (by rw [Hrs.out]; omega)) (((HS0.out.1.rd 1 (by rw [Hrs.out]; omega)).below (below1 V0 (.cells #[.slice (some ⟨bk 1, 0, none⟩) 32 32, .slice (some ⟨bk 1, 0, none⟩) 32 32, .slice (some ⟨bk 2, 0, none⟩) 32 32, .slice (some ⟨bk 3, 0, none⟩) 32 32] 22)) (Nat.le_refl _)).more (below1 V0 (.cells #[.slice (some ⟨bk 1, 0, none⟩) 32 32, .slice (some ⟨bk 1, 0, none⟩) 32 32, .slice (some ⟨bk 2, 0, none⟩) 32 32, .slice (some ⟨bk 3, 0, none⟩) 32 32] 22)).size) (((HS0.out.1.rd 1 (by rw [Hrs.out]; omega)).below (below1 V0 (.cells #[.slice (some ⟨bk 1, 0, none⟩) 32 32, .slice (some ⟨bk 1, 0, none⟩) 32 32, .slice (some ⟨bk 2, 0, none⟩) 32 32, .slice (some ⟨bk 3, 0, none⟩) 32 32] 22)) (Nat.le_refl _)).more (below1 V0 (.cells #[.slice (some ⟨bk 1, 0, none⟩) 32 32, .slice (some ⟨bk 1, 0, none⟩) 32 32, .slice (some ⟨bk 2, 0, none⟩) 32 32, .slice (some ⟨bk 3, 0, none⟩) 32 32] 22)).size) (((HS0.out.1.rd 2 (by rw [Hrs.out]; omega)).below (below1 V0 (.cells #[.slice (some ⟨bk 1, 0, none⟩) 32 32, .slice (some ⟨bk 1, 0, none⟩) 32 32, .slice (some ⟨bk 2, 0, none⟩) 32 32, .slice (some ⟨bk 3, 0, none⟩) 32 32] 22)) (Nat.le_refl _)).more (below1 V0 (.cells #[.slice (some ⟨bk 1, 0, none⟩) 32 32, .slice (some ⟨bk 1, 0, none⟩) 32 32, .slice (some ⟨bk 2, 0, none⟩) 32 32, .slice (some ⟨bk 3, 0, none⟩) 32 32] 22)).size) (((HS0.out.1.rd 3 (by rw [Hrs.out]; omega)).below (below1 V0 (.cells #[.slice (some ⟨bk 1, 0, none⟩) 32 32, .slice (some ⟨bk 1, 0, none⟩) 32 32, .slice (some ⟨bk 2, 0, none⟩) 32 32, .slice (some ⟨bk 3, 0, none⟩) 32 32] 22)) (Nat.le_refl _)).more (below1 V0 (.cells #[.slice (some ⟨bk 1, 0, none⟩) 32 32, .slice (some ⟨bk 1, 0, none⟩) 32 32, .slice (some ⟨bk 2, 0, none⟩) 32 32, .slice (some ⟨bk 3, 0, none⟩) 32 32] 22)).size))
        replace HS0 := Lib.hid (And.intro (HS0.out.1.below (below1 V0 (.cells #[.slice (some ⟨bk 1, 0, none⟩) 32 32, .slice (some ⟨bk 1, 0, none⟩) 32 32, .slice (some ⟨bk 2, 0, none⟩) 32 32, .slice (some ⟨bk 3, 0, none⟩) 32 32] 22))) (HS0.out.2.alloc HS0.out.2.size (.cells #[.slice (some ⟨bk 1, 0, none⟩) 32 32, .slice (some ⟨bk 1, 0, none⟩) 32 32, .slice (some ⟨bk 2, 0, none⟩) 32 32, .slice (some ⟨bk 3, 0, none⟩) 32 32] 22)))
        obtain ⟨V0b, hVn⟩ : ∃ V, V0.alloc (.cells #[.slice (some ⟨bk 1, 0, none⟩) 32 32, .slice (some ⟨bk 1, 0, none⟩) 32 32, .slice (some ⟨bk 2, 0, none⟩) 32 32, .slice (some ⟨bk 3, 0, none⟩) 32 32] 22) = V := ⟨_, rfl⟩
        rw [hVn] at HS0 HG ⊢
        clear hVn
        try dsimp only
        refine ⟨HS0.out, ?_⟩
        try simp only [Act.put, List.getElem_toArray, List.getElem_cons_succ, List.getElem_cons_zero, List.setIfInBounds_toArray, List.set_cons_zero, List.set_cons_succ]
        refine anyI_two 13 17 (by kernel_rfl) rfl rfl ?_ ?_
        · try simp only [List.getElem_toArray, List.getElem_cons_succ, List.getElem_cons_zero]
          refine opE_step ?_
          rw [if_pos (by rfl)]
          go_simp
          go_at_call 13
          refine (C4.out _ _ HS0.out.2 HG.out).mono ?_
          rintro e V0bc ⟨A9, c9, rfl, hb⟩
          replace HS0 := Lib.hid (And.intro (HS0.out.1.below hb) (HS0.out.2.trans (hb.mono HS0.out.2.size)))
          clear hb HG
          try dsimp only
          refine ⟨HS0.out, ?_⟩
          try simp only [Act.put, List.getElem_toArray, List.getElem_cons_succ, List.getElem_cons_zero, List.setIfInBounds_toArray, List.set_cons_zero, List.set_cons_succ]
          refine' anyI_take R 14 rfl (v := ?_) (by kernel_rfl) (by rfl) (fun V hV => ?hy) HS0.out ?_
          case hy => ((try dsimp only at hV);  have p1 := hV.1.cell 1 (by rw [Hrs.out]; omega); have p2 := hV.1.cell 2 (by rw [Hrs.out]; omega); have p3 := hV.1.cell 3 (by rw [Hrs.out]; omega); go_simp; try with_reducible rfl)
          try simp only [Act.put, List.getElem_toArray, List.getElem_cons_succ, List.getElem_cons_zero, List.setIfInBounds_toArray, List.set_cons_zero, List.set_cons_succ]
          refine' anyI_free R 16 rfl (v := ?_) (by kernel_rfl) (by rfl) (fun V => ?hy) ?_
          case hy => (go_simp; try with_reducible rfl)
          try simp only [Act.put, List.getElem_toArray, List.getElem_cons_succ, List.getElem_cons_zero, List.setIfInBounds_toArray, List.set_cons_zero, List.set_cons_succ]
          refine' anyI_take R 15 rfl (v := ?_) (by kernel_rfl) (by rfl) (fun V hV => ?hy) HS0.out ?_
          case hy => ((try dsimp only at hV);  have p1 := hV.1.cell 1 (by rw [Hrs.out]; omega); have p2 := hV.1.cell 2 (by rw [Hrs.out]; omega); have p3 := hV.1.cell 3 (by rw [Hrs.out]; omega); go_simp; try with_reducible rfl)
          try simp only [Act.put, List.getElem_toArray, List.getElem_cons_succ, List.getElem_cons_zero, List.setIfInBounds_toArray, List.set_cons_zero, List.set_cons_succ]
          refine anyI_one 17 (by kernel_rfl) rfl ?_
          try simp only [List.getElem_toArray, List.getElem_cons_succ, List.getElem_cons_zero]
          refine opE_step ?_
          rw [if_pos (by rfl)]
          go_simp
          have HK := Lib.hid HS0.out
          have HX := Lib.hid (DcS.start V0bc 32)
          replace HS0 := Lib.hid (And.intro (HS0.out.1.below (below1 V0bc (.cells #[.int .i64 0, .slice none 0 0] 32))) (HS0.out.2.alloc HS0.out.2.size (.cells #[.int .i64 0, .slice none 0 0] 32)))
          obtain ⟨V0bca, hVn⟩ : ∃ V, V0bc.alloc (.cells #[.int .i64 0, .slice none 0 0] 32) = V := ⟨_, rfl⟩
          rw [hVn] at HS0 HX ⊢
          clear hVn
          try dsimp only
          refine ⟨HS0.out, ?_⟩
          try simp only [Act.put, List.getElem_toArray, List.getElem_cons_succ, List.getElem_cons_zero, List.setIfInBounds_toArray, List.set_cons_zero, List.set_cons_succ]
          refine anyI_tail (by kernel_rfl) ?_
          try simp only [List.drop_succ_cons, List.drop_zero]
          clear R
          obtain ⟨p0, p1, pb, _⟩ := HX.out.put 0 (.slice A9 0 c9)
          have Hfin := Lib.hid (And.intro (HK.out.1.below pb) (HK.out.2.trans (pb.mono HK.out.2.size)))
          obtain ⟨_, q0, q1, q2⟩ := HX.out
          obtain ⟨q3, q4⟩ := And.intro (q2 0) (q2 1)
          clear p0 p1 pb q2 HK HS0 HX
          go_wp2_with fail
          refine NoPanic.normal ?_
          try simp only [Exit.then]
          refine ‹∀ (a : Act) (w : World), Met _ a w → _› _ _ ?_
          go_meet
          exact ⟨rfl, Hfin.out.1, Hfin.out.2⟩
        · try simp only [List.getElem_toArray, List.getElem_cons_succ, List.getElem_cons_zero]
          refine opE_step ?_
          rw [if_pos (by rfl)]
          go_simp
          have HK := Lib.hid HS0.out
          have HX := Lib.hid (DcS.start V0b 32)
          replace HS0 := Lib.hid (And.intro (HS0.out.1.below (below1 V0b (.cells #[.int .i64 0, .slice none 0 0] 32))) (HS0.out.2.alloc HS0.out.2.size (.cells #[.int .i64 0, .slice none 0 0] 32)))
          replace HG := Lib.hid ((HG.out.below (below1 V0b (.cells #[.int .i64 0, .slice none 0 0] 32)) (Nat.le_refl _)).more (below1 V0b (.cells #[.int .i64 0, .slice none 0 0] 32)).size)
          obtain ⟨V0ba, hVn⟩ : ∃ V, V0b.alloc (.cells #[.int .i64 0, .slice none 0 0] 32) = V := ⟨_, rfl⟩
          rw [hVn] at HS0 HX HG ⊢
          clear hVn
          try dsimp only
          refine ⟨HS0.out, ?_⟩
          try simp only [Act.put, List.getElem_toArray, List.getElem_cons_succ, List.getElem_cons_zero, List.setIfInBounds_toArray, List.set_cons_zero, List.set_cons_succ]
          refine anyI_one 13 (by kernel_rfl) rfl ?_
          try simp only [List.getElem_toArray, List.getElem_cons_succ, List.getElem_cons_zero]
          refine opE_step ?_
          rw [if_pos (by rfl)]
          go_simp
          go_at_call 13
          refine (C4.out _ _ HS0.out.2 HG.out).mono ?_
          rintro e V0bac ⟨A9, c9, rfl, hb⟩
          replace HS0 := Lib.hid (And.intro (HS0.out.1.below hb) (HS0.out.2.trans (hb.mono HS0.out.2.size)))
          replace HX := Lib.hid (HX.out.below hb)
          clear hb HG
          try dsimp only
          refine ⟨HS0.out, ?_⟩
          try simp only [Act.put, List.getElem_toArray, List.getElem_cons_succ, List.getElem_cons_zero, List.setIfInBounds_toArray, List.set_cons_zero, List.set_cons_succ]
          refine' anyI_take R 14 rfl (v := ?_) (by kernel_rfl) (by rfl) (fun V hV => ?hy) HS0.out ?_
          case hy => ((try dsimp only at hV);  have p1 := hV.1.cell 1 (by rw [Hrs.out]; omega); have p2 := hV.1.cell 2 (by rw [Hrs.out]; omega); have p3 := hV.1.cell 3 (by rw [Hrs.out]; omega); go_simp; try with_reducible rfl)
          try simp only [Act.put, List.getElem_toArray, List.getElem_cons_succ, List.getElem_cons_zero, List.setIfInBounds_toArray, List.set_cons_zero, List.set_cons_succ]
          refine' anyI_free R 16 rfl (v := ?_) (by kernel_rfl) (by rfl) (fun V => ?hy) ?_
          case hy => (go_simp; try with_reducible rfl)
          try simp only [Act.put, List.getElem_toArray, List.getElem_cons_succ, List.getElem_cons_zero, List.setIfInBounds_toArray, List.set_cons_zero, List.set_cons_succ]
          refine' anyI_take R 15 rfl (v := ?_) (by kernel_rfl) (by rfl) (fun V hV => ?hy) HS0.out ?_
          case hy => ((try dsimp only at hV);  have p1 := hV.1.cell 1 (by rw [Hrs.out]; omega); have p2 := hV.1.cell 2 (by rw [Hrs.out]; omega); have p3 := hV.1.cell 3 (by rw [Hrs.out]; omega); go_simp; try with_reducible rfl)
          try simp only [Act.put, List.getElem_toArray, List.getElem_cons_succ, List.getElem_cons_zero, List.setIfInBounds_toArray, List.set_cons_zero, List.set_cons_succ]
          refine anyI_tail (by kernel_rfl) ?_
          try simp only [List.drop_succ_cons, List.drop_zero]
          clear R
          obtain ⟨p0, p1, pb, _⟩ := HX.out.put 0 (.slice A9 0 c9)
          have Hfin := Lib.hid (And.intro (HK.out.1.below pb) (HK.out.2.trans (pb.mono HK.out.2.size)))
          obtain ⟨_, q0, q1, q2⟩ := HX.out
          obtain ⟨q3, q4⟩ := And.intro (q2 0) (q2 1)
          clear p0 p1 pb q2 HK HS0 HX
          go_wp2_with fail
          refine NoPanic.normal ?_
          try simp only [Exit.then]
          refine ‹∀ (a : Act) (w : World), Met _ a w → _› _ _ ?_
          go_meet
          exact ⟨rfl, Hfin.out.1, Hfin.out.2⟩
      · try simp only [List.getElem_toArray, List.getElem_cons_succ, List.getElem_cons_zero]
        refine opE_step ?_
        rw [if_pos (by rfl)]
        go_simp
        have HK := Lib.hid HS0.out
        have HX := Lib.hid (DcS.start V0 32)
        replace HS0 := Lib.hid (And.intro (HS0.out.1.below (below1 V0 (.cells #[.int .i64 0, .slice none 0 0] 32))) (HS0.out.2.alloc HS0.out.2.size (.cells #[.int .i64 0, .slice none 0 0] 32)))
        obtain ⟨V0a, hVn⟩ : ∃ V, V0.alloc (.cells #[.int .i64 0, .slice none 0 0] 32) = V := ⟨_, rfl⟩
        rw [hVn] at HS0 HX ⊢
        clear hVn
        try dsimp only
        refine ⟨HS0.out, ?_⟩
        try simp only [Act.put, List.getElem_toArray, List.getElem_cons_succ, List.getElem_cons_zero, List.setIfInBounds_toArray, List.set_cons_zero, List.set_cons_succ]
        refine anyI_one 12 (by kernel_rfl) rfl ?_
        try simp only [List.getElem_toArray, List.getElem_cons_succ, List.getElem_cons_zero]
        refine opE_step ?_
        rw [if_pos (by rfl)]
        go_simp
        have HG := Lib.hid (rdc_four (heap_alloc_new V0a (.cells #[.slice (some ⟨bk 1, 0, none⟩) 32 32, .slice (some ⟨bk 1, 0, none⟩) 32 32, .slice (some ⟨bk 2, 0, none⟩) 32 32, .slice (some ⟨bk 3, 0, none⟩) 32 32] 22)) (HS0.out.1.len 1 (by rw [Hrs.out]; omega)) (HS0.out.1.len 1 (by rw [Hrs.out]; omega)) (HS0.out.1.len 2 (by rw [Hrs.out]; omega)) (HS0.out.1.len 3 (by rw [Hrs.out]; omega)) (((HS0.out.1.rd 1 (by rw [Hrs.out]; omega)).below (below1 V0a (.cells #[.slice (some ⟨bk 1, 0, none⟩) 32 32, .slice (some ⟨bk 1, 0, none⟩) 32 32, .slice (some ⟨bk 2, 0, none⟩) 32 32, .slice (some ⟨bk 3, 0, none⟩) 32 32] 22)) (Nat.le_refl _)).more (below1 V0a (.cells #[.slice (some ⟨bk 1, 0, none⟩) 32 32, .slice (some ⟨bk 1, 0, none⟩) 32 32, .slice (some ⟨bk 2, 0, none⟩) 32 32, .slice (some ⟨bk 3, 0, none⟩) 32 32] 22)).size) (((HS0.out.1.rd 1 (by rw [Hrs.out]; omega)).below (below1 V0a (.cells #[.slice (some ⟨bk 1, 0, none⟩) 32 32, .slice (some ⟨bk 1, 0, none⟩) 32 32, .slice (some ⟨bk 2, 0, none⟩) 32 32, .slice (some ⟨bk 3, 0, none⟩) 32 32] 22)) (Nat.le_refl _)).more (below1 V0a (.cells #[.slice (some ⟨bk 1, 0, none⟩) 32 32, .slice (some ⟨bk 1, 0, none⟩) 32 32, .slice (some ⟨bk 2, 0, none⟩) 32 32, .slice (some ⟨bk 3, 0, none⟩) 32 32] 22)).size) (((HS0.out.1.rd 2 (by rw [Hrs.out]; omega)).below (below1 V0a (.cells #[.slice (some ⟨bk 1, 0, none⟩) 32 32, .slice (some ⟨bk 1, 0, none⟩) 32 32, .slice (some ⟨bk 2, 0, none⟩) 32 32, .slice (some ⟨bk 3, 0, none⟩) 32 32] 22)) (Nat.le_refl _)).more (below1 V0a (.cells #[.slice (some ⟨bk 1, 0, none⟩) 32 32, .slice (some ⟨bk 1, 0, none⟩) 32 32, .slice (some ⟨bk 2, 0, none⟩) 32 32, .slice (some ⟨bk 3, 0, none⟩) 32 32] 22)).size) (((HS0.out.1.rd 3 (by rw [Hrs.out]; omega)).below (below1 V0a (.cells #[.slice (some ⟨bk 1, 0, none⟩) 32 32, .slice (some ⟨bk 1, 0, none⟩) 32 32, .slice (some ⟨bk 2, 0, none⟩) 32 32, .slice (some ⟨bk 3, 0, none⟩) 32 32] 22)) (Nat.le_refl _)).more (below1 V0a (.cells #[.slice (some ⟨bk 1, 0, none⟩) 32 32, .slice (some ⟨bk 1, 0, none⟩) 32 32, .slice (some ⟨bk 2, 0, none⟩) 32 32, .slice (some ⟨bk 3, 0, none⟩) 32 32] 22)).size))
        replace HS0 := Lib.hid (And.intro (HS0.out.1.below (below1 V0a (.cells #[.slice (some ⟨bk 1, 0, none⟩) 32 32, .slice (some ⟨bk 1, 0, none⟩) 32 32, .slice (some ⟨bk 2, 0, none⟩) 32 32, .slice (some ⟨bk 3, 0, none⟩) 32 32] 22))) (HS0.out.2.alloc HS0.out.2.size (.cells #[.slice (some ⟨bk 1, 0, none⟩) 32 32, .slice (some ⟨bk 1, 0, none⟩) 32 32, .slice (some ⟨bk 2, 0, none⟩) 32 32, .slice (some ⟨bk 3, 0, none⟩) 32 32] 22)))
        replace HX := Lib.hid (HX.out.below (below1 V0a (.cells #[.slice (some ⟨bk 1, 0, none⟩) 32 32, .slice (some ⟨bk 1, 0, none⟩) 32 32, .slice (some ⟨bk 2, 0, none⟩) 32 32, .slice (some ⟨bk 3, 0, none⟩) 32 32] 22)))
        obtain ⟨V0ab, hVn⟩ : ∃ V, V0a.alloc (.cells #[.slice (some ⟨bk 1, 0, none⟩) 32 32, .slice (some ⟨bk 1, 0, none⟩) 32 32, .slice (some ⟨bk 2, 0, none⟩) 32 32, .slice (some ⟨bk 3, 0, none⟩) 32 32] 22) = V := ⟨_, rfl⟩
        rw [hVn] at HS0 HG HX ⊢
        clear hVn
        try dsimp only
        refine ⟨HS0.out, ?_⟩
        try simp only [Act.put, List.getElem_toArray, List.getElem_cons_succ, List.getElem_cons_zero, List.setIfInBounds_toArray, List.set_cons_zero, List.set_cons_succ]
        refine anyI_one 13 (by kernel_rfl) rfl ?_
        try simp only [List.getElem_toArray, List.getElem_cons_succ, List.getElem_cons_zero]
        refine opE_step ?_
        rw [if_pos (by rfl)]
        go_simp
        go_at_call 13
        refine (C4.out _ _ HS0.out.2 HG.out).mono ?_
        rintro e V0abc ⟨A9, c9, rfl, hb⟩
        replace HS0 := Lib.hid (And.intro (HS0.out.1.below hb) (HS0.out.2.trans (hb.mono HS0.out.2.size)))
        replace HX := Lib.hid (HX.out.below hb)
        clear hb HG
        try dsimp only
        refine ⟨HS0.out, ?_⟩
        try simp only [Act.put, List.getElem_toArray, List.getElem_cons_succ, List.getElem_cons_zero, List.setIfInBounds_toArray, List.set_cons_zero, List.set_cons_succ]
        refine' anyI_take R 14 rfl (v := ?_) (by kernel_rfl) (by rfl) (fun V hV => ?hy) HS0.out ?_
        case hy => ((try dsimp only at hV);  have p1 := hV.1.cell 1 (by rw [Hrs.out]; omega); have p2 := hV.1.cell 2 (by rw [Hrs.out]; omega); have p3 := hV.1.cell 3 (by rw [Hrs.out]; omega); go_simp; try with_reducible rfl)
        try simp only [Act.put, List.getElem_toArray, List.getElem_cons_succ, List.getElem_cons_zero, List.setIfInBounds_toArray, List.set_cons_zero, List.set_cons_succ]
        refine' anyI_free R 16 rfl (v := ?_) (by kernel_rfl) (by rfl) (fun V => ?hy) ?_
        case hy => (go_simp; try with_reducible rfl)
        try simp only [Act.put, List.getElem_toArray, List.getElem_cons_succ, List.getElem_cons_zero, List.setIfInBounds_toArray, List.set_cons_zero, List.set_cons_succ]
        refine' anyI_take R 15 rfl (v := ?_) (by kernel_rfl) (by rfl) (fun V hV => ?hy) HS0.out ?_
        case hy => ((try dsimp only at hV);  have p1 := hV.1.cell 1 (by rw [Hrs.out]; omega); have p2 := hV.1.cell 2 (by rw [Hrs.out]; omega); have p3 := hV.1.cell 3 (by rw [Hrs.out]; omega); go_simp; try with_reducible rfl)
        try simp only [Act.put, List.getElem_toArray, List.getElem_cons_succ, List.getElem_cons_zero, List.setIfInBounds_toArray, List.set_cons_zero, List.set_cons_succ]
        refine anyI_tail (by kernel_rfl) ?_
        try simp only [List.drop_succ_cons, List.drop_zero]
        clear R
        obtain ⟨p0, p1, pb, _⟩ := HX.out.put 0 (.slice A9 0 c9)
        have Hfin := Lib.hid (And.intro (HK.out.1.below pb) (HK.out.2.trans (pb.mono HK.out.2.size)))
        obtain ⟨_, q0, q1, q2⟩ := HX.out
        obtain ⟨q3, q4⟩ := And.intro (q2 0) (q2 1)
        clear p0 p1 pb q2 HK HS0 HX
        go_wp2_with fail
        refine NoPanic.normal ?_
        try simp only [Exit.then]
        refine ‹∀ (a : Act) (w : World), Met _ a w → _› _ _ ?_
        go_meet
        exact ⟨rfl, Hfin.out.1, Hfin.out.2⟩
    case rest =>
      clear C4 HFc HPc
      obtain ⟨rfl, _, F⟩ := hcut
      go_wp2_with fail
      (with_reducible refine (Wk.out _ F).mono ?_); rintro e wd ⟨rfl, hbd⟩
      go_wp2_with fail
      go_ret
      exact ⟨rfl, F.trans (hbd.mono F.size)⟩
end Go.Proofs.YtfgiomidlfoonaaDoor
