/- GeomLaws walked. -/
import Derived.Test.YtpbambmjkhadgaaGeomTellsLaw
import Derived.Test.YtpbambmjkhadgaaGeomLawsMath
set_option linter.unusedVariables false
set_option linter.unusedSimpArgs false
namespace Go.Proofs.Ytpbambmjkhadgaa
open Go.RowKit

/-- Three boxes that stay. -/
abbrev GS3 (w0 : World) (B b b' b2 : Nat) (la da ca lb db cb lc dc cc : Int) (W : World) : Prop := W.cell? ⟨b, 0, none⟩ = some (.int .i64 la) ∧ W.cell? ⟨b, 1, none⟩ = some (.int .i64 da) ∧ W.cell? ⟨b, 2, none⟩ = some (.int .i64 ca) ∧ W.cell? ⟨b', 0, none⟩ = some (.int .i64 lb) ∧ W.cell? ⟨b', 1, none⟩ = some (.int .i64 db) ∧ W.cell? ⟨b', 2, none⟩ = some (.int .i64 cb) ∧ W.cell? ⟨b2, 0, none⟩ = some (.int .i64 lc) ∧ W.cell? ⟨b2, 1, none⟩ = some (.int .i64 dc) ∧ W.cell? ⟨b2, 2, none⟩ = some (.int .i64 cc) ∧ Below B w0 W
theorem GS3.drew {w0 W : World} {B b b' b2 : Nat} {la da ca lb db cb lc dc cc : Int} (h : GS3 w0 B b b' b2 la da ca lb db cb lc dc cc W) : GS3 w0 B b b' b2 la da ca lb db cb lc dc cc W.drew := by
  obtain ⟨q1, q2, q3, q4, q5, q6, q7, q8, q9, F⟩ := h
  exact ⟨q1, q2, q3, q4, q5, q6, q7, q8, q9, F.drew⟩
theorem GS3.later {w0 W W' : World} {B b b' b2 : Nat} {la da ca lb db cb lc dc cc : Int} (h : GS3 w0 B b b' b2 la da ca lb db cb lc dc cc W) (hb : Below W.heap.size W W') (hB : B ≤ w0.heap.size := by exact Nat.le_refl _) : GS3 w0 B b b' b2 la da ca lb db cb lc dc cc W' := by
  obtain ⟨q1, q2, q3, q4, q5, q6, q7, q8, q9, F⟩ := h
  obtain ⟨a1, a2, a3⟩ := GAt.below (show GAt W b la da ca from ⟨q1, q2, q3⟩) hb (World.block_lt_of_cell? _ _ q1)
  obtain ⟨r1, r2, r3⟩ := GAt.below (show GAt W b' lb db cb from ⟨q4, q5, q6⟩) hb (World.block_lt_of_cell? _ _ q4)
  obtain ⟨c1, c2, c3⟩ := GAt.below (show GAt W b2 lc dc cc from ⟨q7, q8, q9⟩) hb (World.block_lt_of_cell? _ _ q7)
  exact ⟨a1, a2, a3, r1, r2, r3, c1, c2, c3, F.trans (hb.mono (Nat.le_trans hB F.size))⟩
theorem gs3_start {w0 W : World} (F : Below w0.heap.size w0 W) (la da ca lb db cb lc dc cc : Int) (t : TypeId) :
    GS3 w0 w0.heap.size W.heap.size (W.heap.size + 1) (W.heap.size + 1 + 1) la da ca lb db cb lc dc cc (((W.alloc (.cells #[.int .i64 la, .int .i64 da, .int .i64 ca] t)).alloc (.cells #[.int .i64 lb, .int .i64 db, .int .i64 cb] t)).alloc (.cells #[.int .i64 lc, .int .i64 dc, .int .i64 cc] t)) := by
  have G := gat_new W la da ca t (0, 0)
  have G2 := (G.below (below1 _ (.cells #[.int .i64 lb, .int .i64 db, .int .i64 cb] t)) (by simp)).below (below1 _ (.cells #[.int .i64 lc, .int .i64 dc, .int .i64 cc] t)) (by simp; omega)
  have K := gat_new (W.alloc (.cells #[.int .i64 la, .int .i64 da, .int .i64 ca] t)) lb db cb t (0, 0)
  have K2 := K.below (below1 _ (.cells #[.int .i64 lc, .int .i64 dc, .int .i64 cc] t)) (by simp)
  have L := gat_new ((W.alloc (.cells #[.int .i64 la, .int .i64 da, .int .i64 ca] t)).alloc (.cells #[.int .i64 lb, .int .i64 db, .int .i64 cb] t)) lc dc cc t (0, 0)
  rw [show (W.alloc (.cells #[.int .i64 la, .int .i64 da, .int .i64 ca] t)).heap.size = W.heap.size + 1 by simp] at K2
  rw [show ((W.alloc (.cells #[.int .i64 la, .int .i64 da, .int .i64 ca] t)).alloc (.cells #[.int .i64 lb, .int .i64 db, .int .i64 cb] t)).heap.size = W.heap.size + 1 + 1 by simp] at L
  exact ⟨G2.1, G2.2.1, G2.2.2, K2.1, K2.2.1, K2.2.2, L.1, L.2.1, L.2.2, F.trans ((below3 W _ _ _).mono F.size)⟩
set_option maxRecDepth 100000 in
set_option maxHeartbeats 6400000 in
theorem geomlaws (l m n : Int) (w : World) (hl : (-9223372036854775808 ≤ l ∧ l ≤ 9223372036854775807)) (hm : (-9223372036854775808 ≤ m ∧ m ≤ 9223372036854775807)) (hn : (-9223372036854775808 ≤ n ∧ n ≤ 9223372036854775807)) :
    Calls Try.prog 5 #[.int .i64 l, .int .i64 m, .int .i64 n] w fun e w' => e = .returned (.bool true) ∧ Below w.heap.size w w' := by
  have HA := Lib.hid (fun W => playGood_any l W hl)
  have HB := Lib.hid (fun W => playGood_any m W hm)
  have HC := Lib.hid (fun W => playGood_any n W hn)
  have Ka := Lib.hid (go_ok l)
  have Kb := Lib.hid (go_ok m)
  have Kc := Lib.hid (go_ok n)
  generalize goL l = la at HA Ka
  generalize goD l = da at HA Ka
  generalize goC l = ca at HA Ka
  generalize goL m = lb at HB Kb
  generalize goD m = db at HB Kb
  generalize goC m = cb at HB Kb
  generalize goL n = lc at HC Kc
  generalize goD n = dc at HC Kc
  generalize goC n = cc at HC Kc
  have ba := gOk_bd Ka.out
  have bb := gOk_bd Kb.out
  have bc := gOk_bd Kc.out
  have ila : (-9223372036854775808 ≤ la ∧ la ≤ 9223372036854775807) := by omega
  have ida : (-9223372036854775808 ≤ da ∧ da ≤ 9223372036854775807) := by omega
  have ica : (-9223372036854775808 ≤ ca ∧ ca ≤ 9223372036854775807) := by omega
  have ilb : (-9223372036854775808 ≤ lb ∧ lb ≤ 9223372036854775807) := by omega
  have idb : (-9223372036854775808 ≤ db ∧ db ≤ 9223372036854775807) := by omega
  have icb : (-9223372036854775808 ≤ cb ∧ cb ≤ 9223372036854775807) := by omega
  have ilc : (-9223372036854775808 ≤ lc ∧ lc ≤ 9223372036854775807) := by omega
  have idc : (-9223372036854775808 ≤ dc ∧ dc ≤ 9223372036854775807) := by omega
  have icc : (-9223372036854775808 ≤ cc ∧ cc ≤ 9223372036854775807) := by omega
  have Wk := Lib.hid (fun W => wakesGeom_any W)
  have Naa := Lib.hid (fun W => can_any la da ca la da ca W ila ida ica ila ida ica)
  have Nab := Lib.hid (fun W => can_any la da ca lb db cb W ila ida ica ilb idb icb)
  have Nba := Lib.hid (fun W => can_any lb db cb la da ca W ilb idb icb ila ida ica)
  have Nbc := Lib.hid (fun W => can_any lb db cb lc dc cc W ilb idb icb ilc idc icc)
  have Nac := Lib.hid (fun W => can_any la da ca lc dc cc W ila ida ica ilc idc icc)
  rw [gCan_self] at Naa
  have Wa := Lib.hid (fun W => width_any la da ca W ila ida ica)
  have Ua := Lib.hid (fun W => budget_any la da ca W ila ida ica)
  have Pa := Lib.hid (fun W => capacity_any la da ca W ila ida ica)
  have Ub := Lib.hid (fun W => budget_any lb db cb W ilb idb icb)
  have Pb := Lib.hid (fun W => capacity_any lb db cb W ilb idb icb)
  have L2 := Lib.hid (gWid_gBud Ka.out)
  have L3 := Lib.hid (fun h => gCan_grows (l := la) (d := da) (c := ca) (l' := lb) (d' := db) (c' := cb) h)
  have L4 := Lib.hid (fun h => gCan_back (l := la) (d := da) (c := ca) (l' := lb) (d' := db) (c' := cb) h)
  have L5 := Lib.hid (fun h k => gCan_on (l := la) (d := da) (c := ca) (l' := lb) (d' := db) (c' := cb) (l2 := lc) (d2 := dc) (c2 := cc) h k)
  have L6 := Lib.hid (gNe_cases la da ca lc dc cc)
  have bw := gWid_bd la da ca
  have bu := gBud_bd la da ca
  have bv := gBud_bd lb db cb
  generalize gWid la da ca = wd at Wa L2 bw
  generalize gBud la da ca = ua at Ua L2 L3 bu
  generalize gBud lb db cb = ub at Ub L3 bv
  generalize gCap la da ca = pa at Pa L3
  generalize gCap lb db cb = pb at Pb L3
  generalize gCan la da ca lb db cb = nab at Nab L3 L4 L5
  generalize gCan lb db cb la da ca = nba at Nba L4
  generalize gCan lb db cb lc dc cc = nbc at Nbc L5
  generalize gCan la da ca lc dc cc = nac at Nac L5
  generalize (!gEq la da ca lc dc cc) = ne at L5 L6
  clear Ka Kb Kc hl hm hn ila ida ica ilb idb icb ilc idc icc
  go_enter Try.func5, Try.ntmps5
  go_wp2_with fail
  (with_reducible refine (HA.out _).mono ?_); rintro e w1 ⟨rfl, F1⟩
  go_wp2_with fail
  (with_reducible refine (HB.out _).mono ?_); rintro e w2 ⟨rfl, hb⟩
  have F2 := F1.trans (hb.mono F1.size)
  clear hb F1
  go_wp2_with fail
  (with_reducible refine (HC.out _).mono ?_); rintro e w3 ⟨rfl, hb⟩
  have F3 := F2.trans (hb.mono F2.size)
  clear hb F2 HA HB HC
  have S0 := gs3_start F3 la da ca lb db cb lc dc cc 25
  go_upto_region 2 with fail
  go_name_world wz hwz
  rw [hwz] at S0
  clear hwz F3
  generalize w3.heap.size = p at S0 ⊢
  have hw1 : IntKind.i64.wrap (wd + ua) = wd + ua := IntWalk.i64_in _ (by omega)
  have hw2 : IntKind.i64.wrap (la - 4) = la - 4 := IntWalk.i64_in _ (by omega)
  refine wp_region_noPanic (region_ord 21 [] (fun V => GS3 w w.heap.size p (p + 1) (p + 1 + 1) la da ca lb db cb lc dc cc V) (by kernel_rfl) (by kernel_rfl) (fun _ _ _ _ _ h => h) fun R => ?_)
  change anyI _ _ _ _ _ _ 21 _ _ wz.drew
  have HS0 := Lib.hid (show (fun V => GS3 w w.heap.size p (p + 1) (p + 1 + 1) la da ca lb db cb lc dc cc V) wz.drew from GS3.drew S0)
  refine' anyI_take R 0 rfl (v := ?_) (by kernel_rfl) (by rfl) (fun V hV => ?hy) HS0.out ?_
  case hy => ((try dsimp only at hV);  obtain ⟨q1, q2, q3, q4, q5, q6, q7, q8, q9, _⟩ := hV; go_simp; try with_reducible rfl)
  try simp only [Act.put, List.getElem_toArray, List.getElem_cons_succ, List.getElem_cons_zero, List.setIfInBounds_toArray, List.set_cons_zero, List.set_cons_succ]
  refine' anyI_take R 1 rfl (v := ?_) (by kernel_rfl) (by rfl) (fun V hV => ?hy) HS0.out ?_
  case hy => ((try dsimp only at hV);  obtain ⟨q1, q2, q3, q4, q5, q6, q7, q8, q9, _⟩ := hV; go_simp; try with_reducible rfl)
  try simp only [Act.put, List.getElem_toArray, List.getElem_cons_succ, List.getElem_cons_zero, List.setIfInBounds_toArray, List.set_cons_zero, List.set_cons_succ]
  refine anyI_one 2 (by kernel_rfl) rfl ?_
  try simp only [List.getElem_toArray, List.getElem_cons_succ, List.getElem_cons_zero]
  refine opE_step ?_
  rw [if_pos (by rfl)]
  go_simp
  go_at_call 10
  refine (Naa.out _).mono ?_
  rintro e w2 ⟨rfl, hb⟩
  replace HS0 := Lib.hid (GS3.later HS0.out hb)
  clear hb
  dsimp only
  refine ⟨HS0.out, ?_⟩
  try simp only [Act.put, List.getElem_toArray, List.getElem_cons_succ, List.getElem_cons_zero, List.setIfInBounds_toArray, List.set_cons_zero, List.set_cons_succ]
  refine' anyI_take R 3 rfl (v := ?_) (by kernel_rfl) (by rfl) (fun V hV => ?hy) HS0.out ?_
  case hy => ((try dsimp only at hV);  obtain ⟨q1, q2, q3, q4, q5, q6, q7, q8, q9, _⟩ := hV; go_simp; try with_reducible rfl)
  try simp only [Act.put, List.getElem_toArray, List.getElem_cons_succ, List.getElem_cons_zero, List.setIfInBounds_toArray, List.set_cons_zero, List.set_cons_succ]
  refine' anyI_take R 4 rfl (v := ?_) (by kernel_rfl) (by rfl) (fun V hV => ?hy) HS0.out ?_
  case hy => ((try dsimp only at hV);  obtain ⟨q1, q2, q3, q4, q5, q6, q7, q8, q9, _⟩ := hV; go_simp; try with_reducible rfl)
  try simp only [Act.put, List.getElem_toArray, List.getElem_cons_succ, List.getElem_cons_zero, List.setIfInBounds_toArray, List.set_cons_zero, List.set_cons_succ]
  refine' anyI_take R 6 rfl (v := ?_) (by kernel_rfl) (by rfl) (fun V hV => ?hy) HS0.out ?_
  case hy => ((try dsimp only at hV);  obtain ⟨q1, q2, q3, q4, q5, q6, q7, q8, q9, _⟩ := hV; go_simp; try with_reducible rfl)
  try simp only [Act.put, List.getElem_toArray, List.getElem_cons_succ, List.getElem_cons_zero, List.setIfInBounds_toArray, List.set_cons_zero, List.set_cons_succ]
  refine' anyI_take R 9 rfl (v := ?_) (by kernel_rfl) (by rfl) (fun V hV => ?hy) HS0.out ?_
  case hy => ((try dsimp only at hV);  obtain ⟨q1, q2, q3, q4, q5, q6, q7, q8, q9, _⟩ := hV; go_simp; try with_reducible rfl)
  try simp only [Act.put, List.getElem_toArray, List.getElem_cons_succ, List.getElem_cons_zero, List.setIfInBounds_toArray, List.set_cons_zero, List.set_cons_succ]
  refine' anyI_take R 10 rfl (v := ?_) (by kernel_rfl) (by rfl) (fun V hV => ?hy) HS0.out ?_
  case hy => ((try dsimp only at hV);  obtain ⟨q1, q2, q3, q4, q5, q6, q7, q8, q9, _⟩ := hV; go_simp; try with_reducible rfl)
  try simp only [Act.put, List.getElem_toArray, List.getElem_cons_succ, List.getElem_cons_zero, List.setIfInBounds_toArray, List.set_cons_zero, List.set_cons_succ]
  refine anyI_one 5 (by kernel_rfl) rfl ?_
  try simp only [List.getElem_toArray, List.getElem_cons_succ, List.getElem_cons_zero]
  refine opE_step ?_
  rw [if_pos (by rfl)]
  go_simp
  go_at_call 8
  refine (Wa.out _).mono ?_
  rintro e w5 ⟨rfl, hb⟩
  replace HS0 := Lib.hid (GS3.later HS0.out hb)
  clear hb
  dsimp only
  refine ⟨HS0.out, ?_⟩
  try simp only [Act.put, List.getElem_toArray, List.getElem_cons_succ, List.getElem_cons_zero, List.setIfInBounds_toArray, List.set_cons_zero, List.set_cons_succ]
  refine anyI_one 7 (by kernel_rfl) rfl ?_
  try simp only [List.getElem_toArray, List.getElem_cons_succ, List.getElem_cons_zero]
  refine opE_step ?_
  rw [if_pos (by rfl)]
  go_simp
  go_at_call 7
  refine (Ua.out _).mono ?_
  rintro e w7 ⟨rfl, hb⟩
  replace HS0 := Lib.hid (GS3.later HS0.out hb)
  clear hb
  dsimp only
  refine ⟨HS0.out, ?_⟩
  try simp only [Act.put, List.getElem_toArray, List.getElem_cons_succ, List.getElem_cons_zero, List.setIfInBounds_toArray, List.set_cons_zero, List.set_cons_succ]
  refine anyI_take R 8 rfl (v := .int .i64 (wd + ua)) (by kernel_rfl) (by rfl) (fun V hV => ?_) HS0.out ?_
  · (try dsimp only at hV); obtain ⟨q1, q2, q3, q4, q5, q6, q7, q8, q9, _⟩ := hV; go_simp; all_goals (first | rfl | (simp; omega) | omega)
  try simp only [Act.put, List.getElem_toArray, List.getElem_cons_succ, List.getElem_cons_zero, List.setIfInBounds_toArray, List.set_cons_zero, List.set_cons_succ]
  refine anyI_take R 11 rfl (v := .bool false) (by kernel_rfl) (by rfl) (fun V hV => ?_) HS0.out ?_
  · (try dsimp only at hV); obtain ⟨q1, q2, q3, q4, q5, q6, q7, q8, q9, _⟩ := hV; go_simp; all_goals (have h2 := L2.out; first | rfl | (simp; omega) | omega)
  try simp only [Act.put, List.getElem_toArray, List.getElem_cons_succ, List.getElem_cons_zero, List.setIfInBounds_toArray, List.set_cons_zero, List.set_cons_succ]
  refine' anyI_take R 12 rfl (v := ?_) (by kernel_rfl) (by rfl) (fun V hV => ?hy) HS0.out ?_
  case hy => ((try dsimp only at hV);  obtain ⟨q1, q2, q3, q4, q5, q6, q7, q8, q9, _⟩ := hV; go_simp; try with_reducible rfl)
  try simp only [Act.put, List.getElem_toArray, List.getElem_cons_succ, List.getElem_cons_zero, List.setIfInBounds_toArray, List.set_cons_zero, List.set_cons_succ]
  refine' anyI_take R 13 rfl (v := ?_) (by kernel_rfl) (by rfl) (fun V hV => ?hy) HS0.out ?_
  case hy => ((try dsimp only at hV);  obtain ⟨q1, q2, q3, q4, q5, q6, q7, q8, q9, _⟩ := hV; go_simp; try with_reducible rfl)
  try simp only [Act.put, List.getElem_toArray, List.getElem_cons_succ, List.getElem_cons_zero, List.setIfInBounds_toArray, List.set_cons_zero, List.set_cons_succ]
  refine' anyI_take R 14 rfl (v := ?_) (by kernel_rfl) (by rfl) (fun V hV => ?hy) HS0.out ?_
  case hy => ((try dsimp only at hV);  obtain ⟨q1, q2, q3, q4, q5, q6, q7, q8, q9, _⟩ := hV; go_simp; try with_reducible rfl)
  try simp only [Act.put, List.getElem_toArray, List.getElem_cons_succ, List.getElem_cons_zero, List.setIfInBounds_toArray, List.set_cons_zero, List.set_cons_succ]
  refine' anyI_take R 16 rfl (v := ?_) (by kernel_rfl) (by rfl) (fun V hV => ?hy) HS0.out ?_
  case hy => ((try dsimp only at hV);  obtain ⟨q1, q2, q3, q4, q5, q6, q7, q8, q9, _⟩ := hV; go_simp; try with_reducible rfl)
  try simp only [Act.put, List.getElem_toArray, List.getElem_cons_succ, List.getElem_cons_zero, List.setIfInBounds_toArray, List.set_cons_zero, List.set_cons_succ]
  refine' anyI_take R 17 rfl (v := ?_) (by kernel_rfl) (by rfl) (fun V hV => ?hy) HS0.out ?_
  case hy => ((try dsimp only at hV);  obtain ⟨q1, q2, q3, q4, q5, q6, q7, q8, q9, _⟩ := hV; go_simp; try with_reducible rfl)
  try simp only [Act.put, List.getElem_toArray, List.getElem_cons_succ, List.getElem_cons_zero, List.setIfInBounds_toArray, List.set_cons_zero, List.set_cons_succ]
  refine' anyI_take R 18 rfl (v := ?_) (by kernel_rfl) (by rfl) (fun V hV => ?hy) HS0.out ?_
  case hy => ((try dsimp only at hV);  obtain ⟨q1, q2, q3, q4, q5, q6, q7, q8, q9, _⟩ := hV; go_simp; try with_reducible rfl)
  try simp only [Act.put, List.getElem_toArray, List.getElem_cons_succ, List.getElem_cons_zero, List.setIfInBounds_toArray, List.set_cons_zero, List.set_cons_succ]
  refine anyI_one 15 (by kernel_rfl) rfl ?_
  try simp only [List.getElem_toArray, List.getElem_cons_succ, List.getElem_cons_zero]
  refine opE_step ?_
  rw [if_pos (by rfl)]
  go_simp
  go_at_call 7
  refine (Ua.out _).mono ?_
  rintro e w15 ⟨rfl, hb⟩
  replace HS0 := Lib.hid (GS3.later HS0.out hb)
  clear hb
  dsimp only
  refine ⟨HS0.out, ?_⟩
  try simp only [Act.put, List.getElem_toArray, List.getElem_cons_succ, List.getElem_cons_zero, List.setIfInBounds_toArray, List.set_cons_zero, List.set_cons_succ]
  refine anyI_take R 19 rfl (v := .bool false) (by kernel_rfl) (by rfl) (fun V hV => ?_) HS0.out ?_
  · (try dsimp only at hV); obtain ⟨q1, q2, q3, q4, q5, q6, q7, q8, q9, _⟩ := hV; go_simp; all_goals (have h2 := L2.out; first | rfl | (simp; omega) | omega)
  try simp only [Act.put, List.getElem_toArray, List.getElem_cons_succ, List.getElem_cons_zero, List.setIfInBounds_toArray, List.set_cons_zero, List.set_cons_succ]
  refine' anyI_take R 20 rfl (v := ?_) (by kernel_rfl) (by rfl) (fun V hV => ?hy) HS0.out ?_
  case hy => ((try dsimp only at hV);  obtain ⟨q1, q2, q3, q4, q5, q6, q7, q8, q9, _⟩ := hV; go_simp; try with_reducible rfl)
  try simp only [Act.put, List.getElem_toArray, List.getElem_cons_succ, List.getElem_cons_zero, List.setIfInBounds_toArray, List.set_cons_zero, List.set_cons_succ]
  refine anyI_tail (by kernel_rfl) ?_
  try simp only [List.drop_succ_cons, List.drop_zero]
  clear R
  go_wp2_with fail
  refine NoPanic.normal ?_
  have S0 := HS0.out
  clear HS0 hw1 hw2
  obtain ⟨q1, q2, q3, q4, q5, q6, q7, q8, q9, F⟩ := S0
  go_wp2_with fail
  (with_reducible refine (Nab.out _).mono ?_); rintro e w4 ⟨rfl, hb⟩
  have S4 := GS3.later (show GS3 w w.heap.size p (p + 1) (p + 1 + 1) la da ca lb db cb lc dc cc _ from ⟨q1, q2, q3, q4, q5, q6, q7, q8, q9, F⟩) hb
  clear hb q1 q2 q3 q4 q5 q6 q7 q8 q9 F
  cases nab
  · go_wp2_with fail
    (with_reducible refine (Wk.out _).mono ?_); rintro e w5 ⟨rfl, hb⟩
    have S5 := GS3.later S4 hb
    go_wp2_with fail
    go_ret
    exact ⟨rfl, S5.2.2.2.2.2.2.2.2.2⟩
  · have L3' := Lib.hid (L3.out rfl)
    have L4' := Lib.hid (L4.out rfl)
    have L5' := Lib.hid (L5.out rfl)
    clear L3 L4 L5
    go_upto_region 6 with fail
    have S0 := S4
    clear S4
    rename World => wz
    refine wp_region_noPanic (region_ord 19 [] (fun V => GS3 w w.heap.size p (p + 1) (p + 1 + 1) la da ca lb db cb lc dc cc V) (by kernel_rfl) (by kernel_rfl) (fun _ _ _ _ _ h => h) fun R => ?_)
    change anyI _ _ _ _ _ _ 19 _ _ wz.drew
    have HS0 := Lib.hid (show (fun V => GS3 w w.heap.size p (p + 1) (p + 1 + 1) la da ca lb db cb lc dc cc V) wz.drew from GS3.drew S0)
    refine' anyI_take R 0 rfl (v := ?_) (by kernel_rfl) (by rfl) (fun V hV => ?hy) HS0.out ?_
    case hy => ((try dsimp only at hV);  obtain ⟨q1, q2, q3, q4, q5, q6, q7, q8, q9, _⟩ := hV; go_simp; try with_reducible rfl)
    try simp only [Act.put, List.getElem_toArray, List.getElem_cons_succ, List.getElem_cons_zero, List.setIfInBounds_toArray, List.set_cons_zero, List.set_cons_succ]
    refine' anyI_take R 2 rfl (v := ?_) (by kernel_rfl) (by rfl) (fun V hV => ?hy) HS0.out ?_
    case hy => ((try dsimp only at hV);  obtain ⟨q1, q2, q3, q4, q5, q6, q7, q8, q9, _⟩ := hV; go_simp; try with_reducible rfl)
    try simp only [Act.put, List.getElem_toArray, List.getElem_cons_succ, List.getElem_cons_zero, List.setIfInBounds_toArray, List.set_cons_zero, List.set_cons_succ]
    refine anyI_one 1 (by kernel_rfl) rfl ?_
    try simp only [List.getElem_toArray, List.getElem_cons_succ, List.getElem_cons_zero]
    refine opE_step ?_
    rw [if_pos (by rfl)]
    go_simp
    go_at_call 9
    refine (Pb.out _).mono ?_
    rintro e w1 ⟨rfl, hb⟩
    replace HS0 := Lib.hid (GS3.later HS0.out hb)
    clear hb
    dsimp only
    refine ⟨HS0.out, ?_⟩
    try simp only [Act.put, List.getElem_toArray, List.getElem_cons_succ, List.getElem_cons_zero, List.setIfInBounds_toArray, List.set_cons_zero, List.set_cons_succ]
    refine anyI_one 3 (by kernel_rfl) rfl ?_
    try simp only [List.getElem_toArray, List.getElem_cons_succ, List.getElem_cons_zero]
    refine opE_step ?_
    rw [if_pos (by rfl)]
    go_simp
    go_at_call 9
    refine (Pa.out _).mono ?_
    rintro e w3 ⟨rfl, hb⟩
    replace HS0 := Lib.hid (GS3.later HS0.out hb)
    clear hb
    dsimp only
    refine ⟨HS0.out, ?_⟩
    try simp only [Act.put, List.getElem_toArray, List.getElem_cons_succ, List.getElem_cons_zero, List.setIfInBounds_toArray, List.set_cons_zero, List.set_cons_succ]
    refine anyI_take R 4 rfl (v := .bool false) (by kernel_rfl) (by rfl) (fun V hV => ?_) HS0.out ?_
    · (try dsimp only at hV); obtain ⟨q1, q2, q3, q4, q5, q6, q7, q8, q9, _⟩ := hV; go_simp; all_goals (have h3 := L3'.out; first | rfl | (simp; omega) | omega)
    try simp only [Act.put, List.getElem_toArray, List.getElem_cons_succ, List.getElem_cons_zero, List.setIfInBounds_toArray, List.set_cons_zero, List.set_cons_succ]
    refine' anyI_take R 5 rfl (v := ?_) (by kernel_rfl) (by rfl) (fun V hV => ?hy) HS0.out ?_
    case hy => ((try dsimp only at hV);  obtain ⟨q1, q2, q3, q4, q5, q6, q7, q8, q9, _⟩ := hV; go_simp; try with_reducible rfl)
    try simp only [Act.put, List.getElem_toArray, List.getElem_cons_succ, List.getElem_cons_zero, List.setIfInBounds_toArray, List.set_cons_zero, List.set_cons_succ]
    refine' anyI_take R 6 rfl (v := ?_) (by kernel_rfl) (by rfl) (fun V hV => ?hy) HS0.out ?_
    case hy => ((try dsimp only at hV);  obtain ⟨q1, q2, q3, q4, q5, q6, q7, q8, q9, _⟩ := hV; go_simp; try with_reducible rfl)
    try simp only [Act.put, List.getElem_toArray, List.getElem_cons_succ, List.getElem_cons_zero, List.setIfInBounds_toArray, List.set_cons_zero, List.set_cons_succ]
    refine' anyI_take R 8 rfl (v := ?_) (by kernel_rfl) (by rfl) (fun V hV => ?hy) HS0.out ?_
    case hy => ((try dsimp only at hV);  obtain ⟨q1, q2, q3, q4, q5, q6, q7, q8, q9, _⟩ := hV; go_simp; try with_reducible rfl)
    try simp only [Act.put, List.getElem_toArray, List.getElem_cons_succ, List.getElem_cons_zero, List.setIfInBounds_toArray, List.set_cons_zero, List.set_cons_succ]
    refine anyI_one 7 (by kernel_rfl) rfl ?_
    try simp only [List.getElem_toArray, List.getElem_cons_succ, List.getElem_cons_zero]
    refine opE_step ?_
    rw [if_pos (by rfl)]
    go_simp
    go_at_call 7
    refine (Ub.out _).mono ?_
    rintro e w7 ⟨rfl, hb⟩
    replace HS0 := Lib.hid (GS3.later HS0.out hb)
    clear hb
    dsimp only
    refine ⟨HS0.out, ?_⟩
    try simp only [Act.put, List.getElem_toArray, List.getElem_cons_succ, List.getElem_cons_zero, List.setIfInBounds_toArray, List.set_cons_zero, List.set_cons_succ]
    refine anyI_one 9 (by kernel_rfl) rfl ?_
    try simp only [List.getElem_toArray, List.getElem_cons_succ, List.getElem_cons_zero]
    refine opE_step ?_
    rw [if_pos (by rfl)]
    go_simp
    go_at_call 7
    refine (Ua.out _).mono ?_
    rintro e w9 ⟨rfl, hb⟩
    replace HS0 := Lib.hid (GS3.later HS0.out hb)
    clear hb
    dsimp only
    refine ⟨HS0.out, ?_⟩
    try simp only [Act.put, List.getElem_toArray, List.getElem_cons_succ, List.getElem_cons_zero, List.setIfInBounds_toArray, List.set_cons_zero, List.set_cons_succ]
    refine anyI_take R 10 rfl (v := .bool false) (by kernel_rfl) (by rfl) (fun V hV => ?_) HS0.out ?_
    · (try dsimp only at hV); obtain ⟨q1, q2, q3, q4, q5, q6, q7, q8, q9, _⟩ := hV; go_simp; all_goals (have h3 := L3'.out; first | rfl | (simp; omega) | omega)
    try simp only [Act.put, List.getElem_toArray, List.getElem_cons_succ, List.getElem_cons_zero, List.setIfInBounds_toArray, List.set_cons_zero, List.set_cons_succ]
    refine' anyI_take R 11 rfl (v := ?_) (by kernel_rfl) (by rfl) (fun V hV => ?hy) HS0.out ?_
    case hy => ((try dsimp only at hV);  obtain ⟨q1, q2, q3, q4, q5, q6, q7, q8, q9, _⟩ := hV; go_simp; try with_reducible rfl)
    try simp only [Act.put, List.getElem_toArray, List.getElem_cons_succ, List.getElem_cons_zero, List.setIfInBounds_toArray, List.set_cons_zero, List.set_cons_succ]
    refine' anyI_take R 12 rfl (v := ?_) (by kernel_rfl) (by rfl) (fun V hV => ?hy) HS0.out ?_
    case hy => ((try dsimp only at hV);  obtain ⟨q1, q2, q3, q4, q5, q6, q7, q8, q9, _⟩ := hV; go_simp; try with_reducible rfl)
    try simp only [Act.put, List.getElem_toArray, List.getElem_cons_succ, List.getElem_cons_zero, List.setIfInBounds_toArray, List.set_cons_zero, List.set_cons_succ]
    refine' anyI_take R 13 rfl (v := ?_) (by kernel_rfl) (by rfl) (fun V hV => ?hy) HS0.out ?_
    case hy => ((try dsimp only at hV);  obtain ⟨q1, q2, q3, q4, q5, q6, q7, q8, q9, _⟩ := hV; go_simp; try with_reducible rfl)
    try simp only [Act.put, List.getElem_toArray, List.getElem_cons_succ, List.getElem_cons_zero, List.setIfInBounds_toArray, List.set_cons_zero, List.set_cons_succ]
    refine' anyI_take R 14 rfl (v := ?_) (by kernel_rfl) (by rfl) (fun V hV => ?hy) HS0.out ?_
    case hy => ((try dsimp only at hV);  obtain ⟨q1, q2, q3, q4, q5, q6, q7, q8, q9, _⟩ := hV; go_simp; try with_reducible rfl)
    try simp only [Act.put, List.getElem_toArray, List.getElem_cons_succ, List.getElem_cons_zero, List.setIfInBounds_toArray, List.set_cons_zero, List.set_cons_succ]
    refine' anyI_take R 15 rfl (v := ?_) (by kernel_rfl) (by rfl) (fun V hV => ?hy) HS0.out ?_
    case hy => ((try dsimp only at hV);  obtain ⟨q1, q2, q3, q4, q5, q6, q7, q8, q9, _⟩ := hV; go_simp; try with_reducible rfl)
    try simp only [Act.put, List.getElem_toArray, List.getElem_cons_succ, List.getElem_cons_zero, List.setIfInBounds_toArray, List.set_cons_zero, List.set_cons_succ]
    refine' anyI_take R 16 rfl (v := ?_) (by kernel_rfl) (by rfl) (fun V hV => ?hy) HS0.out ?_
    case hy => ((try dsimp only at hV);  obtain ⟨q1, q2, q3, q4, q5, q6, q7, q8, q9, _⟩ := hV; go_simp; try with_reducible rfl)
    try simp only [Act.put, List.getElem_toArray, List.getElem_cons_succ, List.getElem_cons_zero, List.setIfInBounds_toArray, List.set_cons_zero, List.set_cons_succ]
    refine anyI_take R 17 rfl (v := .bool false) (by kernel_rfl) (by rfl) (fun V hV => ?_) HS0.out ?_
    · (try dsimp only at hV); obtain ⟨q1, q2, q3, q4, q5, q6, q7, q8, q9, _⟩ := hV; go_simp; all_goals (have h3 := L3'.out; first | rfl | (simp; omega) | omega)
    try simp only [Act.put, List.getElem_toArray, List.getElem_cons_succ, List.getElem_cons_zero, List.setIfInBounds_toArray, List.set_cons_zero, List.set_cons_succ]
    refine' anyI_take R 18 rfl (v := ?_) (by kernel_rfl) (by rfl) (fun V hV => ?hy) HS0.out ?_
    case hy => ((try dsimp only at hV);  obtain ⟨q1, q2, q3, q4, q5, q6, q7, q8, q9, _⟩ := hV; go_simp; try with_reducible rfl)
    try simp only [Act.put, List.getElem_toArray, List.getElem_cons_succ, List.getElem_cons_zero, List.setIfInBounds_toArray, List.set_cons_zero, List.set_cons_succ]
    refine anyI_tail (by kernel_rfl) ?_
    try simp only [List.drop_succ_cons, List.drop_zero]
    clear R
    go_wp2_with fail
    refine NoPanic.normal ?_
    have S6 := HS0.out
    clear HS0 L3'
    go_upto_region 8 with fail
    go_cut [76] (fun v W => v = .bool false ∧ GS3 w w.heap.size p (p + 1) (p + 1 + 1) la da ca lb db cb lc dc cc W)
    case first =>
      rename World => wz
      by_cases hll : la = lb
      · obtain rfl : la = lb := hll
        by_cases hdd : da = db
        · obtain rfl : da = db := hdd
          obtain rfl : nba = true := L4'.out.trans (by simp)
          have S0 := S6
          clear S6
          refine wp_region_noPanic (region_ord 16 [] (fun V => GS3 w w.heap.size p (p + 1) (p + 1 + 1) la da ca la da cb lc dc cc V) (by kernel_rfl) (by kernel_rfl) (fun _ _ _ _ _ h => h) fun R => ?_)
          change anyI _ _ _ _ _ _ 16 _ _ wz.drew
          have HS0 := Lib.hid (show (fun V => GS3 w w.heap.size p (p + 1) (p + 1 + 1) la da ca la da cb lc dc cc V) wz.drew from GS3.drew S0)
          refine' anyI_take R 0 rfl (v := ?_) (by kernel_rfl) (by rfl) (fun V hV => ?hy) HS0.out ?_
          case hy => ((try dsimp only at hV);  obtain ⟨q1, q2, q3, q4, q5, q6, q7, q8, q9, _⟩ := hV; go_simp; try with_reducible rfl)
          try simp only [Act.put, List.getElem_toArray, List.getElem_cons_succ, List.getElem_cons_zero, List.setIfInBounds_toArray, List.set_cons_zero, List.set_cons_succ]
          refine' anyI_take R 1 rfl (v := ?_) (by kernel_rfl) (by rfl) (fun V hV => ?hy) HS0.out ?_
          case hy => ((try dsimp only at hV);  obtain ⟨q1, q2, q3, q4, q5, q6, q7, q8, q9, _⟩ := hV; go_simp; try with_reducible rfl)
          try simp only [Act.put, List.getElem_toArray, List.getElem_cons_succ, List.getElem_cons_zero, List.setIfInBounds_toArray, List.set_cons_zero, List.set_cons_succ]
          refine' anyI_take R 3 rfl (v := ?_) (by kernel_rfl) (by rfl) (fun V hV => ?hy) HS0.out ?_
          case hy => ((try dsimp only at hV);  obtain ⟨q1, q2, q3, q4, q5, q6, q7, q8, q9, _⟩ := hV; go_simp; try with_reducible rfl)
          try simp only [Act.put, List.getElem_toArray, List.getElem_cons_succ, List.getElem_cons_zero, List.setIfInBounds_toArray, List.set_cons_zero, List.set_cons_succ]
          refine' anyI_take R 4 rfl (v := ?_) (by kernel_rfl) (by rfl) (fun V hV => ?hy) HS0.out ?_
          case hy => ((try dsimp only at hV);  obtain ⟨q1, q2, q3, q4, q5, q6, q7, q8, q9, _⟩ := hV; go_simp; try with_reducible rfl)
          try simp only [Act.put, List.getElem_toArray, List.getElem_cons_succ, List.getElem_cons_zero, List.setIfInBounds_toArray, List.set_cons_zero, List.set_cons_succ]
          refine' anyI_take R 5 rfl (v := ?_) (by kernel_rfl) (by rfl) (fun V hV => ?hy) HS0.out ?_
          case hy => ((try dsimp only at hV);  obtain ⟨q1, q2, q3, q4, q5, q6, q7, q8, q9, _⟩ := hV; go_simp; try with_reducible rfl)
          try simp only [Act.put, List.getElem_toArray, List.getElem_cons_succ, List.getElem_cons_zero, List.setIfInBounds_toArray, List.set_cons_zero, List.set_cons_succ]
          refine' anyI_take R 6 rfl (v := ?_) (by kernel_rfl) (by rfl) (fun V hV => ?hy) HS0.out ?_
          case hy => ((try dsimp only at hV);  obtain ⟨q1, q2, q3, q4, q5, q6, q7, q8, q9, _⟩ := hV; go_simp; try with_reducible rfl)
          try simp only [Act.put, List.getElem_toArray, List.getElem_cons_succ, List.getElem_cons_zero, List.setIfInBounds_toArray, List.set_cons_zero, List.set_cons_succ]
          refine' anyI_take R 7 rfl (v := ?_) (by kernel_rfl) (by rfl) (fun V hV => ?hy) HS0.out ?_
          case hy => ((try dsimp only at hV);  obtain ⟨q1, q2, q3, q4, q5, q6, q7, q8, q9, _⟩ := hV; go_simp; try with_reducible rfl)
          try simp only [Act.put, List.getElem_toArray, List.getElem_cons_succ, List.getElem_cons_zero, List.setIfInBounds_toArray, List.set_cons_zero, List.set_cons_succ]
          refine anyI_one 2 (by kernel_rfl) rfl ?_
          try simp only [List.getElem_toArray, List.getElem_cons_succ, List.getElem_cons_zero]
          refine opE_step ?_
          rw [if_pos (by rfl)]
          go_simp
          go_at_call 10
          refine (Nba.out _).mono ?_
          rintro e w2 ⟨rfl, hb⟩
          replace HS0 := Lib.hid (GS3.later HS0.out hb)
          clear hb
          dsimp only
          refine ⟨HS0.out, ?_⟩
          try simp only [Act.put, List.getElem_toArray, List.getElem_cons_succ, List.getElem_cons_zero, List.setIfInBounds_toArray, List.set_cons_zero, List.set_cons_succ]
          refine' anyI_take R 8 rfl (v := ?_) (by kernel_rfl) (by rfl) (fun V hV => ?hy) HS0.out ?_
          case hy => ((try dsimp only at hV);  obtain ⟨q1, q2, q3, q4, q5, q6, q7, q8, q9, _⟩ := hV; go_simp; try with_reducible rfl)
          try simp only [Act.put, List.getElem_toArray, List.getElem_cons_succ, List.getElem_cons_zero, List.setIfInBounds_toArray, List.set_cons_zero, List.set_cons_succ]
          refine' anyI_take R 9 rfl (v := ?_) (by kernel_rfl) (by rfl) (fun V hV => ?hy) HS0.out ?_
          case hy => ((try dsimp only at hV);  obtain ⟨q1, q2, q3, q4, q5, q6, q7, q8, q9, _⟩ := hV; go_simp; try with_reducible rfl)
          try simp only [Act.put, List.getElem_toArray, List.getElem_cons_succ, List.getElem_cons_zero, List.setIfInBounds_toArray, List.set_cons_zero, List.set_cons_succ]
          refine' anyI_take R 10 rfl (v := ?_) (by kernel_rfl) (by rfl) (fun V hV => ?hy) HS0.out ?_
          case hy => ((try dsimp only at hV);  obtain ⟨q1, q2, q3, q4, q5, q6, q7, q8, q9, _⟩ := hV; go_simp; try with_reducible rfl)
          try simp only [Act.put, List.getElem_toArray, List.getElem_cons_succ, List.getElem_cons_zero, List.setIfInBounds_toArray, List.set_cons_zero, List.set_cons_succ]
          refine' anyI_take R 11 rfl (v := ?_) (by kernel_rfl) (by rfl) (fun V hV => ?hy) HS0.out ?_
          case hy => ((try dsimp only at hV);  obtain ⟨q1, q2, q3, q4, q5, q6, q7, q8, q9, _⟩ := hV; go_simp; try with_reducible rfl)
          try simp only [Act.put, List.getElem_toArray, List.getElem_cons_succ, List.getElem_cons_zero, List.setIfInBounds_toArray, List.set_cons_zero, List.set_cons_succ]
          refine' anyI_take R 12 rfl (v := ?_) (by kernel_rfl) (by rfl) (fun V hV => ?hy) HS0.out ?_
          case hy => ((try dsimp only at hV);  obtain ⟨q1, q2, q3, q4, q5, q6, q7, q8, q9, _⟩ := hV; go_simp; try with_reducible rfl)
          try simp only [Act.put, List.getElem_toArray, List.getElem_cons_succ, List.getElem_cons_zero, List.setIfInBounds_toArray, List.set_cons_zero, List.set_cons_succ]
          refine' anyI_take R 13 rfl (v := ?_) (by kernel_rfl) (by rfl) (fun V hV => ?hy) HS0.out ?_
          case hy => ((try dsimp only at hV);  obtain ⟨q1, q2, q3, q4, q5, q6, q7, q8, q9, _⟩ := hV; go_simp; try with_reducible rfl)
          try simp only [Act.put, List.getElem_toArray, List.getElem_cons_succ, List.getElem_cons_zero, List.setIfInBounds_toArray, List.set_cons_zero, List.set_cons_succ]
          refine' anyI_take R 14 rfl (v := ?_) (by kernel_rfl) (by rfl) (fun V hV => ?hy) HS0.out ?_
          case hy => ((try dsimp only at hV);  obtain ⟨q1, q2, q3, q4, q5, q6, q7, q8, q9, _⟩ := hV; go_simp; try with_reducible rfl)
          try simp only [Act.put, List.getElem_toArray, List.getElem_cons_succ, List.getElem_cons_zero, List.setIfInBounds_toArray, List.set_cons_zero, List.set_cons_succ]
          refine' anyI_take R 15 rfl (v := ?_) (by kernel_rfl) (by rfl) (fun V hV => ?hy) HS0.out ?_
          case hy => ((try dsimp only at hV);  obtain ⟨q1, q2, q3, q4, q5, q6, q7, q8, q9, _⟩ := hV; go_simp; try with_reducible rfl)
          try simp only [Act.put, List.getElem_toArray, List.getElem_cons_succ, List.getElem_cons_zero, List.setIfInBounds_toArray, List.set_cons_zero, List.set_cons_succ]
          refine anyI_tail (by kernel_rfl) ?_
          try simp only [List.drop_succ_cons, List.drop_zero]
          clear R
          go_wp2_with fail
          refine NoPanic.normal ?_
          go_wp2_with fail
          go_meet
          exact ⟨rfl, HS0.out⟩
        · obtain rfl : nba = false := L4'.out.trans (by simp [hdd])
          have S0 := S6
          clear S6
          have eq1 := ibeq_no hdd
          refine wp_region_noPanic (region_ord 16 [] (fun V => GS3 w w.heap.size p (p + 1) (p + 1 + 1) la da ca la db cb lc dc cc V) (by kernel_rfl) (by kernel_rfl) (fun _ _ _ _ _ h => h) fun R => ?_)
          change anyI _ _ _ _ _ _ 16 _ _ wz.drew
          have HS0 := Lib.hid (show (fun V => GS3 w w.heap.size p (p + 1) (p + 1 + 1) la da ca la db cb lc dc cc V) wz.drew from GS3.drew S0)
          refine' anyI_take R 0 rfl (v := ?_) (by kernel_rfl) (by rfl) (fun V hV => ?hy) HS0.out ?_
          case hy => ((try dsimp only at hV);  obtain ⟨q1, q2, q3, q4, q5, q6, q7, q8, q9, _⟩ := hV; go_simp; try with_reducible rfl)
          try simp only [Act.put, List.getElem_toArray, List.getElem_cons_succ, List.getElem_cons_zero, List.setIfInBounds_toArray, List.set_cons_zero, List.set_cons_succ]
          refine' anyI_take R 1 rfl (v := ?_) (by kernel_rfl) (by rfl) (fun V hV => ?hy) HS0.out ?_
          case hy => ((try dsimp only at hV);  obtain ⟨q1, q2, q3, q4, q5, q6, q7, q8, q9, _⟩ := hV; go_simp; try with_reducible rfl)
          try simp only [Act.put, List.getElem_toArray, List.getElem_cons_succ, List.getElem_cons_zero, List.setIfInBounds_toArray, List.set_cons_zero, List.set_cons_succ]
          refine' anyI_take R 3 rfl (v := ?_) (by kernel_rfl) (by rfl) (fun V hV => ?hy) HS0.out ?_
          case hy => ((try dsimp only at hV);  obtain ⟨q1, q2, q3, q4, q5, q6, q7, q8, q9, _⟩ := hV; go_simp; try with_reducible rfl)
          try simp only [Act.put, List.getElem_toArray, List.getElem_cons_succ, List.getElem_cons_zero, List.setIfInBounds_toArray, List.set_cons_zero, List.set_cons_succ]
          refine' anyI_take R 4 rfl (v := ?_) (by kernel_rfl) (by rfl) (fun V hV => ?hy) HS0.out ?_
          case hy => ((try dsimp only at hV);  obtain ⟨q1, q2, q3, q4, q5, q6, q7, q8, q9, _⟩ := hV; go_simp; try with_reducible rfl)
          try simp only [Act.put, List.getElem_toArray, List.getElem_cons_succ, List.getElem_cons_zero, List.setIfInBounds_toArray, List.set_cons_zero, List.set_cons_succ]
          refine' anyI_take R 5 rfl (v := ?_) (by kernel_rfl) (by rfl) (fun V hV => ?hy) HS0.out ?_
          case hy => ((try dsimp only at hV);  obtain ⟨q1, q2, q3, q4, q5, q6, q7, q8, q9, _⟩ := hV; go_simp; try with_reducible rfl)
          try simp only [Act.put, List.getElem_toArray, List.getElem_cons_succ, List.getElem_cons_zero, List.setIfInBounds_toArray, List.set_cons_zero, List.set_cons_succ]
          refine' anyI_take R 6 rfl (v := ?_) (by kernel_rfl) (by rfl) (fun V hV => ?hy) HS0.out ?_
          case hy => ((try dsimp only at hV);  obtain ⟨q1, q2, q3, q4, q5, q6, q7, q8, q9, _⟩ := hV; go_simp; try with_reducible rfl)
          try simp only [Act.put, List.getElem_toArray, List.getElem_cons_succ, List.getElem_cons_zero, List.setIfInBounds_toArray, List.set_cons_zero, List.set_cons_succ]
          refine' anyI_take R 7 rfl (v := ?_) (by kernel_rfl) (by rfl) (fun V hV => ?hy) HS0.out ?_
          case hy => ((try dsimp only at hV);  obtain ⟨q1, q2, q3, q4, q5, q6, q7, q8, q9, _⟩ := hV; go_simp; try with_reducible rfl)
          try simp only [Act.put, List.getElem_toArray, List.getElem_cons_succ, List.getElem_cons_zero, List.setIfInBounds_toArray, List.set_cons_zero, List.set_cons_succ]
          refine anyI_one 2 (by kernel_rfl) rfl ?_
          try simp only [List.getElem_toArray, List.getElem_cons_succ, List.getElem_cons_zero]
          refine opE_step ?_
          rw [if_pos (by rfl)]
          go_simp
          go_at_call 10
          refine (Nba.out _).mono ?_
          rintro e w2 ⟨rfl, hb⟩
          replace HS0 := Lib.hid (GS3.later HS0.out hb)
          clear hb
          dsimp only
          refine ⟨HS0.out, ?_⟩
          try simp only [Act.put, List.getElem_toArray, List.getElem_cons_succ, List.getElem_cons_zero, List.setIfInBounds_toArray, List.set_cons_zero, List.set_cons_succ]
          refine' anyI_take R 8 rfl (v := ?_) (by kernel_rfl) (by rfl) (fun V hV => ?hy) HS0.out ?_
          case hy => ((try dsimp only at hV);  obtain ⟨q1, q2, q3, q4, q5, q6, q7, q8, q9, _⟩ := hV; go_simp; try with_reducible rfl)
          try simp only [Act.put, List.getElem_toArray, List.getElem_cons_succ, List.getElem_cons_zero, List.setIfInBounds_toArray, List.set_cons_zero, List.set_cons_succ]
          refine' anyI_take R 9 rfl (v := ?_) (by kernel_rfl) (by rfl) (fun V hV => ?hy) HS0.out ?_
          case hy => ((try dsimp only at hV);  obtain ⟨q1, q2, q3, q4, q5, q6, q7, q8, q9, _⟩ := hV; go_simp; try with_reducible rfl)
          try simp only [Act.put, List.getElem_toArray, List.getElem_cons_succ, List.getElem_cons_zero, List.setIfInBounds_toArray, List.set_cons_zero, List.set_cons_succ]
          refine' anyI_take R 10 rfl (v := ?_) (by kernel_rfl) (by rfl) (fun V hV => ?hy) HS0.out ?_
          case hy => ((try dsimp only at hV);  obtain ⟨q1, q2, q3, q4, q5, q6, q7, q8, q9, _⟩ := hV; go_simp; try with_reducible rfl)
          try simp only [Act.put, List.getElem_toArray, List.getElem_cons_succ, List.getElem_cons_zero, List.setIfInBounds_toArray, List.set_cons_zero, List.set_cons_succ]
          refine' anyI_take R 11 rfl (v := ?_) (by kernel_rfl) (by rfl) (fun V hV => ?hy) HS0.out ?_
          case hy => ((try dsimp only at hV);  obtain ⟨q1, q2, q3, q4, q5, q6, q7, q8, q9, _⟩ := hV; go_simp; try with_reducible rfl)
          try simp only [Act.put, List.getElem_toArray, List.getElem_cons_succ, List.getElem_cons_zero, List.setIfInBounds_toArray, List.set_cons_zero, List.set_cons_succ]
          refine' anyI_take R 12 rfl (v := ?_) (by kernel_rfl) (by rfl) (fun V hV => ?hy) HS0.out ?_
          case hy => ((try dsimp only at hV);  obtain ⟨q1, q2, q3, q4, q5, q6, q7, q8, q9, _⟩ := hV; go_simp; try with_reducible rfl)
          try simp only [Act.put, List.getElem_toArray, List.getElem_cons_succ, List.getElem_cons_zero, List.setIfInBounds_toArray, List.set_cons_zero, List.set_cons_succ]
          refine' anyI_take R 13 rfl (v := ?_) (by kernel_rfl) (by rfl) (fun V hV => ?hy) HS0.out ?_
          case hy => ((try dsimp only at hV);  obtain ⟨q1, q2, q3, q4, q5, q6, q7, q8, q9, _⟩ := hV; go_simp; try with_reducible rfl)
          try simp only [Act.put, List.getElem_toArray, List.getElem_cons_succ, List.getElem_cons_zero, List.setIfInBounds_toArray, List.set_cons_zero, List.set_cons_succ]
          refine' anyI_take R 14 rfl (v := ?_) (by kernel_rfl) (by rfl) (fun V hV => ?hy) HS0.out ?_
          case hy => ((try dsimp only at hV);  obtain ⟨q1, q2, q3, q4, q5, q6, q7, q8, q9, _⟩ := hV; go_simp; try with_reducible rfl)
          try simp only [Act.put, List.getElem_toArray, List.getElem_cons_succ, List.getElem_cons_zero, List.setIfInBounds_toArray, List.set_cons_zero, List.set_cons_succ]
          refine' anyI_take R 15 rfl (v := ?_) (by kernel_rfl) (by rfl) (fun V hV => ?hy) HS0.out ?_
          case hy => ((try dsimp only at hV);  obtain ⟨q1, q2, q3, q4, q5, q6, q7, q8, q9, _⟩ := hV; go_simp; try with_reducible rfl)
          try simp only [Act.put, List.getElem_toArray, List.getElem_cons_succ, List.getElem_cons_zero, List.setIfInBounds_toArray, List.set_cons_zero, List.set_cons_succ]
          refine anyI_tail (by kernel_rfl) ?_
          try simp only [List.drop_succ_cons, List.drop_zero]
          clear R
          go_wp2_with fail
          refine NoPanic.normal ?_
          go_wp2_with fail
          go_meet
          exact ⟨rfl, HS0.out⟩
      · obtain rfl : nba = false := L4'.out.trans (by simp [hll])
        have S0 := S6
        clear S6
        have eq1 := ibeq_no hll
        refine wp_region_noPanic (region_ord 16 [] (fun V => GS3 w w.heap.size p (p + 1) (p + 1 + 1) la da ca lb db cb lc dc cc V) (by kernel_rfl) (by kernel_rfl) (fun _ _ _ _ _ h => h) fun R => ?_)
        change anyI _ _ _ _ _ _ 16 _ _ wz.drew
        have HS0 := Lib.hid (show (fun V => GS3 w w.heap.size p (p + 1) (p + 1 + 1) la da ca lb db cb lc dc cc V) wz.drew from GS3.drew S0)
        refine' anyI_take R 0 rfl (v := ?_) (by kernel_rfl) (by rfl) (fun V hV => ?hy) HS0.out ?_
        case hy => ((try dsimp only at hV);  obtain ⟨q1, q2, q3, q4, q5, q6, q7, q8, q9, _⟩ := hV; go_simp; try with_reducible rfl)
        try simp only [Act.put, List.getElem_toArray, List.getElem_cons_succ, List.getElem_cons_zero, List.setIfInBounds_toArray, List.set_cons_zero, List.set_cons_succ]
        refine' anyI_take R 1 rfl (v := ?_) (by kernel_rfl) (by rfl) (fun V hV => ?hy) HS0.out ?_
        case hy => ((try dsimp only at hV);  obtain ⟨q1, q2, q3, q4, q5, q6, q7, q8, q9, _⟩ := hV; go_simp; try with_reducible rfl)
        try simp only [Act.put, List.getElem_toArray, List.getElem_cons_succ, List.getElem_cons_zero, List.setIfInBounds_toArray, List.set_cons_zero, List.set_cons_succ]
        refine' anyI_take R 3 rfl (v := ?_) (by kernel_rfl) (by rfl) (fun V hV => ?hy) HS0.out ?_
        case hy => ((try dsimp only at hV);  obtain ⟨q1, q2, q3, q4, q5, q6, q7, q8, q9, _⟩ := hV; go_simp; try with_reducible rfl)
        try simp only [Act.put, List.getElem_toArray, List.getElem_cons_succ, List.getElem_cons_zero, List.setIfInBounds_toArray, List.set_cons_zero, List.set_cons_succ]
        refine' anyI_take R 4 rfl (v := ?_) (by kernel_rfl) (by rfl) (fun V hV => ?hy) HS0.out ?_
        case hy => ((try dsimp only at hV);  obtain ⟨q1, q2, q3, q4, q5, q6, q7, q8, q9, _⟩ := hV; go_simp; try with_reducible rfl)
        try simp only [Act.put, List.getElem_toArray, List.getElem_cons_succ, List.getElem_cons_zero, List.setIfInBounds_toArray, List.set_cons_zero, List.set_cons_succ]
        refine' anyI_take R 5 rfl (v := ?_) (by kernel_rfl) (by rfl) (fun V hV => ?hy) HS0.out ?_
        case hy => ((try dsimp only at hV);  obtain ⟨q1, q2, q3, q4, q5, q6, q7, q8, q9, _⟩ := hV; go_simp; try with_reducible rfl)
        try simp only [Act.put, List.getElem_toArray, List.getElem_cons_succ, List.getElem_cons_zero, List.setIfInBounds_toArray, List.set_cons_zero, List.set_cons_succ]
        refine' anyI_take R 6 rfl (v := ?_) (by kernel_rfl) (by rfl) (fun V hV => ?hy) HS0.out ?_
        case hy => ((try dsimp only at hV);  obtain ⟨q1, q2, q3, q4, q5, q6, q7, q8, q9, _⟩ := hV; go_simp; try with_reducible rfl)
        try simp only [Act.put, List.getElem_toArray, List.getElem_cons_succ, List.getElem_cons_zero, List.setIfInBounds_toArray, List.set_cons_zero, List.set_cons_succ]
        refine anyI_take R 7 rfl (v := .bool false) (by kernel_rfl) (by rfl) (fun V hV => ?_) HS0.out ?_
        · (try dsimp only at hV); obtain ⟨q1, q2, q3, q4, q5, q6, q7, q8, q9, _⟩ := hV; go_simp; try (simp [hll]; done)
        try simp only [Act.put, List.getElem_toArray, List.getElem_cons_succ, List.getElem_cons_zero, List.setIfInBounds_toArray, List.set_cons_zero, List.set_cons_succ]
        refine anyI_one 2 (by kernel_rfl) rfl ?_
        try simp only [List.getElem_toArray, List.getElem_cons_succ, List.getElem_cons_zero]
        refine opE_step ?_
        rw [if_pos (by rfl)]
        go_simp
        go_at_call 10
        refine (Nba.out _).mono ?_
        rintro e w2 ⟨rfl, hb⟩
        replace HS0 := Lib.hid (GS3.later HS0.out hb)
        clear hb
        dsimp only
        refine ⟨HS0.out, ?_⟩
        try simp only [Act.put, List.getElem_toArray, List.getElem_cons_succ, List.getElem_cons_zero, List.setIfInBounds_toArray, List.set_cons_zero, List.set_cons_succ]
        refine' anyI_take R 8 rfl (v := ?_) (by kernel_rfl) (by rfl) (fun V hV => ?hy) HS0.out ?_
        case hy => ((try dsimp only at hV);  obtain ⟨q1, q2, q3, q4, q5, q6, q7, q8, q9, _⟩ := hV; go_simp; try with_reducible rfl)
        try simp only [Act.put, List.getElem_toArray, List.getElem_cons_succ, List.getElem_cons_zero, List.setIfInBounds_toArray, List.set_cons_zero, List.set_cons_succ]
        refine anyI_skip R 9 rfl (by kernel_rfl) (by rfl) HS0.out ?_
        try simp only [Act.put, List.getElem_toArray, List.getElem_cons_succ, List.getElem_cons_zero, List.setIfInBounds_toArray, List.set_cons_zero, List.set_cons_succ]
        refine anyI_skip R 10 rfl (by kernel_rfl) (by rfl) HS0.out ?_
        try simp only [Act.put, List.getElem_toArray, List.getElem_cons_succ, List.getElem_cons_zero, List.setIfInBounds_toArray, List.set_cons_zero, List.set_cons_succ]
        refine anyI_skip R 11 rfl (by kernel_rfl) (by rfl) HS0.out ?_
        try simp only [Act.put, List.getElem_toArray, List.getElem_cons_succ, List.getElem_cons_zero, List.setIfInBounds_toArray, List.set_cons_zero, List.set_cons_succ]
        refine anyI_skip R 12 rfl (by kernel_rfl) (by rfl) HS0.out ?_
        try simp only [Act.put, List.getElem_toArray, List.getElem_cons_succ, List.getElem_cons_zero, List.setIfInBounds_toArray, List.set_cons_zero, List.set_cons_succ]
        refine anyI_skip R 13 rfl (by kernel_rfl) (by rfl) HS0.out ?_
        try simp only [Act.put, List.getElem_toArray, List.getElem_cons_succ, List.getElem_cons_zero, List.setIfInBounds_toArray, List.set_cons_zero, List.set_cons_succ]
        refine' anyI_take R 14 rfl (v := ?_) (by kernel_rfl) (by rfl) (fun V hV => ?hy) HS0.out ?_
        case hy => ((try dsimp only at hV);  obtain ⟨q1, q2, q3, q4, q5, q6, q7, q8, q9, _⟩ := hV; go_simp; try with_reducible rfl)
        try simp only [Act.put, List.getElem_toArray, List.getElem_cons_succ, List.getElem_cons_zero, List.setIfInBounds_toArray, List.set_cons_zero, List.set_cons_succ]
        refine' anyI_take R 15 rfl (v := ?_) (by kernel_rfl) (by rfl) (fun V hV => ?hy) HS0.out ?_
        case hy => ((try dsimp only at hV);  obtain ⟨q1, q2, q3, q4, q5, q6, q7, q8, q9, _⟩ := hV; go_simp; try with_reducible rfl)
        try simp only [Act.put, List.getElem_toArray, List.getElem_cons_succ, List.getElem_cons_zero, List.setIfInBounds_toArray, List.set_cons_zero, List.set_cons_succ]
        refine anyI_tail (by kernel_rfl) ?_
        try simp only [List.drop_succ_cons, List.drop_zero]
        clear R
        go_wp2_with fail
        refine NoPanic.normal ?_
        go_wp2_with fail
        go_meet
        exact ⟨rfl, HS0.out⟩
    case rest =>
      clear S6 L4' Nba
      obtain ⟨rfl, S0⟩ := hcut
      rename World => wz
      go_wp2_with fail
      cases nbc
      · clear L5'
        refine wp_region_noPanic (region_ord 17 [] (fun V => GS3 w w.heap.size p (p + 1) (p + 1 + 1) la da ca lb db cb lc dc cc V) (by kernel_rfl) (by kernel_rfl) (fun _ _ _ _ _ h => h) fun R => ?_)
        change anyI _ _ _ _ _ _ 17 _ _ wz.drew
        have HS0 := Lib.hid (show (fun V => GS3 w w.heap.size p (p + 1) (p + 1 + 1) la da ca lb db cb lc dc cc V) wz.drew from GS3.drew S0)
        refine' anyI_take R 0 rfl (v := ?_) (by kernel_rfl) (by rfl) (fun V hV => ?hy) HS0.out ?_
        case hy => ((try dsimp only at hV);  obtain ⟨q1, q2, q3, q4, q5, q6, q7, q8, q9, _⟩ := hV; go_simp; try with_reducible rfl)
        try simp only [Act.put, List.getElem_toArray, List.getElem_cons_succ, List.getElem_cons_zero, List.setIfInBounds_toArray, List.set_cons_zero, List.set_cons_succ]
        refine' anyI_take R 1 rfl (v := ?_) (by kernel_rfl) (by rfl) (fun V hV => ?hy) HS0.out ?_
        case hy => ((try dsimp only at hV);  obtain ⟨q1, q2, q3, q4, q5, q6, q7, q8, q9, _⟩ := hV; go_simp; try with_reducible rfl)
        try simp only [Act.put, List.getElem_toArray, List.getElem_cons_succ, List.getElem_cons_zero, List.setIfInBounds_toArray, List.set_cons_zero, List.set_cons_succ]
        refine anyI_one 2 (by kernel_rfl) rfl ?_
        try simp only [List.getElem_toArray, List.getElem_cons_succ, List.getElem_cons_zero]
        refine opE_step ?_
        rw [if_pos (by rfl)]
        go_simp
        go_at_call 10
        refine (Nbc.out _).mono ?_
        rintro e w2 ⟨rfl, hb⟩
        replace HS0 := Lib.hid (GS3.later HS0.out hb)
        clear hb
        dsimp only
        refine ⟨HS0.out, ?_⟩
        try simp only [Act.put, List.getElem_toArray, List.getElem_cons_succ, List.getElem_cons_zero, List.setIfInBounds_toArray, List.set_cons_zero, List.set_cons_succ]
        refine' anyI_take R 3 rfl (v := ?_) (by kernel_rfl) (by rfl) (fun V hV => ?hy) HS0.out ?_
        case hy => ((try dsimp only at hV);  obtain ⟨q1, q2, q3, q4, q5, q6, q7, q8, q9, _⟩ := hV; go_simp; try with_reducible rfl)
        try simp only [Act.put, List.getElem_toArray, List.getElem_cons_succ, List.getElem_cons_zero, List.setIfInBounds_toArray, List.set_cons_zero, List.set_cons_succ]
        refine' anyI_take R 4 rfl (v := ?_) (by kernel_rfl) (by rfl) (fun V hV => ?hy) HS0.out ?_
        case hy => ((try dsimp only at hV);  obtain ⟨q1, q2, q3, q4, q5, q6, q7, q8, q9, _⟩ := hV; go_simp; try with_reducible rfl)
        try simp only [Act.put, List.getElem_toArray, List.getElem_cons_succ, List.getElem_cons_zero, List.setIfInBounds_toArray, List.set_cons_zero, List.set_cons_succ]
        refine anyI_skip R 5 rfl (by kernel_rfl) (by rfl) HS0.out ?_
        try simp only [Act.put, List.getElem_toArray, List.getElem_cons_succ, List.getElem_cons_zero, List.setIfInBounds_toArray, List.set_cons_zero, List.set_cons_succ]
        refine anyI_skip R 6 rfl (by kernel_rfl) (by rfl) HS0.out ?_
        try simp only [Act.put, List.getElem_toArray, List.getElem_cons_succ, List.getElem_cons_zero, List.setIfInBounds_toArray, List.set_cons_zero, List.set_cons_succ]
        refine anyI_skip R 7 rfl (by kernel_rfl) (by rfl) HS0.out ?_
        try simp only [Act.put, List.getElem_toArray, List.getElem_cons_succ, List.getElem_cons_zero, List.setIfInBounds_toArray, List.set_cons_zero, List.set_cons_succ]
        refine anyI_skip R 8 rfl (by kernel_rfl) (by rfl) HS0.out ?_
        try simp only [Act.put, List.getElem_toArray, List.getElem_cons_succ, List.getElem_cons_zero, List.setIfInBounds_toArray, List.set_cons_zero, List.set_cons_succ]
        refine anyI_skip R 9 rfl (by kernel_rfl) (by rfl) HS0.out ?_
        try simp only [Act.put, List.getElem_toArray, List.getElem_cons_succ, List.getElem_cons_zero, List.setIfInBounds_toArray, List.set_cons_zero, List.set_cons_succ]
        refine anyI_skip R 10 rfl (by kernel_rfl) (by rfl) HS0.out ?_
        try simp only [Act.put, List.getElem_toArray, List.getElem_cons_succ, List.getElem_cons_zero, List.setIfInBounds_toArray, List.set_cons_zero, List.set_cons_succ]
        refine anyI_skip R 11 rfl (by kernel_rfl) (by rfl) HS0.out ?_
        try simp only [Act.put, List.getElem_toArray, List.getElem_cons_succ, List.getElem_cons_zero, List.setIfInBounds_toArray, List.set_cons_zero, List.set_cons_succ]
        refine' anyI_take R 12 rfl (v := ?_) (by kernel_rfl) (by rfl) (fun V hV => ?hy) HS0.out ?_
        case hy => ((try dsimp only at hV);  obtain ⟨q1, q2, q3, q4, q5, q6, q7, q8, q9, _⟩ := hV; go_simp; try with_reducible rfl)
        try simp only [Act.put, List.getElem_toArray, List.getElem_cons_succ, List.getElem_cons_zero, List.setIfInBounds_toArray, List.set_cons_zero, List.set_cons_succ]
        refine' anyI_take R 13 rfl (v := ?_) (by kernel_rfl) (by rfl) (fun V hV => ?hy) HS0.out ?_
        case hy => ((try dsimp only at hV);  obtain ⟨q1, q2, q3, q4, q5, q6, q7, q8, q9, _⟩ := hV; go_simp; try with_reducible rfl)
        try simp only [Act.put, List.getElem_toArray, List.getElem_cons_succ, List.getElem_cons_zero, List.setIfInBounds_toArray, List.set_cons_zero, List.set_cons_succ]
        refine anyI_one 14 (by kernel_rfl) rfl ?_
        try simp only [List.getElem_toArray, List.getElem_cons_succ, List.getElem_cons_zero]
        refine opE_step ?_
        rw [if_pos (by rfl)]
        go_simp
        go_at_call 11
        refine (Wk.out _).mono ?_
        rintro e w14 ⟨rfl, hb⟩
        replace HS0 := Lib.hid (GS3.later HS0.out hb)
        clear hb
        dsimp only
        refine ⟨HS0.out, ?_⟩
        try simp only [Act.put, List.getElem_toArray, List.getElem_cons_succ, List.getElem_cons_zero, List.setIfInBounds_toArray, List.set_cons_zero, List.set_cons_succ]
        refine' anyI_take R 15 rfl (v := ?_) (by kernel_rfl) (by rfl) (fun V hV => ?hy) HS0.out ?_
        case hy => ((try dsimp only at hV);  obtain ⟨q1, q2, q3, q4, q5, q6, q7, q8, q9, _⟩ := hV; go_simp; try with_reducible rfl)
        try simp only [Act.put, List.getElem_toArray, List.getElem_cons_succ, List.getElem_cons_zero, List.setIfInBounds_toArray, List.set_cons_zero, List.set_cons_succ]
        refine' anyI_take R 16 rfl (v := ?_) (by kernel_rfl) (by rfl) (fun V hV => ?hy) HS0.out ?_
        case hy => ((try dsimp only at hV);  obtain ⟨q1, q2, q3, q4, q5, q6, q7, q8, q9, _⟩ := hV; go_simp; try with_reducible rfl)
        try simp only [Act.put, List.getElem_toArray, List.getElem_cons_succ, List.getElem_cons_zero, List.setIfInBounds_toArray, List.set_cons_zero, List.set_cons_succ]
        refine anyI_tail (by kernel_rfl) ?_
        try simp only [List.drop_succ_cons, List.drop_zero]
        clear R
        go_wp2_with fail
        refine NoPanic.normal ?_
        go_wp2_with fail
        go_ret
        exact ⟨rfl, HS0.out.2.2.2.2.2.2.2.2.2⟩
      · obtain rfl : nac = ne := L5'.out rfl
        clear L5'
        refine wp_region_noPanic (region_ord 17 [] (fun V => GS3 w w.heap.size p (p + 1) (p + 1 + 1) la da ca lb db cb lc dc cc V) (by kernel_rfl) (by kernel_rfl) (fun _ _ _ _ _ h => h) fun R => ?_)
        change anyI _ _ _ _ _ _ 17 _ _ wz.drew
        have HS0 := Lib.hid (show (fun V => GS3 w w.heap.size p (p + 1) (p + 1 + 1) la da ca lb db cb lc dc cc V) wz.drew from GS3.drew S0)
        refine' anyI_take R 0 rfl (v := ?_) (by kernel_rfl) (by rfl) (fun V hV => ?hy) HS0.out ?_
        case hy => ((try dsimp only at hV);  obtain ⟨q1, q2, q3, q4, q5, q6, q7, q8, q9, _⟩ := hV; go_simp; try with_reducible rfl)
        try simp only [Act.put, List.getElem_toArray, List.getElem_cons_succ, List.getElem_cons_zero, List.setIfInBounds_toArray, List.set_cons_zero, List.set_cons_succ]
        refine' anyI_take R 1 rfl (v := ?_) (by kernel_rfl) (by rfl) (fun V hV => ?hy) HS0.out ?_
        case hy => ((try dsimp only at hV);  obtain ⟨q1, q2, q3, q4, q5, q6, q7, q8, q9, _⟩ := hV; go_simp; try with_reducible rfl)
        try simp only [Act.put, List.getElem_toArray, List.getElem_cons_succ, List.getElem_cons_zero, List.setIfInBounds_toArray, List.set_cons_zero, List.set_cons_succ]
        refine anyI_one 2 (by kernel_rfl) rfl ?_
        try simp only [List.getElem_toArray, List.getElem_cons_succ, List.getElem_cons_zero]
        refine opE_step ?_
        rw [if_pos (by rfl)]
        go_simp
        go_at_call 10
        refine (Nbc.out _).mono ?_
        rintro e w2 ⟨rfl, hb⟩
        replace HS0 := Lib.hid (GS3.later HS0.out hb)
        clear hb
        dsimp only
        refine ⟨HS0.out, ?_⟩
        try simp only [Act.put, List.getElem_toArray, List.getElem_cons_succ, List.getElem_cons_zero, List.setIfInBounds_toArray, List.set_cons_zero, List.set_cons_succ]
        refine' anyI_take R 3 rfl (v := ?_) (by kernel_rfl) (by rfl) (fun V hV => ?hy) HS0.out ?_
        case hy => ((try dsimp only at hV);  obtain ⟨q1, q2, q3, q4, q5, q6, q7, q8, q9, _⟩ := hV; go_simp; try with_reducible rfl)
        try simp only [Act.put, List.getElem_toArray, List.getElem_cons_succ, List.getElem_cons_zero, List.setIfInBounds_toArray, List.set_cons_zero, List.set_cons_succ]
        refine' anyI_take R 4 rfl (v := ?_) (by kernel_rfl) (by rfl) (fun V hV => ?hy) HS0.out ?_
        case hy => ((try dsimp only at hV);  obtain ⟨q1, q2, q3, q4, q5, q6, q7, q8, q9, _⟩ := hV; go_simp; try with_reducible rfl)
        try simp only [Act.put, List.getElem_toArray, List.getElem_cons_succ, List.getElem_cons_zero, List.setIfInBounds_toArray, List.set_cons_zero, List.set_cons_succ]
        refine' anyI_take R 5 rfl (v := ?_) (by kernel_rfl) (by rfl) (fun V hV => ?hy) HS0.out ?_
        case hy => ((try dsimp only at hV);  obtain ⟨q1, q2, q3, q4, q5, q6, q7, q8, q9, _⟩ := hV; go_simp; try with_reducible rfl)
        try simp only [Act.put, List.getElem_toArray, List.getElem_cons_succ, List.getElem_cons_zero, List.setIfInBounds_toArray, List.set_cons_zero, List.set_cons_succ]
        refine' anyI_take R 6 rfl (v := ?_) (by kernel_rfl) (by rfl) (fun V hV => ?hy) HS0.out ?_
        case hy => ((try dsimp only at hV);  obtain ⟨q1, q2, q3, q4, q5, q6, q7, q8, q9, _⟩ := hV; go_simp; try with_reducible rfl)
        try simp only [Act.put, List.getElem_toArray, List.getElem_cons_succ, List.getElem_cons_zero, List.setIfInBounds_toArray, List.set_cons_zero, List.set_cons_succ]
        refine' anyI_take R 8 rfl (v := ?_) (by kernel_rfl) (by rfl) (fun V hV => ?hy) HS0.out ?_
        case hy => ((try dsimp only at hV);  obtain ⟨q1, q2, q3, q4, q5, q6, q7, q8, q9, _⟩ := hV; go_simp; try with_reducible rfl)
        try simp only [Act.put, List.getElem_toArray, List.getElem_cons_succ, List.getElem_cons_zero, List.setIfInBounds_toArray, List.set_cons_zero, List.set_cons_succ]
        refine' anyI_take R 9 rfl (v := ?_) (by kernel_rfl) (by rfl) (fun V hV => ?hy) HS0.out ?_
        case hy => ((try dsimp only at hV);  obtain ⟨q1, q2, q3, q4, q5, q6, q7, q8, q9, _⟩ := hV; go_simp; try with_reducible rfl)
        try simp only [Act.put, List.getElem_toArray, List.getElem_cons_succ, List.getElem_cons_zero, List.setIfInBounds_toArray, List.set_cons_zero, List.set_cons_succ]
        refine anyI_take R 10 rfl (v := .bool nac) (by kernel_rfl) (by rfl) (fun V hV => ?_) HS0.out ?_
        · (try dsimp only at hV); obtain ⟨q1, q2, q3, q4, q5, q6, q7, q8, q9, _⟩ := hV; rcases L6.out with ⟨rfl, rfl, rfl, rfl⟩ | ⟨rfl, h1 | ⟨rfl, h1⟩ | ⟨rfl, rfl, h1⟩⟩ <;> go_simp
        try simp only [Act.put, List.getElem_toArray, List.getElem_cons_succ, List.getElem_cons_zero, List.setIfInBounds_toArray, List.set_cons_zero, List.set_cons_succ]
        refine anyI_one 7 (by kernel_rfl) rfl ?_
        try simp only [List.getElem_toArray, List.getElem_cons_succ, List.getElem_cons_zero]
        refine opE_step ?_
        rw [if_pos (by rfl)]
        go_simp
        go_at_call 10
        refine (Nac.out _).mono ?_
        rintro e w7 ⟨rfl, hb⟩
        replace HS0 := Lib.hid (GS3.later HS0.out hb)
        clear hb
        dsimp only
        refine ⟨HS0.out, ?_⟩
        try simp only [Act.put, List.getElem_toArray, List.getElem_cons_succ, List.getElem_cons_zero, List.setIfInBounds_toArray, List.set_cons_zero, List.set_cons_succ]
        refine anyI_take R 11 rfl (v := .bool true) (by kernel_rfl) (by rfl) (fun V hV => ?_) HS0.out ?_
        · (try dsimp only at hV); obtain ⟨q1, q2, q3, q4, q5, q6, q7, q8, q9, _⟩ := hV; go_simp; try (simp; done)
        try simp only [Act.put, List.getElem_toArray, List.getElem_cons_succ, List.getElem_cons_zero, List.setIfInBounds_toArray, List.set_cons_zero, List.set_cons_succ]
        refine' anyI_take R 12 rfl (v := ?_) (by kernel_rfl) (by rfl) (fun V hV => ?hy) HS0.out ?_
        case hy => ((try dsimp only at hV);  obtain ⟨q1, q2, q3, q4, q5, q6, q7, q8, q9, _⟩ := hV; go_simp; try with_reducible rfl)
        try simp only [Act.put, List.getElem_toArray, List.getElem_cons_succ, List.getElem_cons_zero, List.setIfInBounds_toArray, List.set_cons_zero, List.set_cons_succ]
        refine' anyI_take R 13 rfl (v := ?_) (by kernel_rfl) (by rfl) (fun V hV => ?hy) HS0.out ?_
        case hy => ((try dsimp only at hV);  obtain ⟨q1, q2, q3, q4, q5, q6, q7, q8, q9, _⟩ := hV; go_simp; try with_reducible rfl)
        try simp only [Act.put, List.getElem_toArray, List.getElem_cons_succ, List.getElem_cons_zero, List.setIfInBounds_toArray, List.set_cons_zero, List.set_cons_succ]
        refine anyI_one 14 (by kernel_rfl) rfl ?_
        try simp only [List.getElem_toArray, List.getElem_cons_succ, List.getElem_cons_zero]
        refine opE_step ?_
        rw [if_pos (by rfl)]
        go_simp
        go_at_call 11
        refine (Wk.out _).mono ?_
        rintro e w14 ⟨rfl, hb⟩
        replace HS0 := Lib.hid (GS3.later HS0.out hb)
        clear hb
        dsimp only
        refine ⟨HS0.out, ?_⟩
        try simp only [Act.put, List.getElem_toArray, List.getElem_cons_succ, List.getElem_cons_zero, List.setIfInBounds_toArray, List.set_cons_zero, List.set_cons_succ]
        refine' anyI_take R 15 rfl (v := ?_) (by kernel_rfl) (by rfl) (fun V hV => ?hy) HS0.out ?_
        case hy => ((try dsimp only at hV);  obtain ⟨q1, q2, q3, q4, q5, q6, q7, q8, q9, _⟩ := hV; go_simp; try with_reducible rfl)
        try simp only [Act.put, List.getElem_toArray, List.getElem_cons_succ, List.getElem_cons_zero, List.setIfInBounds_toArray, List.set_cons_zero, List.set_cons_succ]
        refine' anyI_take R 16 rfl (v := ?_) (by kernel_rfl) (by rfl) (fun V hV => ?hy) HS0.out ?_
        case hy => ((try dsimp only at hV);  obtain ⟨q1, q2, q3, q4, q5, q6, q7, q8, q9, _⟩ := hV; go_simp; try with_reducible rfl)
        try simp only [Act.put, List.getElem_toArray, List.getElem_cons_succ, List.getElem_cons_zero, List.setIfInBounds_toArray, List.set_cons_zero, List.set_cons_succ]
        refine anyI_tail (by kernel_rfl) ?_
        try simp only [List.drop_succ_cons, List.drop_zero]
        clear R
        go_wp2_with fail
        refine NoPanic.normal ?_
        go_wp2_with fail
        go_ret
        exact ⟨rfl, HS0.out.2.2.2.2.2.2.2.2.2⟩
end Go.Proofs.Ytpbambmjkhadgaa
