/- SlotsErrors, in plain numbers and walked. -/
import Derived.Test.YtiipdhmfdgbmiaaDoorTbbb
import Derived.Test.YtiipdhmfdgbmiaaDoorTbak
set_option maxRecDepth 8000
set_option linter.unusedVariables false
set_option linter.unusedSimpArgs false
namespace Go.Proofs.YtiipdhmfdgbmiaaDoor
open Go.RowKit

theorem dsk_none {D : Dsk} (h : ∀ k, k < 2 → D.f = true ∨ decO (secAt D.now k) = false) : dskSu D = [] := by
  have one : ∀ k, k < 2 → slotL D k = [] := fun k hk => by
    unfold slotL
    rcases h k hk with e | e
    · rw [if_pos e]
    · split
      · rfl
      · rw [if_neg (by rw [e]; decide)]
  unfold dskSu; rw [one 0 (by omega), one 1 (by omega)]; rfl
theorem dsk_new_none : dskSu Dsk.new = [] := dsk_none fun k hk => .inr (by rw [new_now, sec_zero (by omega), decO_zeros])
theorem dsk_failed_none : dskSu Dsk.failed = [] := dsk_none fun k hk => .inl rfl
theorem best3 (N : Bch) : bestTo N 3 = (dskSu (N.D 2)).foldl pickS ((dskSu (N.D 1)).foldl pickS ((dskSu (N.D 0)).foldl pickS suZ)) := rfl
theorem pick_first {s : Su} (h : 1 ≤ s.g) : pickS suZ s = s := if_pos (by show (0 : Int) < s.g; omega)
/-- One disk of three has the Super, the others nothing. -/
theorem best_mid {N : Bch} {s : Su} (hn : N.n = 3) (hd : N.down = false) (h0 : dskSu (N.D 0) = []) (h1 : dskSu (N.D 1) = [s]) (h2 : dskSu (N.D 2) = []) (hg : 1 ≤ s.g) : bestE N = 0 ∧ bestS N = s ∧ hasL N = [false, true, false] := by
  have hb : bestTo N N.n = s := by
    rw [hn, best3, h0, h1, h2]; exact pick_first hg
  have he : bestE N = 0 := by unfold bestE; rw [if_neg (by simp [hd]), hb, if_neg (by omega)]
  refine ⟨he, by rw [bestS_some he, hb], ?_⟩
  rw [hasL_some he, hb, hn]
  show [hasB N s 0, hasB N s 1, hasB N s 2] = _
  unfold hasB
  rw [h0, h1, h2]
  simp
  omega
theorem best_empty {N : Bch} (hn : N.n = 3) (hd : N.down = false) (h : ∀ j, j < 3 → dskSu (N.D j) = []) : bestE N = 3 := by
  have hb : bestTo N N.n = suZ := by
    rw [hn, best3, h 0 (by omega), h 1 (by omega), h 2 (by omega)]; rfl
  unfold bestE; rw [if_neg (by simp [hd]), hb]; rfl
theorem store_down {N : Bch} {lv : List Bool} {s : Su} (hs : suOk s = true) (hd : N.down = true) (hn : 0 < N.n) (h0 : lv.getD 0 false = true) : (storeS N lv s).1 = 6 := by
  have hl : 0 < lv.length := by
    rcases Nat.eq_zero_or_pos lv.length with h | h
    · rw [List.eq_nil_of_length_eq_zero h] at h0; cases h0
    · exact h
  have hw : (wrF (slotI s.g) (suB s) N 0).1 = 6 := by
    show N.writeE _ _ _ = 6
    have hp : N.powE ((0 : Nat) : Int) = 6 := Bch.powE_down (Bch.pickE_ok (by omega) (by omega)) hd
    unfold Bch.writeE; rw [if_pos (by rw [hp]; decide), hp]
  have h1 : (onTo (wrF (slotI s.g) (suB s)) lv N 1).1 = 6 := by
    rw [onTo_goes (i := 0) rfl h0 (by rw [show (onTo (wrF (slotI s.g) (suB s)) lv N 0).2 = N from rfl, hw]; decide)]
    exact hw
  have h2 : (wroteS N lv s).1 = 6 := by
    unfold wroteS
    rw [onTo_stop (i := 1) (by rw [h1]; decide) _ (by omega)]
    exact h1
  unfold storeS
  rw [if_neg (by simp [hs]), if_pos (by rw [h2]; decide), h2]
structure E1 (N : Bch) (s : Su) : Prop where
  n : N.n = 3
  dn : N.down = false
  lf : N.left = -1
  done : N.done ≤ 10
  D0 : N.D 0 = Dsk.new
  ps : ∀ i, i < N.n → (N.D i).ps = []
  ok : suOk s = true
theorem err_first {N : Bch} {lv : List Bool} {s : Su} (h : StG (Bch.new 3) N lv s) (hs : suOk s = true) (hg : slotI s.g = 1) (l0 : lv.getD 0 false = false) (l1 : lv.getD 1 false = true) (l2 : lv.getD 2 false = false) (hl : 2 ≤ lv.length) :
    E1 N s ∧ N.done = 1 ∧ bestE N = 0 ∧ bestS N = s ∧ hasL N = [false, true, false] ∧ (N.D 1).f = false ∧ N.D 2 = Dsk.new := by
  have d0 : N.D 0 = Dsk.new := (h.D 0 (by decide)).trans (stD_not l0)
  have d2 : N.D 2 = Dsk.new := (h.D 2 (by decide)).trans (stD_not l2)
  have d1 : N.D 1 = stD lv s Dsk.new 1 := h.D 1 (by decide)
  have k1 : dskSu (N.D 1) = [s] := by
    rw [d1]
    unfold dskSu
    rw [stD_slot hs Dsk.new_ok l1 rfl 0, stD_slot hs Dsk.new_ok l1 rfl 1, hg, if_neg (by decide), if_pos rfl]
    have : slotL Dsk.new 0 = [] := by
      unfold slotL; rw [if_neg (by decide), new_now, sec_zero (by omega), decO_zeros]; rfl
    rw [this]; rfl
  have hc : cntTo (Bch.new 3) lv (min 3 lv.length) = 1 := by
    have e3 : cntTo (Bch.new 3) lv 2 = 1 := by
      show 0 + (if _ then 1 else 0) + (if _ then 1 else 0) = 1
      rw [if_neg (no1 l0), if_pos ⟨l1, rfl⟩]
    rcases Nat.lt_or_ge lv.length 3 with c | c
    · rw [show min 3 lv.length = 2 by omega]; exact e3
    · rw [show min 3 lv.length = 3 by omega]
      show cntTo (Bch.new 3) lv 2 + (if _ then 1 else 0) = 1
      rw [e3, if_neg (no1 l2)]
  have hdn : N.done = 1 := h.done.trans (by rw [show (Bch.new 3).n = 3 from rfl, hc]; rfl)
  have b := best_mid (s := s) h.n h.dn (by rw [d0]; exact dsk_new_none) k1 (by rw [d2]; exact dsk_new_none) (suIn hs).g.1
  refine ⟨⟨h.n, h.dn, h.lf, by omega, d0, fun i hi => ?_, hs⟩, hdn, b.1, b.2.1, b.2.2, by rw [d1, stD_f]; rfl, d2⟩
  rw [h.D i (by rw [h.n] at hi; exact hi)]
  exact stD_ps _ _ _ rfl
theorem err_fail {N : Bch} {s : Su} (h : E1 N s) (h1 : (N.D 1).f = false) (h2 : N.D 2 = Dsk.new) : E1 (N.fail 1) s ∧ bestE (N.fail 1) = 3 := by
  have hp : N.pickE 1 = 0 := Bch.pickE_ok (by omega) (by rw [h.n]; decide)
  have e : N.fail 1 = N.set 1 Dsk.failed := by unfold Bch.fail; rw [if_neg (by simp [hp])]; rfl
  rw [e]
  have g0 : (N.set 1 Dsk.failed).D 0 = Dsk.new := by show upd N.D 1 Dsk.failed 0 = _; rw [upd_other _ _ (by decide)]; exact h.D0
  have g1 : (N.set 1 Dsk.failed).D 1 = Dsk.failed := by show upd N.D 1 Dsk.failed 1 = _; rw [upd_same]
  have g2 : (N.set 1 Dsk.failed).D 2 = Dsk.new := by show upd N.D 1 Dsk.failed 2 = _; rw [upd_other _ _ (by decide)]; exact h2
  refine ⟨⟨h.n, h.dn, h.lf, h.done, g0, fun i hi => ?_, h.ok⟩, best_empty h.n h.dn fun j hj => ?_⟩
  · by_cases c : i = 1
    · subst c; rw [g1]; rfl
    · show (upd N.D 1 Dsk.failed i).ps = []
      rw [upd_other _ _ c]; exact h.ps i hi
  · obtain rfl | rfl | rfl : j = 0 ∨ j = 1 ∨ j = 2 := by omega
    · rw [g0]; exact dsk_new_none
    · rw [g1]; exact dsk_failed_none
    · rw [g2]; exact dsk_new_none
/-- The power goes with a write that is not done any more. -/
theorem err_down {N M : Bch} {lv : List Bool} {s : Su} (h : E1 N s) (g : StG N M lv s) (l0 : lv.getD 0 false = false) : (M.limit 0).n = 3 ∧ (M.limit 0).done ≤ 20 ∧ (∀ i, i < (M.limit 0).n → ((M.limit 0).D i).ps = []) ∧ ∀ x : List UInt8, x.length = 32 → ((M.limit 0).write 0 0 x).down = true ∧ ((M.limit 0).write 0 0 x).n = 3 ∧ ((M.limit 0).write 0 0 x).done ≤ 20 ∧ (∀ i, i < 3 → (((M.limit 0).write 0 0 x).D i).ps = []) := by
  have e : M.limit 0 = { M with left := 0 } := by unfold Bch.limit; rw [if_neg (by simp [g.dn])]; rfl
  rw [e]
  have hMn : M.n = 3 := g.n.trans h.n
  have hps : ∀ i, i < 3 → (M.D i).ps = [] := fun i hi => by
    rw [g.D i (by rw [h.n]; exact hi)]
    exact stD_ps _ _ _ (h.ps i (by rw [h.n]; exact hi))
  have hD0 : M.D 0 = Dsk.new := by rw [g.D 0 (by rw [h.n]; decide), stD_not l0]; exact h.D0
  have hc := cntTo_le N lv (min N.n lv.length)
  have hdn : M.done ≤ 20 := by have h1 := g.done; have h2 := h.done; have h3 := h.n; omega
  refine ⟨hMn, hdn, fun i hi => hps i (by rw [← hMn]; exact hi), fun x hx => ?_⟩
  have hp : ({ M with left := 0 } : Bch).powE 0 = 0 := Bch.powE_ok (Bch.pickE_ok (by omega) (by show (0 : Int) < (M.n : Int); rw [hMn]; decide)) g.dn
  have ht : takeE (({ M with left := 0 } : Bch).at_ 0).f 0 x.length = 0 := by
    rw [hx, show (({ M with left := 0 } : Bch).at_ 0).f = false from by show (M.D 0).f = false; rw [hD0]; rfl]; exact takeE_ok (by omega) (by omega)
  have ew : ({ M with left := 0 } : Bch).write 0 0 x = { M with left := 0, down := true } := by
    unfold Bch.write
    rw [if_neg (by simp [hp]), if_neg (by simp [ht]), if_pos rfl]
    rfl
  rw [ew]
  exact ⟨rfl, hMn, hdn, hps⟩
theorem build_suz (w : World) : (Instr.build 32 #[]).run Tryd.prog w = .ok (.agg #[.int .i64 suZ.g, .int .i64 suZ.al, .int .i64 suZ.ad, .int .i64 suZ.ac, .int .i64 suZ.bl, .int .i64 suZ.bd, .int .i64 suZ.bc, .bool suZ.r, .int .i64 suZ.wi, .int .i64 suZ.ep, .int .i64 suZ.ou]) w := by kernel_rfl
theorem suZ64' : Su64 suZ := by constructor <;> (show _ ∧ _; decide)
theorem limit0_i : i64B 0 := ⟨by omega, by omega⟩
attribute [local go_sem ↓] su_eql su_neq in
set_option maxRecDepth 100000 in
set_option maxHeartbeats 8000000 in
theorem slotserrors_true (n : Int) (w : World) (hn : (-9223372036854775808 ≤ n ∧ n ≤ 9223372036854775807)) (ht : TabOk w) :
    Calls Tryd.prog 4 #[.int .i64 n, .bool true] w fun e w' => e = .returned (.bool true) ∧ Below w.heap.size w w' := by
  have hpn := ptr_eq
  have Ht := Lib.hid ht
  have CN := Lib.hid (bp_new 3 w w (Below.refl _ _) (by omega))
  have CO := Lib.hid (fun V => one_any 3 n V hn)
  have hok := Lib.hid (oneS_ok (gen := 3) n (by omega))
  have h64 := Lib.hid (oneS_64 (gen := 3) n (by omega))
  have hgen : Hid ((oneS 3 n).g = 3) := rfl
  generalize oneS 3 n = s at CO hok h64 hgen
  have hsl : Hid (slotI s.g = 1) := Lib.hid (by rw [hgen.out]; rfl)
  have hq := suEq_refl s
  have hz := build_suz
  clear ht hn
  go_enter Tryd.func4, Tryd.ntmps4
  go_wp2_with fail
  refine CN.out.mono ?_
  rintro e w1 ⟨b, H, rfl, hp, _, _⟩
  unfold ptr
  have K1 : Hid (KX w w1 b H (Bch.new 3) []) := ⟨hp, fun p hp => by cases hp⟩
  clear hp CN
  have hd0 : (((Bch.new 3).done : Nat) : Int) = 0 := rfl
  go_wp2_with fail
  have K2 := Lib.hid (K1.out.add (.cells #[.bool true, .bool true, .bool true] 4 (0, 0)))
  refine (kx_refused K2.out suZ (by decide) suZ64' Ht.out [true, true, true] w1.heap.size 3 3 [true, true, true] 3 _ _ _ (List.mem_cons_self ..) rfl rfl (by decide) rfl (fun i hi => rfl) (by decide)).mono ?_
  rintro e w2 ⟨rfl, H2, k2⟩
  have K3 := Lib.hid k2
  clear k2 K2 K1
  go_wp2_with (go_at_call 15; refine (bp_writes _ _ _ _ _ K3.out.bp).mono ?_; rintro e w3 ⟨rfl, rfl⟩)
  have K4 := Lib.hid (K3.out.add (.cells #[.bool false, .bool true, .bool false] 4 (0, 0)))
  refine (CO.out _).mono ?_
  rintro e w4 ⟨s', hs', rfl, hb4⟩
  have hs' := hs'.symm
  subst hs'
  have K5 := Lib.hid (K4.out.below hb4)
  generalize hg3 : w3.heap.size = g3 at K5 ⊢
  have Hg3 := Lib.hid hg3
  clear hg3 hb4 K4 CO K3
  go_wp2_with (first
    | (refine wpList_store_blk rfl 32 _ _ (by rfl) w4.heap.size 0 (.agg (suL s).toArray) (by rfl) (by rfl) (suL suZ) 32 (heap_alloc_new _ _) (suL s) rfl 11 rfl (by kernel_rfl) (Nat.le_refl 11) (suL_one s) (suL s) (by rfl) ?_; intro w5 h5 g5
       have K6 := Lib.hid (K5.out.box _ g5 h5)
       obtain ⟨x0, x1, x2, x3, x4, x5, x6, x7, x8, x9, x10⟩ := K6.out.sat (List.mem_cons_self ..)
       clear h5 g5 K5))
  refine (kx_store K6.out s hok.out h64.out Ht.out rfl rfl [false, true] g3 2 3 [false, true, false] 2 #[.bool false, .bool true, .bool false] 4 (0, 0) (by simp) rfl rfl (by decide) rfl (fun i hi => rfl) (by decide)).mono ?_
  rintro e w6 ⟨rfl, H6, N6, k6, st6⟩
  have K7 := Lib.hid k6
  have E7 := Lib.hid (err_first st6 hok.out hsl.out rfl rfl rfl (by decide))
  have hd6 : ((N6.done : Nat) : Int) = 1 := by rw [E7.out.2.1]; rfl
  clear k6 st6 x0 x1 x2 x3 x4 x5 x6 x7 x8 x9 x10
  go_wp2_with (go_at_call 15; refine (bp_writes _ _ _ _ _ K7.out.bp).mono ?_; rintro e w7 ⟨rfl, rfl⟩)
  have CB := kx_best K7.out Ht.out
  rw [E7.out.2.2.1, E7.out.2.2.2.1, E7.out.2.2.2.2.1] at CB
  refine CB.mono ?_
  rintro e w8 ⟨v8, s8, hs8, rfl, ho8, k8, _⟩
  subst hs8
  obtain ⟨gh, cap, rfl, hcap, _, hghl, c0, c1, c2⟩ := ow3 ho8
  have K8 := Lib.hid k8
  have c3 : (3 : Int) ≤ (cap : Int) := by omega
  have C0 := Lib.hid c0
  have C1 := Lib.hid c1
  have C2 := Lib.hid c2
  clear CB ho8 k8 c0 c1 c2
  go_wp2_with (first
    | (refine wpList_store_blk rfl 32 _ _ (by rfl) w8.heap.size 0 (.agg (suL s8).toArray) (by rfl) (by rfl) (suL suZ) 32 (heap_alloc_new _ _) (suL s8) rfl 11 rfl (by kernel_rfl) (Nat.le_refl 11) (suL_one s8) (suL s8) (by rfl) ?_; intro w9 h9 g9
       have K9 := Lib.hid (K8.out.box _ g9 h9)
       have b9 : Below w8.heap.size w8 w9 := (below1 w8 _).grown g9 (by simp) (fun j e => by injection e with e; omega)
       obtain ⟨x0, x1, x2, x3, x4, x5, x6, x7, x8, x9, x10⟩ := K9.out.sat (t := 32) (f := (0, 0)) (p := w4.heap.size) (s := s8) (by simp)
       obtain ⟨y0, y1, y2, y3, y4, y5, y6, y7, y8, y9, y10⟩ := K9.out.sat (List.mem_cons_self ..)
       have c0 := (b9.cell (p := ⟨gh, 0, none⟩) hghl).trans C0.out
       have c1 := (b9.cell (p := ⟨gh, 1, none⟩) hghl).trans C1.out
       have c2 := (b9.cell (p := ⟨gh, 2, none⟩) hghl).trans C2.out
       clear h9 g9 b9))
  refine (bp_fail w w9 b H6 N6 K9.out.bp 1 ⟨by omega, by omega⟩).mono ?_
  rintro e w10 ⟨rfl, ht10⟩
  obtain ⟨H10, k10⟩ := K9.out.bc ht10 (fail_n _ _)
  have K10 := Lib.hid k10
  have E10 := Lib.hid (err_fail E7.out.1 E7.out.2.2.2.2.2.1 E7.out.2.2.2.2.2.2)
  clear ht10 k10 K9 x0 x1 x2 x3 x4 x5 x6 x7 x8 x9 x10 y0 y1 y2 y3 y4 y5 y6 y7 y8 y9 y10 c0 c1 c2 E7 hd6
  generalize N6.fail 1 = N10 at K10 E10
  go_wp2_with fail
  have CB := kx_best K10.out Ht.out
  rw [E10.out.2] at CB
  refine CB.mono ?_
  rintro e w11 ⟨v11, s11, hs11, rfl, _, k11, _⟩
  clear hs11
  have K11 := Lib.hid k11
  clear CB k11 K10
  go_wp2_with (first
    | (refine wpList_store_blk rfl 32 _ _ (by rfl) w11.heap.size 0 (.agg (suL s11).toArray) (by rfl) (by rfl) (suL suZ) 32 (heap_alloc_new _ _) (suL s11) rfl 11 rfl (by kernel_rfl) (Nat.le_refl 11) (suL_one s11) (suL s11) (by rfl) ?_; intro w12 h12 g12
       have K12 := Lib.hid (K11.out.box _ g12 h12)
       obtain ⟨x0, x1, x2, x3, x4, x5, x6, x7, x8, x9, x10⟩ := K12.out.sat (t := 32) (f := (0, 0)) (p := w4.heap.size) (s := s8) (by simp)
       clear h12 g12))
  refine (kx_store K12.out s8 hok.out h64.out Ht.out E10.out.1.dn E10.out.1.lf [false, true] g3 2 3 [false, true, false] 2 #[.bool false, .bool true, .bool false] 4 (0, 0) (by simp) rfl rfl (by decide) rfl E10.out.1.ps (by have := E10.out.1.done; omega)).mono ?_
  rintro e w13 ⟨rfl, H13, N13, k13, st13⟩
  have K13 := Lib.hid k13
  have E13 := Lib.hid (err_down E10.out.1 st13 rfl)
  clear k13 st13 K12 K11 E10 x0 x1 x2 x3 x4 x5 x6 x7 x8 x9 x10
  go_wp2_with fail
  refine (bp_limit w w13 b H13 N13 K13.out.bp 0 limit0_i).mono ?_
  rintro e w14 ⟨rfl, ht14⟩
  obtain ⟨H14, k14⟩ := K13.out.bc ht14 (limit_n _ _)
  have K14 := Lib.hid k14
  clear k14 ht14 K13
  generalize N13.limit 0 = N14 at K14 E13
  go_wp2_with fail
  refine (sector_any 1 _ (by omega)).mono ?_
  rintro e w15 ⟨gs, rfl, ho15, hb15⟩
  have K15 := Lib.hid (K14.out.below hb15)
  have R15 := Lib.hid ho15.rdS.1
  clear ho15 hb15 K14
  go_wp2_with fail
  refine (bp_write w w15 b H14 N14 K15.out.bp 0 0 (sectorB 1) (some ⟨gs, 0, none⟩) 32 32 (sectorB_len 1).symm limit0_i limit0_i R15.out (fun i hi => by rw [E13.out.2.2.1 i hi]; exact Nat.zero_le _) (by have := E13.out.2.1; omega)).mono ?_
  rintro e w16 ⟨rfl, ht16⟩
  obtain ⟨H16, k16⟩ := K15.out.bc ht16 (Bch.write_n _ _ _ _)
  have K16 := Lib.hid k16
  have E16 := Lib.hid (E13.out.2.2.2 (sectorB 1) (sectorB_len 1))
  clear ht16 k16 K15 R15 E13
  generalize N14.write 0 0 (sectorB 1) = N16 at K16 E16
  generalize N14.writeE 0 0 32 = e16
  go_wp2_with fail
  have CB := kx_best K16.out Ht.out
  rw [show bestE N16 = 6 from if_pos E16.out.1] at CB
  refine CB.mono ?_
  rintro e w17 ⟨v17, s17, hs17, rfl, _, k17, _⟩
  clear hs17
  have K17 := Lib.hid k17
  clear CB k17 K16
  go_wp2_with (first
    | (refine wpList_store_blk rfl 32 _ _ (by rfl) w17.heap.size 0 (.agg (suL s17).toArray) (by rfl) (by rfl) (suL suZ) 32 (heap_alloc_new _ _) (suL s17) rfl 11 rfl (by kernel_rfl) (Nat.le_refl 11) (suL_one s17) (suL s17) (by rfl) ?_; intro w18 h18 g18
       have K18 := Lib.hid (K17.out.box _ g18 h18)
       have K19 := Lib.hid (K18.out.add (.cells #[.bool true] 4 (0, 0)))
       obtain ⟨x0, x1, x2, x3, x4, x5, x6, x7, x8, x9, x10⟩ := K19.out.sat (t := 32) (f := (0, 0)) (p := w4.heap.size) (s := s8) (by simp)
       clear h18 g18 K18 K17))
  refine (kx_storeAny K19.out s8 h64.out Ht.out [true] w18.heap.size 1 1 [true] 1 #[.bool true] 4 (0, 0) (List.mem_cons_self ..) rfl rfl (by decide) rfl (fun i hi => E16.out.2.2.2 i (by have := E16.out.2.1; omega)) (by have := E16.out.2.2.1; omega) 6 (store_down hok.out E16.out.1 (by have := E16.out.2.1; omega) rfl)).mono ?_
  rintro e w20 ⟨rfl, H20, k20⟩
  have F := Lib.hid k20.bp.bel
  clear k20 K19 x0 x1 x2 x3 x4 x5 x6 x7 x8 x9 x10
  go_wp2_with fail
  refine (wakesSl_any w20 (Ht.out.below F.out Ht.out.pos)).mono ?_
  rintro e w21 ⟨rfl, hb21⟩
  have F2 := Lib.hid (F.out.trans (hb21.mono F.out.size))
  clear hb21
  go_wp2_with fail
  go_ret
  exact ⟨rfl, F2.out⟩
attribute [local go_sem ↓] su_eql su_neq in
set_option maxRecDepth 100000 in
set_option maxHeartbeats 8000000 in
theorem slotserrors_false (n : Int) (w : World) (hn : (-9223372036854775808 ≤ n ∧ n ≤ 9223372036854775807)) (ht : TabOk w) :
    Calls Tryd.prog 4 #[.int .i64 n, .bool false] w fun e w' => e = .returned (.bool true) ∧ Below w.heap.size w w' := by
  have hpn := ptr_eq
  have Ht := Lib.hid ht
  have CN := Lib.hid (bp_new 3 w w (Below.refl _ _) (by omega))
  have CO := Lib.hid (fun V => one_any 3 n V hn)
  have hok := Lib.hid (oneS_ok (gen := 3) n (by omega))
  have h64 := Lib.hid (oneS_64 (gen := 3) n (by omega))
  have hgen : Hid ((oneS 3 n).g = 3) := rfl
  generalize oneS 3 n = s at CO hok h64 hgen
  have hsl : Hid (slotI s.g = 1) := Lib.hid (by rw [hgen.out]; rfl)
  have hq := suEq_refl s
  have hz := build_suz
  clear ht hn
  go_enter Tryd.func4, Tryd.ntmps4
  go_wp2_with fail
  refine CN.out.mono ?_
  rintro e w1 ⟨b, H, rfl, hp, _, _⟩
  unfold ptr
  have K1 : Hid (KX w w1 b H (Bch.new 3) []) := ⟨hp, fun p hp => by cases hp⟩
  clear hp CN
  have hd0 : (((Bch.new 3).done : Nat) : Int) = 0 := rfl
  go_wp2_with fail
  have K2 := Lib.hid (K1.out.add (.cells #[.bool true, .bool true, .bool true] 4 (0, 0)))
  refine (kx_refused K2.out suZ (by decide) suZ64' Ht.out [true, true, true] w1.heap.size 3 3 [true, true, true] 3 _ _ _ (List.mem_cons_self ..) rfl rfl (by decide) rfl (fun i hi => rfl) (by decide)).mono ?_
  rintro e w2 ⟨rfl, H2, k2⟩
  have K3 := Lib.hid k2
  clear k2 K2 K1
  go_wp2_with (go_at_call 15; refine (bp_writes _ _ _ _ _ K3.out.bp).mono ?_; rintro e w3 ⟨rfl, rfl⟩)
  have K4 := Lib.hid (K3.out.add (.cells #[.bool false, .bool true, .bool false] 4 (0, 0)))
  refine (CO.out _).mono ?_
  rintro e w4 ⟨s', hs', rfl, hb4⟩
  have hs' := hs'.symm
  subst hs'
  have K5 := Lib.hid (K4.out.below hb4)
  generalize hg3 : w3.heap.size = g3 at K5 ⊢
  have Hg3 := Lib.hid hg3
  clear hg3 hb4 K4 CO K3
  go_wp2_with (first
    | (refine wpList_store_blk rfl 32 _ _ (by rfl) w4.heap.size 0 (.agg (suL s).toArray) (by rfl) (by rfl) (suL suZ) 32 (heap_alloc_new _ _) (suL s) rfl 11 rfl (by kernel_rfl) (Nat.le_refl 11) (suL_one s) (suL s) (by rfl) ?_; intro w5 h5 g5
       have K6 := Lib.hid (K5.out.box _ g5 h5)
       obtain ⟨x0, x1, x2, x3, x4, x5, x6, x7, x8, x9, x10⟩ := K6.out.sat (List.mem_cons_self ..)
       clear h5 g5 K5))
  refine (kx_store K6.out s hok.out h64.out Ht.out rfl rfl [false, true, false] g3 3 3 [false, true, false] 3 #[.bool false, .bool true, .bool false] 4 (0, 0) (by simp) rfl rfl (by decide) rfl (fun i hi => rfl) (by decide)).mono ?_
  rintro e w6 ⟨rfl, H6, N6, k6, st6⟩
  have K7 := Lib.hid k6
  have E7 := Lib.hid (err_first st6 hok.out hsl.out rfl rfl rfl (by decide))
  have hd6 : ((N6.done : Nat) : Int) = 1 := by rw [E7.out.2.1]; rfl
  clear k6 st6 x0 x1 x2 x3 x4 x5 x6 x7 x8 x9 x10
  go_wp2_with (go_at_call 15; refine (bp_writes _ _ _ _ _ K7.out.bp).mono ?_; rintro e w7 ⟨rfl, rfl⟩)
  have CB := kx_best K7.out Ht.out
  rw [E7.out.2.2.1, E7.out.2.2.2.1, E7.out.2.2.2.2.1] at CB
  refine CB.mono ?_
  rintro e w8 ⟨v8, s8, hs8, rfl, ho8, k8, _⟩
  subst hs8
  obtain ⟨gh, cap, rfl, hcap, _, hghl, c0, c1, c2⟩ := ow3 ho8
  have K8 := Lib.hid k8
  have c3 : (3 : Int) ≤ (cap : Int) := by omega
  have C0 := Lib.hid c0
  have C1 := Lib.hid c1
  have C2 := Lib.hid c2
  clear CB ho8 k8 c0 c1 c2
  go_wp2_with (first
    | (refine wpList_store_blk rfl 32 _ _ (by rfl) w8.heap.size 0 (.agg (suL s8).toArray) (by rfl) (by rfl) (suL suZ) 32 (heap_alloc_new _ _) (suL s8) rfl 11 rfl (by kernel_rfl) (Nat.le_refl 11) (suL_one s8) (suL s8) (by rfl) ?_; intro w9 h9 g9
       have K9 := Lib.hid (K8.out.box _ g9 h9)
       have b9 : Below w8.heap.size w8 w9 := (below1 w8 _).grown g9 (by simp) (fun j e => by injection e with e; omega)
       obtain ⟨x0, x1, x2, x3, x4, x5, x6, x7, x8, x9, x10⟩ := K9.out.sat (t := 32) (f := (0, 0)) (p := w4.heap.size) (s := s8) (by simp)
       obtain ⟨y0, y1, y2, y3, y4, y5, y6, y7, y8, y9, y10⟩ := K9.out.sat (List.mem_cons_self ..)
       have c0 := (b9.cell (p := ⟨gh, 0, none⟩) hghl).trans C0.out
       have c1 := (b9.cell (p := ⟨gh, 1, none⟩) hghl).trans C1.out
       have c2 := (b9.cell (p := ⟨gh, 2, none⟩) hghl).trans C2.out
       clear h9 g9 b9))
  refine (bp_fail w w9 b H6 N6 K9.out.bp 1 ⟨by omega, by omega⟩).mono ?_
  rintro e w10 ⟨rfl, ht10⟩
  obtain ⟨H10, k10⟩ := K9.out.bc ht10 (fail_n _ _)
  have K10 := Lib.hid k10
  have E10 := Lib.hid (err_fail E7.out.1 E7.out.2.2.2.2.2.1 E7.out.2.2.2.2.2.2)
  clear ht10 k10 K9 x0 x1 x2 x3 x4 x5 x6 x7 x8 x9 x10 y0 y1 y2 y3 y4 y5 y6 y7 y8 y9 y10 c0 c1 c2 E7 hd6
  generalize N6.fail 1 = N10 at K10 E10
  go_wp2_with fail
  have CB := kx_best K10.out Ht.out
  rw [E10.out.2] at CB
  refine CB.mono ?_
  rintro e w11 ⟨v11, s11, hs11, rfl, _, k11, _⟩
  clear hs11
  have K11 := Lib.hid k11
  clear CB k11 K10
  go_wp2_with (first
    | (refine wpList_store_blk rfl 32 _ _ (by rfl) w11.heap.size 0 (.agg (suL s11).toArray) (by rfl) (by rfl) (suL suZ) 32 (heap_alloc_new _ _) (suL s11) rfl 11 rfl (by kernel_rfl) (Nat.le_refl 11) (suL_one s11) (suL s11) (by rfl) ?_; intro w12 h12 g12
       have K12 := Lib.hid (K11.out.box _ g12 h12)
       obtain ⟨x0, x1, x2, x3, x4, x5, x6, x7, x8, x9, x10⟩ := K12.out.sat (t := 32) (f := (0, 0)) (p := w4.heap.size) (s := s8) (by simp)
       clear h12 g12))
  refine (kx_store K12.out s8 hok.out h64.out Ht.out E10.out.1.dn E10.out.1.lf [false, true, false] g3 3 3 [false, true, false] 3 #[.bool false, .bool true, .bool false] 4 (0, 0) (by simp) rfl rfl (by decide) rfl E10.out.1.ps (by have := E10.out.1.done; omega)).mono ?_
  rintro e w13 ⟨rfl, H13, N13, k13, st13⟩
  have K13 := Lib.hid k13
  have E13 := Lib.hid (err_down E10.out.1 st13 rfl)
  clear k13 st13 K12 K11 E10 x0 x1 x2 x3 x4 x5 x6 x7 x8 x9 x10
  go_wp2_with fail
  refine (bp_limit w w13 b H13 N13 K13.out.bp 0 limit0_i).mono ?_
  rintro e w14 ⟨rfl, ht14⟩
  obtain ⟨H14, k14⟩ := K13.out.bc ht14 (limit_n _ _)
  have K14 := Lib.hid k14
  clear k14 ht14 K13
  generalize N13.limit 0 = N14 at K14 E13
  go_wp2_with fail
  refine (sector_any 1 _ (by omega)).mono ?_
  rintro e w15 ⟨gs, rfl, ho15, hb15⟩
  have K15 := Lib.hid (K14.out.below hb15)
  have R15 := Lib.hid ho15.rdS.1
  clear ho15 hb15 K14
  go_wp2_with fail
  refine (bp_write w w15 b H14 N14 K15.out.bp 0 0 (sectorB 1) (some ⟨gs, 0, none⟩) 32 32 (sectorB_len 1).symm limit0_i limit0_i R15.out (fun i hi => by rw [E13.out.2.2.1 i hi]; exact Nat.zero_le _) (by have := E13.out.2.1; omega)).mono ?_
  rintro e w16 ⟨rfl, ht16⟩
  obtain ⟨H16, k16⟩ := K15.out.bc ht16 (Bch.write_n _ _ _ _)
  have K16 := Lib.hid k16
  have E16 := Lib.hid (E13.out.2.2.2 (sectorB 1) (sectorB_len 1))
  clear ht16 k16 K15 R15 E13
  generalize N14.write 0 0 (sectorB 1) = N16 at K16 E16
  generalize N14.writeE 0 0 32 = e16
  go_wp2_with fail
  have CB := kx_best K16.out Ht.out
  rw [show bestE N16 = 6 from if_pos E16.out.1] at CB
  refine CB.mono ?_
  rintro e w17 ⟨v17, s17, hs17, rfl, _, k17, _⟩
  clear hs17
  have K17 := Lib.hid k17
  clear CB k17 K16
  go_wp2_with (first
    | (refine wpList_store_blk rfl 32 _ _ (by rfl) w17.heap.size 0 (.agg (suL s17).toArray) (by rfl) (by rfl) (suL suZ) 32 (heap_alloc_new _ _) (suL s17) rfl 11 rfl (by kernel_rfl) (Nat.le_refl 11) (suL_one s17) (suL s17) (by rfl) ?_; intro w18 h18 g18
       have K18 := Lib.hid (K17.out.box _ g18 h18)
       have K19 := Lib.hid (K18.out.add (.cells #[.bool true] 4 (0, 0)))
       obtain ⟨x0, x1, x2, x3, x4, x5, x6, x7, x8, x9, x10⟩ := K19.out.sat (t := 32) (f := (0, 0)) (p := w4.heap.size) (s := s8) (by simp)
       clear h18 g18 K18 K17))
  refine (kx_storeAny K19.out s8 h64.out Ht.out [true] w18.heap.size 1 1 [true] 1 #[.bool true] 4 (0, 0) (List.mem_cons_self ..) rfl rfl (by decide) rfl (fun i hi => E16.out.2.2.2 i (by have := E16.out.2.1; omega)) (by have := E16.out.2.2.1; omega) 6 (store_down hok.out E16.out.1 (by have := E16.out.2.1; omega) rfl)).mono ?_
  rintro e w20 ⟨rfl, H20, k20⟩
  have F := Lib.hid k20.bp.bel
  clear k20 K19 x0 x1 x2 x3 x4 x5 x6 x7 x8 x9 x10
  go_wp2_with fail
  refine (wakesSl_any w20 (Ht.out.below F.out Ht.out.pos)).mono ?_
  rintro e w21 ⟨rfl, hb21⟩
  have F2 := Lib.hid (F.out.trans (hb21.mono F.out.size))
  clear hb21
  go_wp2_with fail
  go_ret
  exact ⟨rfl, F2.out⟩
theorem slotserrors (n : Int) (few : Bool) (w : World) (hn : (-9223372036854775808 ≤ n ∧ n ≤ 9223372036854775807)) (ht : TabOk w) :
    Calls Tryd.prog 4 #[.int .i64 n, .bool few] w fun e w' => e = .returned (.bool true) ∧ Below w.heap.size w w' := by
  cases few
  · exact slotserrors_false n w hn ht
  · exact slotserrors_true n w hn ht
end Go.Proofs.YtiipdhmfdgbmiaaDoor
