/- LogOne walked: a record that one disk alone has is found, put on all again, and found whoever is lost then. -/
import Derived.Test.YtkbhnbkjpnigkaaDoorLcba
import Derived.Test.YtkbhnbkjpnigkaaDoorLcal
import Derived.Test.YtkbhnbkjpnigkaaDoorLcaj
import Derived.Test.YtkbhnbkjpnigkaaDoorLcad
set_option maxRecDepth 8000
set_option linter.unusedVariables false
set_option linter.unusedSimpArgs false
namespace Go.Proofs.YtkbhnbkjpnigkaaDoor
open Go.RowKit

theorem KX.box2 {W w : World} {b : Nat} {H : BH} {N : Bch} {K : List (Nat × Obj)} (h : KX W w b H N K) {p : Nat} {u v : Value} {t : TypeId} {f : Nat × Nat} (hm : (p, Obj.cells #[u, v] t f) ∈ K) : w.cell? ⟨p, 0, none⟩ = some u ∧ w.cell? ⟨p, 1, none⟩ = some v :=
  ⟨cell_of_row _ _ 0 _ _ _ (h.kp _ hm).1, cell_of_row _ _ 1 _ _ _ (h.kp _ hm).1⟩
theorem live_o {o j : Nat} (ho : o < 3) (hj : j < 3) : liveD 3 [((o : Int) == 0), ((o : Int) == 1), ((o : Int) == 2)] (j : Int) = decide (o = j) := by
  have h : o = 0 ∨ o = 1 ∨ o = 2 := by omega
  have h' : j = 0 ∨ j = 1 ∨ j = 2 := by omega
  rcases h with rfl | rfl | rfl <;> rcases h' with rfl | rfl | rfl <;> rfl
theorem live_all {j : Nat} (hj : j < 3) : liveD 3 [true, true, true] (j : Int) = true := by
  have h' : j = 0 ∨ j = 1 ∨ j = 2 := by omega
  rcases h' with rfl | rfl | rfl <;> rfl
theorem sameRec_eq (s : Int) (A A' : Option Addr) (n c c' : Nat) (l : List It) (w : World) (hn : l.length = n) (h : RdI w w.heap.size A l) (h' : RdI w w.heap.size A' l) :
    Calls Tryd.prog 14 #[.agg #[.int .i64 s, .slice A n c], .agg #[.int .i64 s, .slice A' n c']] w fun e w' => e = .returned (.bool true) ∧ Below w.heap.size w w' := by
  have := sameRec_any s s A A' n n c c' l l w hn hn h h'
  rwa [decide_eq_true (show s = s ∧ l = l from ⟨rfl, rfl⟩)] at this
/-- All three disks have it, and none has failed. -/
structure AllS (N : Bch) (s : Int) (l : List It) (c : Nat) : Prop where
  n : N.n = 3
  good : GoodB N
  f : ∀ j, j < 3 → (N.D j).f = false
  done : N.done ≤ c
  has : ∀ j, j < 3 → onS N j = s ∧ onL N j = l
/-- One has it, the others a smaller one. -/
structure OneS (N : Bch) (s : Int) (l : List It) (o c : Nat) : Prop where
  n : N.n = 3
  good : GoodB N
  f : ∀ j, j < 3 → (N.D j).f = false
  done : N.done ≤ c
  at' : onS N o = s ∧ onL N o = l
  has : ∀ j, j < 3 → j ≠ o → onS N j = 3
theorem all_put {N M : Bch} {s : Int} {l : List It} {c : Nat} (hn : N.n = 3) (hf : ∀ j, j < 3 → (N.D j).f = false) (hd : N.done ≤ c) (g : PtG N M [true, true, true] s l) : AllS M s l (c + 32) :=
  ⟨g.n.trans hn, g.good, fun j hj => (g.f j (by omega)).trans (hf j hj), by have := g.done; omega, fun j hj => g.put j (by omega) (by rw [hn]; exact live_all hj) (hf j hj)⟩
theorem one_put {N M : Bch} {s : Int} {l : List It} {o c : Nat} (ho : o < 3) (h : AllS N 3 [] c) (g : PtG N M [((o : Int) == 0), ((o : Int) == 1), ((o : Int) == 2)] s l) : OneS M s l o (c + 32) := by
  have hn := h.n
  refine ⟨g.n.trans hn, g.good, fun j hj => (g.f j (by omega)).trans (h.f j hj), by have := g.done; have := h.done; omega, g.put o (by omega) (by rw [hn, live_o ho ho]; exact decide_eq_true rfl) (h.f o ho), fun j hj hne => ?_⟩
  have := g.not j (by omega) (fun q => by rw [hn, live_o ho hj] at q; have := of_decide_eq_true q.1; omega)
  rw [this.1]; exact (h.has j hj).1
theorem one_get {N : Bch} {s : Int} {l : List It} {o c : Nat} (ho : o < 3) (hs : 3 < s) (h : OneS N s l o c) : getS N [true, true, true] = (s, l) := by
  refine get_max (by omega) (fun j hj _ => ?_) ⟨o, by rw [h.n]; exact ho, by rw [h.n]; exact live_all ho, h.at'.1⟩
  by_cases e : j = o
  · subst e; exact .inr h.at'
  · exact .inl (by rw [h.has j (by rw [h.n] at hj; exact hj) e]; exact hs)
theorem lost_get {N M : Bch} {s : Int} {l : List It} {d c : Nat} (hd : d < 3) (hs : 3 < s) (h : AllS N s l c) (g : FlS N M d) : getS M [true, true, true] = (s, l) := by
  have hn : M.n = 3 := g.n.trans h.n
  refine get_max (by omega) (fun j hj _ => ?_) ?_
  · by_cases e : j = d
    · subst e; left; rw [(onS_f g.good.dn g.at').1]; omega
    · right; have := g.has j e; rw [this.1, this.2]; exact h.has j (by rw [hn] at hj; exact hj)
  · obtain ⟨j, hj, hne⟩ : ∃ j, j < 3 ∧ j ≠ d := by
      by_cases e : d = 0
      · exact ⟨1, by omega, by omega⟩
      · exact ⟨0, by omega, fun q => e q.symm⟩
    exact ⟨j, by omega, by rw [hn]; exact live_all hj, by rw [(g.has j hne).1]; exact (h.has j hj).1⟩
set_option maxRecDepth 100000 in
set_option maxHeartbeats 8000000 in
theorem logone (A : Option Addr) (zs : List Int) (cl : Nat) (m only lose : Int) (w : World) (_ : zs.length ≤ cl) (hz : RdZ w w.heap.size A zs) (hm : (-9223372036854775808 ≤ m ∧ m ≤ 9223372036854775807)) (honly : (-9223372036854775808 ≤ only ∧ only ≤ 9223372036854775807)) (hlose : (-9223372036854775808 ≤ lose ∧ lose ≤ 9223372036854775807)) (ht : TabOk w) :
    Calls Tryd.prog 3 #[.slice A zs.length cl, .int .i64 m, .int .i64 only, .int .i64 lose] w fun e w' => e = .returned (.bool true) ∧ Below w.heap.size w w' := by
  have hpn := ptr_eq
  have Ht := Lib.hid ht
  have CN := Lib.hid (bp_new 3 w w (Below.refl _ _) (by omega))
  have WM := Lib.hid (fun V => within_any m 4 V hm (by omega))
  have bm := withinI_bd m 4 (by omega)
  generalize withinI m 4 = q at WM bm
  have WO := Lib.hid (fun V => within_any only 3 V honly (by omega))
  have bo := withinI_bd only 3 (by omega)
  obtain ⟨o, ho⟩ := Int.eq_ofNat_of_zero_le bo.1
  rw [ho] at WO bo
  have WL := Lib.hid (fun V => within_any lose 3 V hlose (by omega))
  have bl := withinI_bd lose 3 (by omega)
  obtain ⟨d, hd⟩ := Int.eq_ofNat_of_zero_le bl.1
  rw [hd] at WL bl
  have o3 : o < 3 := by omega
  have d3 : d < 3 := by omega
  have CO := Lib.hid (fun V (hV : Below w.heap.size w V) => of_seq 9 q A zs cl V (by omega) (by omega) (hz.keep hV.size fun p hp => hV.cell hp))
  have hX : ∀ k : Nat, (fun _ : Nat => False) k → k < 0 := fun _ e => e.elim
  have HX : Hid (∀ (V : World) (k : Nat), (fun _ : Nat => False) k → k < V.heap.size) := fun _ _ e => e.elim
  clear ht hz hm honly hlose ho hd bo bl hX
  go_enter Tryd.func3, Tryd.ntmps3
  go_wp2_with fail
  refine CN.out.mono ?_
  rintro e w1 ⟨b, H, rfl, hp, _, _⟩
  unfold ptr
  have K1 : Hid (KR w w1 b H (Bch.new 3) [] [] (fun _ => False)) := KX.kr ⟨hp, fun p hp => by cases hp⟩ _
  clear hp CN
  go_wp2_with (go_at_call 9; (with_reducible refine (WM.out _).mono ?_); rintro e w2 ⟨rfl, h2⟩; obtain rfl : w1 = w2 := h2.symm)
  refine (CO.out w1 K1.out.kx.bp.bel).mono ?_
  rintro e w2 ⟨s, l, B, c, rfl, hs, hsq, h64, hl6, how, hb2⟩
  have hcp := how.rdS.2.1
  have K2 := Lib.hid (K1.out.own (HX.out _) hb2 how)
  have hs3 : 3 < s := by
    have e9 : withinI 9 2147483647 = 9 := by decide
    rw [e9] at hsq; omega
  have K3 := Lib.hid (K2.out.addAt (.cells #[.int .i64 s, .slice B l.length c] 29 (0, 0)) rfl)
  have R3 := Lib.hid (K3.out.rd (List.mem_cons_self ..))
  clear K1 K2 hb2 how hsq CO WM
  cases hk : recOk s l with
  | false =>
    have CK := Lib.hid (recCheck_no B l.length c s l _ rfl hcp hs R3.out h64 (Lib.hid hk))
    clear hk
    go_wp2_with (go_at_call 10; refine CK.out.mono ?_; rintro e w4 ⟨rfl, hb4⟩; have B4 := Lib.hid ((K3.out.below hb4).kx.bp.bel); clear hb4)
    refine (wakesLg_any _ (Ht.out.below B4.out Ht.out.pos)).mono ?_
    rintro e w5 ⟨rfl, hb5⟩
    go_wp2_with fail
    go_ret
    exact ⟨rfl, B4.out.trans (hb5.mono B4.out.size)⟩
  | true =>
    have CK := Lib.hid (recCheck_yes B l.length c s l _ rfl hcp hs R3.out h64 (Lib.hid hk))
    have Hok := Lib.hid hk
    have Hno := Lib.hid (show recOk 0 [] = false by decide)
    have H3 := Lib.hid (show recOk 3 [] = true by decide)
    have HD := Lib.hid (show decide (0 < s) = true from decide_eq_true (by omega))
    clear hk
    go_wp2_with (go_at_call 10; refine CK.out.mono ?_; rintro e w4 ⟨rfl, hb4⟩; have K4 := Lib.hid (K3.out.below hb4); clear hb4)
    have K5 := Lib.hid ((K4.out.addAt (.cells #[.bool true, .bool true, .bool true] 4 (0, 0)) rfl).addAt (.cells #[.bool ((o : Int) == 0), .bool ((o : Int) == 1), .bool ((o : Int) == 2)] 4 (0, 0)) (show (w4.alloc (.cells #[.bool true, .bool true, .bool true] 4 (0, 0))).heap.size = w4.heap.size + 1 by simp))
    have RA := Lib.hid (fun (V : World) (Hv : BH) (Nv : Bch) (K : List (Nat × Obj)) (R : List (Option Addr × List It)) (h : KR w V b Hv Nv K R (fun _ => False)) (hm : (w4.heap.size, Obj.cells #[.bool true, .bool true, .bool true] 4 (0, 0)) ∈ K) => h.kx.rdo hm (lv := [true, true, true]) rfl (by simp))
    have RL := Lib.hid (fun (V : World) (Hv : BH) (Nv : Bch) (K : List (Nat × Obj)) (R : List (Option Addr × List It)) (h : KR w V b Hv Nv K R (fun _ => False)) (hm : (w4.heap.size + 1, Obj.cells #[.bool ((o : Int) == 0), .bool ((o : Int) == 1), .bool ((o : Int) == 2)] 4 (0, 0)) ∈ K) => h.kx.rdo hm (lv := [((o : Int) == 0), ((o : Int) == 1), ((o : Int) == 2)]) rfl (by simp))
    clear K3 K4 CK R3
    go_wp2_with (first
      | (go_at_call 9; (with_reducible refine (WO.out _).mono ?_); rintro e w5 ⟨rfl, h5⟩)
      | (go_at_call 12
         have HP9 := Lib.hid (kr_put K5.out Ht.out (goodB_new 3) (by show (0 : Nat) ≤ _; omega) [true, true, true] (some ⟨w4.heap.size, 0, none⟩) 3 3 rfl (RA.out _ _ _ _ _ K5.out (by simp)) 3 [] none 0 0 rfl (Nat.le_refl _) (RdI.nil _ _ _) H3.out)
         (with_reducible refine HP9.out.mono ?_)
         rintro e w6 ⟨rfl, H6, M6, k6, g6⟩
         clear HP9
         have K6 := Lib.hid k6
         have S6 := Lib.hid (all_put (c := 0) rfl (fun _ _ => rfl) (Nat.le_refl _) g6)
         obtain ⟨x60, x61⟩ := k6.kx.box2 (p := w2.heap.size) (u := .int .i64 s) (v := .slice B l.length c) (t := 29) (f := (0, 0)) (by simp)
         clear k6 g6 K5)
      | (go_at_call 12
         have HP9 := Lib.hid (kr_put K6.out Ht.out S6.out.good (by have := S6.out.done; omega) [((o : Int) == 0), ((o : Int) == 1), ((o : Int) == 2)] (some ⟨w4.heap.size + 1, 0, none⟩) 3 3 rfl (RL.out _ _ _ _ _ K6.out (by simp)) s l B l.length c rfl hcp (K6.out.rd (List.mem_cons_self ..)) Hok.out)
         (with_reducible refine HP9.out.mono ?_)
         rintro e w7 ⟨rfl, H7, M7, k7, g7⟩
         clear HP9
         have K7 := Lib.hid k7
         have S7 := Lib.hid (one_put o3 S6.out g7)
         clear k7 g7 K6 x60 x61)
      | (go_at_call 13
         have HP9 := Lib.hid (kr_get K7.out Ht.out (HX.out _) [true, true, true] (some ⟨w4.heap.size, 0, none⟩) 3 3 rfl (RA.out _ _ _ _ _ K7.out (by simp)) s l (one_get o3 hs3 S7.out))
         (with_reducible refine HP9.out.mono ?_)
         rintro e w8 ⟨A8, c8, rfl, hc8, k8, _⟩
         clear HP9
         rw [HD.out]
         have K9 := Lib.hid (k8.addAt (.cells #[.int .i64 s, .slice A8 l.length c8] 29 (0, 0)) rfl)
         obtain ⟨w9, hw9⟩ : ∃ w9, w8.alloc (.cells #[.int .i64 s, .slice A8 l.length c8] 29 (0, 0)) = w9 := ⟨_, rfl⟩
         rw [hw9] at K9
         have D8 := Lib.hid (K9.out.kx.box2 (p := w8.heap.size) (u := .int .i64 s) (v := .slice A8 l.length c8) (t := 29) (f := (0, 0)) (by simp))
         have D1 := Lib.hid (K9.out.kx.box2 (p := w2.heap.size) (u := .int .i64 s) (v := .slice B l.length c) (t := 29) (f := (0, 0)) (by simp))
         obtain ⟨x80, x81⟩ := D8.out
         obtain ⟨x10, x11⟩ := D1.out
         have CS := Lib.hid (sameRec_eq s A8 B l.length c8 c l w9 rfl (K9.out.rd (List.mem_cons_self ..)) (K9.out.rd (by simp)))
         clear k8 K7 D8 D1)
      | (go_at_call 14
         (with_reducible refine CS.out.mono ?_)
         rintro e w10 ⟨rfl, hb10⟩
         have K10 := Lib.hid (K9.out.below hb10)
         obtain ⟨y80, y81⟩ := K10.out.kx.box2 (p := w8.heap.size) (u := .int .i64 s) (v := .slice A8 l.length c8) (t := 29) (f := (0, 0)) (by simp)
         clear hb10 K9 CS x80 x81 x10 x11 hw9)
      | (go_at_call 12
         have HP9 := Lib.hid (kr_put K10.out Ht.out S7.out.good (by have := S7.out.done; omega) [true, true, true] (some ⟨w4.heap.size, 0, none⟩) 3 3 rfl (RA.out _ _ _ _ _ K10.out (by simp)) s l A8 l.length c8 rfl hc8 (K10.out.rd (List.mem_cons_self ..)) Hok.out)
         (with_reducible refine HP9.out.mono ?_)
         rintro e w11 ⟨rfl, H11, M11, k11, g11⟩
         clear HP9
         have K11 := Lib.hid k11
         have S11 := Lib.hid (all_put S7.out.n S7.out.f S7.out.done g11)
         clear k11 g11 K10 y80 y81)
      | (go_at_call 9; (with_reducible refine (WL.out _).mono ?_); rintro e w12 ⟨rfl, h12⟩; obtain rfl : w11 = w12 := h12.symm)
      | (go_at_call 15
         have HP9 := Lib.hid (kr_fail K11.out (d : Int) ⟨by omega, by omega⟩)
         (with_reducible refine HP9.out.mono ?_)
         rintro e w12 ⟨rfl, H12, k12⟩
         clear HP9
         have K12 := Lib.hid k12
         have S12 := Lib.hid (fail_good S11.out.good (show d < M11.n by rw [S11.out.n]; exact d3))
         clear k12 K11)
      | (go_at_call 13
         have HP9 := Lib.hid (kr_get K12.out Ht.out (HX.out _) [true, true, true] (some ⟨w4.heap.size, 0, none⟩) 3 3 rfl (RA.out _ _ _ _ _ K12.out (by simp)) s l (lost_get d3 hs3 S11.out S12.out))
         (with_reducible refine HP9.out.mono ?_)
         rintro e w13 ⟨A13, c13, rfl, hc13, k13, _⟩
         clear HP9
         rw [HD.out]
         have K14 := Lib.hid (k13.addAt (.cells #[.int .i64 s, .slice A13 l.length c13] 29 (0, 0)) rfl)
         obtain ⟨w14, hw14⟩ : ∃ w14, w13.alloc (.cells #[.int .i64 s, .slice A13 l.length c13] 29 (0, 0)) = w14 := ⟨_, rfl⟩
         rw [hw14] at K14
         obtain ⟨z80, z81⟩ := K14.out.kx.box2 (p := w13.heap.size) (u := .int .i64 s) (v := .slice A13 l.length c13) (t := 29) (f := (0, 0)) (by simp)
         obtain ⟨z10, z11⟩ := K14.out.kx.box2 (p := w2.heap.size) (u := .int .i64 s) (v := .slice B l.length c) (t := 29) (f := (0, 0)) (by simp)
         have CS2 := Lib.hid (sameRec_eq s A13 B l.length c13 c l w14 rfl (K14.out.rd (List.mem_cons_self ..)) (K14.out.rd (by simp)))
         clear k13 K12)
      | (go_at_call 14
         (with_reducible refine CS2.out.mono ?_)
         rintro e w15 ⟨rfl, hb15⟩
         have K15 := Lib.hid (K14.out.below hb15)
         clear hb15 K14 CS2 z80 z81 z10 z11 hw14)
      | (go_at_call 12
         have HP9 := Lib.hid (kr_putNo K15.out Ht.out S12.out.good (by have := S12.out.done; have := S11.out.done; omega) [true, true, true] (some ⟨w4.heap.size, 0, none⟩) 3 3 rfl (RA.out _ _ _ _ _ K15.out (by simp)) 0 [] none 0 0 rfl (Nat.le_refl _) (RdI.nil _ _ _) (fun k hk => absurd hk (Nat.not_lt_zero _)) ⟨by omega, by omega⟩ Hno.out)
         (with_reducible refine HP9.out.mono ?_)
         rintro e w16 ⟨rfl, H16, k16⟩
         clear HP9
         have K16 := Lib.hid k16
         clear k16 K15)
      | (go_at_call 16
         have HP9 := Lib.hid (kr_appNo K16.out S12.out.good (by have := S12.out.done; have := S11.out.done; omega) [true, true, true] (some ⟨w4.heap.size, 0, none⟩) 3 3 rfl (RA.out _ _ _ _ _ K16.out (by simp)) 0 [] none 0 0 rfl (Nat.le_refl _) (RdIF.nil _ _ _) (fun k hk => absurd hk (Nat.not_lt_zero _)) ⟨by omega, by omega⟩ Hno.out)
         (with_reducible refine HP9.out.mono ?_)
         rintro e w17 ⟨rfl, H17, k17⟩
         clear HP9
         have K17 := Lib.hid k17
         clear k17 K16)
      | (go_at_call 11; have HP9 := wakesLg_any _ (Ht.out.below K17.out.kx.bp.bel Ht.out.pos); (with_reducible refine HP9.mono ?_); rintro e w18 ⟨rfl, hb18⟩))
    go_ret
    exact ⟨rfl, K17.out.kx.bp.bel.trans (hb18.mono K17.out.kx.bp.bel.size)⟩
end Go.Proofs.YtkbhnbkjpnigkaaDoor
