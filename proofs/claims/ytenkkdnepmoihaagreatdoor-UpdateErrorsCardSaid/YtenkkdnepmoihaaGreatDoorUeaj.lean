/- Texts put together: RecFind, RecSame, RecChk, RecFld, RecHead. -/
import Derived.Test.YtenkkdnepmoihaaGreatDoorUeah
import Derived.Test.YtenkkdnepmoihaaGreatDoorUeaf
import Derived.Test.YtenkkdnepmoihaaGreatDoorUeaa
import Derived.Test.YtenkkdnepmoihaaGreatDoorUead
import Derived.Test.YtenkkdnepmoihaaGreatDoorUeac
section
set_option maxRecDepth 8000
set_option linter.unusedVariables false
set_option linter.unusedSimpArgs false
namespace Go.Proofs.YtenkkdnepmoihaaGreatDoor
open Go.RowKit

theorem its_take {l : List It} {i : Nat} (hi : i < l.length) : l.take (i + 1) = l.take i ++ [itN l i] := by
  rw [List.take_succ_eq_append_getElem hi]; simp [itN, hi]
set_option maxHeartbeats 800000 in
theorem idxI_any (A : Option Addr) (n c : Nat) (l : List It) (x : It) (D : Option Addr) (m cd : Nat) (w : World) (hn : l.length = n) (h : RdI w w.heap.size A l) :
    Calls Tryz.prog 129 #[.slice A n c, .func (.func 99) #[.agg #[.int .i64 x.d, .int .i64 x.a, .slice D m cd]] #[]] w fun e w' => ∃ r : Int, e = .returned (.int .i64 r) ∧ decide (0 ≤ r) = l.any (meetsB x) ∧ Below w.heap.size w w' := by
  subst hn
  have H := Lib.hid h
  have hmx := h.1
  clear h
  go_enter Tryz.func129, Tryz.ntmps129
  go_wp2
  go_loopw [8] (fun i wr => ∃ j : Nat, j ≤ l.length ∧ i = .int .i64 j ∧ (l.take j).any (meetsB x) = false ∧ Below w.heap.size w wr) (fun i _ => l.length - (intOf i).toNat)
  case atStart => exact ⟨0, Nat.zero_le _, rfl, by simp, Below.refl _ _⟩
  case round =>
    obtain ⟨j, hj, rfl, hall, hbr⟩ := hrel
    have Hall := Lib.hid hall
    clear hall
    by_cases hlt : j < l.length
    · obtain ⟨g, rfl, hg, hc⟩ := (H.out.below hbr (Nat.le_refl _)).2 (by omega)
      obtain ⟨D', c', hrp, _⟩ := hc j hlt
      clear hc
      have Hts := Lib.hid (its_take hlt)
      have Hm := Lib.hid (itN_mem hlt)
      generalize itN l j = y at hrp Hts Hm
      have CL := Lib.hid (meets_any x y D D' m cd y.b.length c' wr)
      have Hrp := Lib.hid hrp
      have k0 : (0 : Int) ≤ (j : Int) := by omega
      have k1 : (j : Int) < (l.length : Int) := by omega
      clear hrp
      cases hpk : meetsB x y with
      | true =>
        rw [hpk] at CL
        have Hpk := Lib.hid hpk
        clear hpk
        go_wp2_with (first
          | ((with_reducible refine (id ?_ : wpList _ _ _ (⟨some 15, _, _, _, _, _⟩ :: _) _ _)); refine wpList_load_mid rfl 92 _ (by rfl) g (j * 3) (by rfl) [.int .i64 y.d, .int .i64 y.a, .slice D' y.b.length c'] _ Hrp.out Tryz.underlying92 rfl (by kernel_rfl) ?_)
          | (go_at_call 99; refine CL.out.mono ?_; rintro e w1 ⟨rfl, hb1⟩))
        go_ret
        exact ⟨(j : Int), rfl, by rw [decide_eq_true (by omega)]; exact (List.any_eq_true.2 ⟨y, Hm.out, Hpk.out⟩).symm, hbr.trans (hb1.mono hbr.size)⟩
      | false =>
        rw [hpk] at CL
        have Hpk := Lib.hid hpk
        clear hpk
        go_wp2_with (first
          | ((with_reducible refine (id ?_ : wpList _ _ _ (⟨some 15, _, _, _, _, _⟩ :: _) _ _)); refine wpList_load_mid rfl 92 _ (by rfl) g (j * 3) (by rfl) [.int .i64 y.d, .int .i64 y.a, .slice D' y.b.length c'] _ Hrp.out Tryz.underlying92 rfl (by kernel_rfl) ?_)
          | (go_at_call 99; refine CL.out.mono ?_; rintro e w1 ⟨rfl, hb1⟩))
        go_roundw
        case rel => exact ⟨j + 1, by omega, by go_num, by rw [Hts.out, List.any_append, Hall.out]; simpa using Hpk.out, hbr.trans (hb1.mono hbr.size)⟩
        case measure => simp [intOf]; omega
    · obtain rfl : j = l.length := by omega
      go_wp2
      go_ret
      exact ⟨-1, rfl, by have := Hall.out; rw [List.take_length] at this; rw [this]; decide, hbr⟩
theorem anyI_any (A : Option Addr) (n c : Nat) (l : List It) (x : It) (D : Option Addr) (m cd : Nat) (w : World) (hn : l.length = n) (h : RdI w w.heap.size A l) :
    Calls Tryz.prog 98 #[.slice A n c, .func (.func 99) #[.agg #[.int .i64 x.d, .int .i64 x.a, .slice D m cd]] #[]] w fun e w' => e = .returned (.bool (l.any (meetsB x))) ∧ Below w.heap.size w w' := by
  have C := Lib.hid (idxI_any A n c l x D m cd w hn h)
  clear h hn
  go_enter Tryz.func98, Tryz.ntmps98
  go_wp2_with fail
  refine C.out.mono ?_
  rintro e w1 ⟨r, rfl, hr, hb1⟩
  have Hr := Lib.hid hr
  clear hr
  go_wp2
  go_ret
  exact ⟨by rw [← Hr.out]; rfl, hb1⟩
end Go.Proofs.YtenkkdnepmoihaaGreatDoor
end
section
set_option maxRecDepth 8000
set_option linter.unusedVariables false
set_option linter.unusedSimpArgs false
namespace Go.Proofs.YtenkkdnepmoihaaGreatDoor
open Go.RowKit

instance itDec : DecidableEq It := fun x y => decidable_of_iff (x.d = y.d ∧ x.a = y.a ∧ x.b = y.b) ⟨fun h => It.ext' h.1 h.2.1 h.2.2, fun h => by subst h; exact ⟨rfl, rfl, rfl⟩⟩
end Go.Proofs.YtenkkdnepmoihaaGreatDoor
end
section
set_option maxRecDepth 8000
set_option linter.unusedVariables false
set_option linter.unusedSimpArgs false
namespace Go.Proofs.YtenkkdnepmoihaaGreatDoor
open Go.RowKit

/-- What stays while Check asks of one Item. -/
def CkS (w : World) (p q : Nat) (s : Int) (A : Option Addr) (n c : Nat) (x : It) (D : Option Addr) (m cd : Nat) (V : World) : Prop :=
  V.cell? ⟨p, 0, none⟩ = some (.int .i64 s) ∧ V.cell? ⟨p, 1, none⟩ = some (.slice A n c) ∧ V.cell? ⟨q, 0, none⟩ = some (.int .i64 x.d) ∧ V.cell? ⟨q, 1, none⟩ = some (.int .i64 x.a) ∧ V.cell? ⟨q, 2, none⟩ = some (.slice D m cd)
    ∧ Below w.heap.size w V ∧ w.heap.size ≤ p ∧ w.heap.size ≤ q
theorem CkS.drew {w V : World} {p q : Nat} {s : Int} {A : Option Addr} {n c : Nat} {x : It} {D : Option Addr} {m cd : Nat} (h : CkS w p q s A n c x D m cd V) : CkS w p q s A n c x D m cd V.drew :=
  ⟨h.1, h.2.1, h.2.2.1, h.2.2.2.1, h.2.2.2.2.1, h.2.2.2.2.2.1.drew, h.2.2.2.2.2.2⟩
theorem CkS.later {w V V' : World} {p q : Nat} {s : Int} {A : Option Addr} {n c : Nat} {x : It} {D : Option Addr} {m cd : Nat} (h : CkS w p q s A n c x D m cd V) (hb : Below V.heap.size V V') : CkS w p q s A n c x D m cd V' := by
  obtain ⟨h0, h1, h2, h3, h4, h5, h6, h7⟩ := h
  have k := fun (a : Addr) (u : Value) (e : V.cell? a = some u) => (hb.cell (World.block_lt_of_cell? _ _ e)).trans e
  exact ⟨k _ _ h0, k _ _ h1, k _ _ h2, k _ _ h3, k _ _ h4, h5.trans (hb.mono h5.size), h6, h7⟩
theorem CkS.start {w W : World} {s : Int} {A : Option Addr} {n c : Nat} (x : It) (D : Option Addr) (m cd : Nat) (t : TypeId) (f : Nat × Nat) {p : Nat} (hp : w.heap.size ≤ p) (h0 : W.cell? ⟨p, 0, none⟩ = some (.int .i64 s)) (h1 : W.cell? ⟨p, 1, none⟩ = some (.slice A n c)) (hb : Below w.heap.size w W) :
    CkS w p W.heap.size s A n c x D m cd (W.alloc (.cells #[.int .i64 x.d, .int .i64 x.a, .slice D m cd] t f)) := by
  have k := fun (a : Addr) (u : Value) (e : W.cell? a = some u) (ob : Obj) => (World.cell?_alloc_lt W ob a (World.block_lt_of_cell? _ _ e)).trans e
  have c' := fun i => cell_of_row _ _ i _ _ _ (heap_alloc_new W (.cells #[.int .i64 x.d, .int .i64 x.a, .slice D m cd] t f))
  exact ⟨k _ _ h0 _, k _ _ h1 _, c' 0, c' 1, c' 2, hb.alloc hb.size _, hp, hb.size⟩
theorem fine_succ {l : List It} {j : Nat} (h : fineN l j = true) (h1 : mayB (itN l j) = true) (h2 : (l.take j).any (meetsB (itN l j)) = false) (hj : j < l.length) : fineN l (j + 1) = true := by
  rw [fineN_iff] at h ⊢
  intro k hk
  by_cases e : k = j
  · subst e
    refine ⟨h1, fun i hi => ?_⟩
    have := List.any_eq_false.1 h2 (itN l i) (by
      have hm := itN_mem (l := l.take k) (k := i) (by simp; omega)
      rwa [itN_take hi] at hm)
    simpa using this
  · exact h k (by omega)
theorem any_two {l : List It} {j : Nat} (h2 : (l.take j).any (meetsB (itN l j)) = true) (hj : j < l.length) : ∃ i, i < j ∧ meetsB (itN l j) (itN l i) = true := by
  obtain ⟨x, hx, hm⟩ := List.any_eq_true.1 h2
  obtain ⟨i, hi, rfl⟩ := List.getElem_of_mem hx
  have hi' : i < j ∧ i < l.length := by simp at hi; omega
  refine ⟨i, hi'.1, ?_⟩
  rw [show itN l i = (l.take j)[i] by simp [itN, hi'.2]]
  exact hm
set_option maxHeartbeats 2000000 in
theorem check_loop (A : Option Addr) (n c : Nat) (s : Int) (l : List It) (w : World) (hn : l.length = n) (hnc : n ≤ c) (hs : 1 ≤ s ∧ s ≤ 2147483647 ∧ l.length ≤ 3) (h : RdI w w.heap.size A l) (h64 : Its64 l) :
    Calls Tryz.prog 64 #[.agg #[.int .i64 s, .slice A n c]] w fun e w' => e = .returned (.int .i64 (recErr s l)) ∧ Below w.heap.size w w' := by
  subst hn
  have H := Lib.hid h
  have H64 := Lib.hid h64
  obtain ⟨hs1, hs2, hs3⟩ := hs
  have HE := Lib.hid (show fineN l l.length = true → recErr s l = 0 from fun q => recErr_yes ((recOk_iff s l).2 ⟨⟨hs1, hs2, hs3⟩, q⟩))
  clear h h64
  go_enter Tryz.func64, Tryz.ntmps64
  go_wp2
  go_loopw [22] (fun i wr => ∃ j : Nat, j ≤ l.length ∧ i = .int .i64 j ∧ fineN l j = true ∧ Below w.heap.size w wr ∧ wr.cell? ⟨w.heap.size, 0, none⟩ = some (.int .i64 s) ∧ wr.cell? ⟨w.heap.size, 1, none⟩ = some (.slice A l.length c)) (fun i _ => l.length - (intOf i).toNat)
  case atStart =>
    have c' := fun i => cell_of_row _ _ i _ _ _ (heap_alloc_new w (.cells #[.int .i64 s, .slice A l.length c] 43))
    exact ⟨0, Nat.zero_le _, rfl, by simp [fineN], below1 _ _, c' 0, c' 1⟩
  case round =>
    obtain ⟨j, hj, rfl, hall, hbr, hp0, hp1⟩ := hrel
    have Hall := Lib.hid hall
    clear hall
    by_cases hlt : j < l.length
    · obtain ⟨g, rfl, hg, hc⟩ := (H.out.below hbr (Nat.le_refl _)).2 (by omega)
      obtain ⟨D', c', hrp, _⟩ := hc j hlt
      clear hc
      have h64 := H64.out j hlt
      have CA := Lib.hid fun V (hV : Below w.heap.size w V) => anyI_any (some ⟨g, 0, none⟩) j c (l.take j) (itN l j) D' (itN l j).b.length c' V (by simp; omega) (((H.out.take j).below hV (Nat.le_refl _)).more hV.size)
      have Hno := Lib.hid (fun (q : mayB (itN l j) = false) => recErr_no (s := s) (recOk_at j hlt q))
      have Hme := Lib.hid (fun (q : (l.take j).any (meetsB (itN l j)) = true) => by
        obtain ⟨i, hi, hm⟩ := any_two q hlt
        exact recErr_no (s := s) (recOk_two j i hlt hi hm))
      have Hok := Lib.hid (fun q1 q2 => fine_succ (l := l) (j := j) Hall.out q1 q2 hlt)
      have CM := Lib.hid fun V => may_any (itN l j) D' (itN l j).b.length c' V rfl h64
      clear h64
      generalize (l.take j).any (meetsB (itN l j)) = me at CA Hme Hok
      generalize mayB (itN l j) = ma at CM Hno Hok
      generalize itN l j = y at hrp CA CM
      have Hrp := Lib.hid hrp
      have S0 := CkS.start y D' y.b.length c' 92 (0, 0) (Nat.le_refl _) hp0 hp1 hbr
      have k0 : (0 : Int) ≤ (j : Int) := by omega
      have k1 : (j : Int) < (l.length : Int) := by omega
      have k2 : (j : Int) ≤ (c : Int) := by omega
      clear hrp
      go_wp2_with (
          ((with_reducible refine (id ?_ : wpList _ _ _ (⟨some 26, _, _, _, _, _⟩ :: _) _ _)); refine wpList_load_mid rfl 92 _ (by rfl) g (j * 3) (by rfl) [.int .i64 y.d, .int .i64 y.a, .slice D' y.b.length c'] _ Hrp.out Tryz.underlying92 rfl (by kernel_rfl) ?_))
      go_name_world wz hwz
      rw [hwz] at S0
      clear hwz hbr hp0 hp1
      cases ma
      · have RR := Lib.hid (Hno.out rfl)
        clear Hok Hme CA
        refine wp_region_noPanic (region_ord 12 [] (fun V => CkS w w.heap.size wr.heap.size s (some ⟨g, 0, none⟩) l.length c y D' y.b.length c' V) (by kernel_rfl) (by kernel_rfl) (fun _ _ _ _ _ h => h) fun R => ?_)
        change anyI _ _ _ _ _ _ 12 _ _ wz.drew
        have HS0 := Lib.hid (show (fun V => CkS w w.heap.size wr.heap.size s (some ⟨g, 0, none⟩) l.length c y D' y.b.length c' V) wz.drew from CkS.drew S0)
        refine' anyI_take R 0 rfl (v := ?_) (by kernel_rfl) (by rfl) (fun V hV => ?hy) HS0.out ?_
        case hy => ((try dsimp only at hV);  obtain ⟨q0, q1, q2, q3, q4, q5, q6, q7⟩ := hV; go_simp; try with_reducible rfl)
        try simp only [Act.put, List.getElem_toArray, List.getElem_cons_succ, List.getElem_cons_zero, List.setIfInBounds_toArray, List.set_cons_zero, List.set_cons_succ]
        refine anyI_one 1 (by kernel_rfl) rfl ?_
        try simp only [List.getElem_toArray, List.getElem_cons_succ, List.getElem_cons_zero]
        refine opE_step ?_
        rw [if_pos (by rfl)]
        go_simp
        go_at_call 97
        refine (CM.out _).mono ?_
        rintro e w1 ⟨rfl, hb⟩
        replace HS0 := Lib.hid (CkS.later HS0.out hb)
        clear hb
        dsimp only
        refine ⟨HS0.out, ?_⟩
        try simp only [Act.put, List.getElem_toArray, List.getElem_cons_succ, List.getElem_cons_zero, List.setIfInBounds_toArray, List.set_cons_zero, List.set_cons_succ]
        refine' anyI_take R 2 rfl (v := ?_) (by kernel_rfl) (by rfl) (fun V hV => ?hy) HS0.out ?_
        case hy => ((try dsimp only at hV);  obtain ⟨q0, q1, q2, q3, q4, q5, q6, q7⟩ := hV; go_simp; try with_reducible rfl)
        try simp only [Act.put, List.getElem_toArray, List.getElem_cons_succ, List.getElem_cons_zero, List.setIfInBounds_toArray, List.set_cons_zero, List.set_cons_succ]
        refine' anyI_take R 3 rfl (v := ?_) (by kernel_rfl) (by rfl) (fun V hV => ?hy) HS0.out ?_
        case hy => ((try dsimp only at hV);  obtain ⟨q0, q1, q2, q3, q4, q5, q6, q7⟩ := hV; go_simp; try with_reducible rfl)
        try simp only [Act.put, List.getElem_toArray, List.getElem_cons_succ, List.getElem_cons_zero, List.setIfInBounds_toArray, List.set_cons_zero, List.set_cons_succ]
        refine anyI_skip R 4 rfl (by kernel_rfl) (by rfl) HS0.out ?_
        try simp only [Act.put, List.getElem_toArray, List.getElem_cons_succ, List.getElem_cons_zero, List.setIfInBounds_toArray, List.set_cons_zero, List.set_cons_succ]
        refine anyI_skip R 5 rfl (by kernel_rfl) (by rfl) HS0.out ?_
        try simp only [Act.put, List.getElem_toArray, List.getElem_cons_succ, List.getElem_cons_zero, List.setIfInBounds_toArray, List.set_cons_zero, List.set_cons_succ]
        refine anyI_skip R 6 rfl (by kernel_rfl) (by rfl) HS0.out ?_
        try simp only [Act.put, List.getElem_toArray, List.getElem_cons_succ, List.getElem_cons_zero, List.setIfInBounds_toArray, List.set_cons_zero, List.set_cons_succ]
        refine anyI_skip R 7 rfl (by kernel_rfl) (by rfl) HS0.out ?_
        try simp only [Act.put, List.getElem_toArray, List.getElem_cons_succ, List.getElem_cons_zero, List.setIfInBounds_toArray, List.set_cons_zero, List.set_cons_succ]
        refine anyI_skip R 8 rfl (by kernel_rfl) (by rfl) HS0.out ?_
        try simp only [Act.put, List.getElem_toArray, List.getElem_cons_succ, List.getElem_cons_zero, List.setIfInBounds_toArray, List.set_cons_zero, List.set_cons_succ]
        refine anyI_skip R 9 rfl (by kernel_rfl) (by rfl) HS0.out ?_
        try simp only [Act.put, List.getElem_toArray, List.getElem_cons_succ, List.getElem_cons_zero, List.setIfInBounds_toArray, List.set_cons_zero, List.set_cons_succ]
        refine anyI_skip R 10 rfl (by kernel_rfl) (by rfl) HS0.out ?_
        try simp only [Act.put, List.getElem_toArray, List.getElem_cons_succ, List.getElem_cons_zero, List.setIfInBounds_toArray, List.set_cons_zero, List.set_cons_succ]
        refine' anyI_take R 11 rfl (v := ?_) (by kernel_rfl) (by rfl) (fun V hV => ?hy) HS0.out ?_
        case hy => ((try dsimp only at hV);  obtain ⟨q0, q1, q2, q3, q4, q5, q6, q7⟩ := hV; go_simp; try with_reducible rfl)
        try simp only [Act.put, List.getElem_toArray, List.getElem_cons_succ, List.getElem_cons_zero, List.setIfInBounds_toArray, List.set_cons_zero, List.set_cons_succ]
        refine anyI_tail (by kernel_rfl) ?_
        try simp only [List.drop_succ_cons, List.drop_zero]
        clear R
        go_wp2_with fail
        refine NoPanic.normal ?_
        refine ‹∀ (a : Act) (w : World), Code.wp _ (Code.cond _ _ _) _ a w → _› _ _ ?_
        go_wp2_with fail
        go_ret
        exact ⟨by rw [RR.out]; rfl, HS0.out.2.2.2.2.2.1⟩
      cases me
      · have RR := Lib.hid (Hok.out rfl rfl)
        clear Hok Hme Hno
        refine wp_region_noPanic (region_ord 12 [] (fun V => CkS w w.heap.size wr.heap.size s (some ⟨g, 0, none⟩) l.length c y D' y.b.length c' V) (by kernel_rfl) (by kernel_rfl) (fun _ _ _ _ _ h => h) fun R => ?_)
        change anyI _ _ _ _ _ _ 12 _ _ wz.drew
        have HS0 := Lib.hid (show (fun V => CkS w w.heap.size wr.heap.size s (some ⟨g, 0, none⟩) l.length c y D' y.b.length c' V) wz.drew from CkS.drew S0)
        refine' anyI_take R 0 rfl (v := ?_) (by kernel_rfl) (by rfl) (fun V hV => ?hy) HS0.out ?_
        case hy => ((try dsimp only at hV);  obtain ⟨q0, q1, q2, q3, q4, q5, q6, q7⟩ := hV; go_simp; try with_reducible rfl)
        try simp only [Act.put, List.getElem_toArray, List.getElem_cons_succ, List.getElem_cons_zero, List.setIfInBounds_toArray, List.set_cons_zero, List.set_cons_succ]
        refine anyI_one 1 (by kernel_rfl) rfl ?_
        try simp only [List.getElem_toArray, List.getElem_cons_succ, List.getElem_cons_zero]
        refine opE_step ?_
        rw [if_pos (by rfl)]
        go_simp
        go_at_call 97
        refine (CM.out _).mono ?_
        rintro e w1 ⟨rfl, hb⟩
        replace HS0 := Lib.hid (CkS.later HS0.out hb)
        clear hb
        dsimp only
        refine ⟨HS0.out, ?_⟩
        try simp only [Act.put, List.getElem_toArray, List.getElem_cons_succ, List.getElem_cons_zero, List.setIfInBounds_toArray, List.set_cons_zero, List.set_cons_succ]
        refine' anyI_take R 2 rfl (v := ?_) (by kernel_rfl) (by rfl) (fun V hV => ?hy) HS0.out ?_
        case hy => ((try dsimp only at hV);  obtain ⟨q0, q1, q2, q3, q4, q5, q6, q7⟩ := hV; go_simp; try with_reducible rfl)
        try simp only [Act.put, List.getElem_toArray, List.getElem_cons_succ, List.getElem_cons_zero, List.setIfInBounds_toArray, List.set_cons_zero, List.set_cons_succ]
        refine' anyI_take R 3 rfl (v := ?_) (by kernel_rfl) (by rfl) (fun V hV => ?hy) HS0.out ?_
        case hy => ((try dsimp only at hV);  obtain ⟨q0, q1, q2, q3, q4, q5, q6, q7⟩ := hV; go_simp; try with_reducible rfl)
        try simp only [Act.put, List.getElem_toArray, List.getElem_cons_succ, List.getElem_cons_zero, List.setIfInBounds_toArray, List.set_cons_zero, List.set_cons_succ]
        refine' anyI_take R 4 rfl (v := ?_) (by kernel_rfl) (by rfl) (fun V hV => ?hy) HS0.out ?_
        case hy => ((try dsimp only at hV);  obtain ⟨q0, q1, q2, q3, q4, q5, q6, q7⟩ := hV; go_simp; try with_reducible rfl)
        try simp only [Act.put, List.getElem_toArray, List.getElem_cons_succ, List.getElem_cons_zero, List.setIfInBounds_toArray, List.set_cons_zero, List.set_cons_succ]
        refine' anyI_take R 5 rfl (v := ?_) (by kernel_rfl) (by rfl) (fun V hV => ?hy) HS0.out ?_
        case hy => ((try dsimp only at hV);  obtain ⟨q0, q1, q2, q3, q4, q5, q6, q7⟩ := hV; go_simp; try with_reducible rfl)
        try simp only [Act.put, List.getElem_toArray, List.getElem_cons_succ, List.getElem_cons_zero, List.setIfInBounds_toArray, List.set_cons_zero, List.set_cons_succ]
        refine' anyI_take R 6 rfl (v := ?_) (by kernel_rfl) (by rfl) (fun V hV => ?hy) HS0.out ?_
        case hy => ((try dsimp only at hV);  obtain ⟨q0, q1, q2, q3, q4, q5, q6, q7⟩ := hV; go_simp; try with_reducible rfl)
        try simp only [Act.put, List.getElem_toArray, List.getElem_cons_succ, List.getElem_cons_zero, List.setIfInBounds_toArray, List.set_cons_zero, List.set_cons_succ]
        refine' anyI_take R 7 rfl (v := ?_) (by kernel_rfl) (by rfl) (fun V hV => ?hy) HS0.out ?_
        case hy => ((try dsimp only at hV);  obtain ⟨q0, q1, q2, q3, q4, q5, q6, q7⟩ := hV; go_simp; try with_reducible rfl)
        try simp only [Act.put, List.getElem_toArray, List.getElem_cons_succ, List.getElem_cons_zero, List.setIfInBounds_toArray, List.set_cons_zero, List.set_cons_succ]
        refine' anyI_take R 8 rfl (v := ?_) (by kernel_rfl) (by rfl) (fun V hV => ?hy) HS0.out ?_
        case hy => ((try dsimp only at hV);  obtain ⟨q0, q1, q2, q3, q4, q5, q6, q7⟩ := hV; go_simp; try with_reducible rfl)
        try simp only [Act.put, List.getElem_toArray, List.getElem_cons_succ, List.getElem_cons_zero, List.setIfInBounds_toArray, List.set_cons_zero, List.set_cons_succ]
        refine' anyI_take R 9 rfl (v := ?_) (by kernel_rfl) (by rfl) (fun V hV => ?hy) HS0.out ?_
        case hy => ((try dsimp only at hV);  obtain ⟨q0, q1, q2, q3, q4, q5, q6, q7⟩ := hV; go_simp; try with_reducible rfl)
        try simp only [Act.put, List.getElem_toArray, List.getElem_cons_succ, List.getElem_cons_zero, List.setIfInBounds_toArray, List.set_cons_zero, List.set_cons_succ]
        refine anyI_one 10 (by kernel_rfl) rfl ?_
        try simp only [List.getElem_toArray, List.getElem_cons_succ, List.getElem_cons_zero]
        refine opE_step ?_
        rw [if_pos (by rfl)]
        go_simp
        go_at_call 98
        refine (CA.out _ HS0.out.2.2.2.2.2.1).mono ?_
        rintro e w2 ⟨rfl, hb⟩
        replace HS0 := Lib.hid (CkS.later HS0.out hb)
        clear hb
        dsimp only
        refine ⟨HS0.out, ?_⟩
        try simp only [Act.put, List.getElem_toArray, List.getElem_cons_succ, List.getElem_cons_zero, List.setIfInBounds_toArray, List.set_cons_zero, List.set_cons_succ]
        refine' anyI_take R 11 rfl (v := ?_) (by kernel_rfl) (by rfl) (fun V hV => ?hy) HS0.out ?_
        case hy => ((try dsimp only at hV);  obtain ⟨q0, q1, q2, q3, q4, q5, q6, q7⟩ := hV; go_simp; try with_reducible rfl)
        try simp only [Act.put, List.getElem_toArray, List.getElem_cons_succ, List.getElem_cons_zero, List.setIfInBounds_toArray, List.set_cons_zero, List.set_cons_succ]
        refine anyI_tail (by kernel_rfl) ?_
        try simp only [List.drop_succ_cons, List.drop_zero]
        clear R
        go_wp2_with fail
        refine NoPanic.normal ?_
        refine ‹∀ (a : Act) (w : World), Code.wp _ (Code.cond _ _ _) _ a w → _› _ _ ?_
        go_wp2_with fail
        go_roundw
        case rel => exact ⟨j + 1, by omega, by go_num, RR.out, HS0.out.2.2.2.2.2.1, HS0.out.1, HS0.out.2.1⟩
        case measure => simp [intOf]; omega
      · have RR := Lib.hid (Hme.out rfl)
        clear Hok Hme Hno
        refine wp_region_noPanic (region_ord 12 [] (fun V => CkS w w.heap.size wr.heap.size s (some ⟨g, 0, none⟩) l.length c y D' y.b.length c' V) (by kernel_rfl) (by kernel_rfl) (fun _ _ _ _ _ h => h) fun R => ?_)
        change anyI _ _ _ _ _ _ 12 _ _ wz.drew
        have HS0 := Lib.hid (show (fun V => CkS w w.heap.size wr.heap.size s (some ⟨g, 0, none⟩) l.length c y D' y.b.length c' V) wz.drew from CkS.drew S0)
        refine' anyI_take R 0 rfl (v := ?_) (by kernel_rfl) (by rfl) (fun V hV => ?hy) HS0.out ?_
        case hy => ((try dsimp only at hV);  obtain ⟨q0, q1, q2, q3, q4, q5, q6, q7⟩ := hV; go_simp; try with_reducible rfl)
        try simp only [Act.put, List.getElem_toArray, List.getElem_cons_succ, List.getElem_cons_zero, List.setIfInBounds_toArray, List.set_cons_zero, List.set_cons_succ]
        refine anyI_one 1 (by kernel_rfl) rfl ?_
        try simp only [List.getElem_toArray, List.getElem_cons_succ, List.getElem_cons_zero]
        refine opE_step ?_
        rw [if_pos (by rfl)]
        go_simp
        go_at_call 97
        refine (CM.out _).mono ?_
        rintro e w1 ⟨rfl, hb⟩
        replace HS0 := Lib.hid (CkS.later HS0.out hb)
        clear hb
        dsimp only
        refine ⟨HS0.out, ?_⟩
        try simp only [Act.put, List.getElem_toArray, List.getElem_cons_succ, List.getElem_cons_zero, List.setIfInBounds_toArray, List.set_cons_zero, List.set_cons_succ]
        refine' anyI_take R 2 rfl (v := ?_) (by kernel_rfl) (by rfl) (fun V hV => ?hy) HS0.out ?_
        case hy => ((try dsimp only at hV);  obtain ⟨q0, q1, q2, q3, q4, q5, q6, q7⟩ := hV; go_simp; try with_reducible rfl)
        try simp only [Act.put, List.getElem_toArray, List.getElem_cons_succ, List.getElem_cons_zero, List.setIfInBounds_toArray, List.set_cons_zero, List.set_cons_succ]
        refine' anyI_take R 3 rfl (v := ?_) (by kernel_rfl) (by rfl) (fun V hV => ?hy) HS0.out ?_
        case hy => ((try dsimp only at hV);  obtain ⟨q0, q1, q2, q3, q4, q5, q6, q7⟩ := hV; go_simp; try with_reducible rfl)
        try simp only [Act.put, List.getElem_toArray, List.getElem_cons_succ, List.getElem_cons_zero, List.setIfInBounds_toArray, List.set_cons_zero, List.set_cons_succ]
        refine' anyI_take R 4 rfl (v := ?_) (by kernel_rfl) (by rfl) (fun V hV => ?hy) HS0.out ?_
        case hy => ((try dsimp only at hV);  obtain ⟨q0, q1, q2, q3, q4, q5, q6, q7⟩ := hV; go_simp; try with_reducible rfl)
        try simp only [Act.put, List.getElem_toArray, List.getElem_cons_succ, List.getElem_cons_zero, List.setIfInBounds_toArray, List.set_cons_zero, List.set_cons_succ]
        refine' anyI_take R 5 rfl (v := ?_) (by kernel_rfl) (by rfl) (fun V hV => ?hy) HS0.out ?_
        case hy => ((try dsimp only at hV);  obtain ⟨q0, q1, q2, q3, q4, q5, q6, q7⟩ := hV; go_simp; try with_reducible rfl)
        try simp only [Act.put, List.getElem_toArray, List.getElem_cons_succ, List.getElem_cons_zero, List.setIfInBounds_toArray, List.set_cons_zero, List.set_cons_succ]
        refine' anyI_take R 6 rfl (v := ?_) (by kernel_rfl) (by rfl) (fun V hV => ?hy) HS0.out ?_
        case hy => ((try dsimp only at hV);  obtain ⟨q0, q1, q2, q3, q4, q5, q6, q7⟩ := hV; go_simp; try with_reducible rfl)
        try simp only [Act.put, List.getElem_toArray, List.getElem_cons_succ, List.getElem_cons_zero, List.setIfInBounds_toArray, List.set_cons_zero, List.set_cons_succ]
        refine' anyI_take R 7 rfl (v := ?_) (by kernel_rfl) (by rfl) (fun V hV => ?hy) HS0.out ?_
        case hy => ((try dsimp only at hV);  obtain ⟨q0, q1, q2, q3, q4, q5, q6, q7⟩ := hV; go_simp; try with_reducible rfl)
        try simp only [Act.put, List.getElem_toArray, List.getElem_cons_succ, List.getElem_cons_zero, List.setIfInBounds_toArray, List.set_cons_zero, List.set_cons_succ]
        refine' anyI_take R 8 rfl (v := ?_) (by kernel_rfl) (by rfl) (fun V hV => ?hy) HS0.out ?_
        case hy => ((try dsimp only at hV);  obtain ⟨q0, q1, q2, q3, q4, q5, q6, q7⟩ := hV; go_simp; try with_reducible rfl)
        try simp only [Act.put, List.getElem_toArray, List.getElem_cons_succ, List.getElem_cons_zero, List.setIfInBounds_toArray, List.set_cons_zero, List.set_cons_succ]
        refine' anyI_take R 9 rfl (v := ?_) (by kernel_rfl) (by rfl) (fun V hV => ?hy) HS0.out ?_
        case hy => ((try dsimp only at hV);  obtain ⟨q0, q1, q2, q3, q4, q5, q6, q7⟩ := hV; go_simp; try with_reducible rfl)
        try simp only [Act.put, List.getElem_toArray, List.getElem_cons_succ, List.getElem_cons_zero, List.setIfInBounds_toArray, List.set_cons_zero, List.set_cons_succ]
        refine anyI_one 10 (by kernel_rfl) rfl ?_
        try simp only [List.getElem_toArray, List.getElem_cons_succ, List.getElem_cons_zero]
        refine opE_step ?_
        rw [if_pos (by rfl)]
        go_simp
        go_at_call 98
        refine (CA.out _ HS0.out.2.2.2.2.2.1).mono ?_
        rintro e w2 ⟨rfl, hb⟩
        replace HS0 := Lib.hid (CkS.later HS0.out hb)
        clear hb
        dsimp only
        refine ⟨HS0.out, ?_⟩
        try simp only [Act.put, List.getElem_toArray, List.getElem_cons_succ, List.getElem_cons_zero, List.setIfInBounds_toArray, List.set_cons_zero, List.set_cons_succ]
        refine' anyI_take R 11 rfl (v := ?_) (by kernel_rfl) (by rfl) (fun V hV => ?hy) HS0.out ?_
        case hy => ((try dsimp only at hV);  obtain ⟨q0, q1, q2, q3, q4, q5, q6, q7⟩ := hV; go_simp; try with_reducible rfl)
        try simp only [Act.put, List.getElem_toArray, List.getElem_cons_succ, List.getElem_cons_zero, List.setIfInBounds_toArray, List.set_cons_zero, List.set_cons_succ]
        refine anyI_tail (by kernel_rfl) ?_
        try simp only [List.drop_succ_cons, List.drop_zero]
        clear R
        go_wp2_with fail
        refine NoPanic.normal ?_
        refine ‹∀ (a : Act) (w : World), Code.wp _ (Code.cond _ _ _) _ a w → _› _ _ ?_
        go_wp2_with fail
        go_ret
        exact ⟨by rw [RR.out]; rfl, HS0.out.2.2.2.2.2.1⟩
    · obtain rfl : j = l.length := by omega
      have RR := Lib.hid (HE.out Hall.out)
      go_wp2
      go_ret
      exact ⟨by rw [RR.out]; rfl, hbr⟩
theorem recCheck_any (A : Option Addr) (n c : Nat) (s : Int) (l : List It) (w : World) (hn : l.length = n) (hnc : n ≤ c) (hs : (-9223372036854775808 ≤ s ∧ s ≤ 9223372036854775807)) (h : RdI w w.heap.size A l) (h64 : Its64 l) :
    Calls Tryz.prog 64 #[.agg #[.int .i64 s, .slice A n c]] w fun e w' => e = .returned (.int .i64 (recErr s l)) ∧ Below w.heap.size w w' := by
  by_cases h1 : 1 ≤ s
  · by_cases h2 : s ≤ 2147483647
    · by_cases h3 : l.length ≤ 3
      · exact check_loop A n c s l w hn hnc ⟨h1, h2, h3⟩ h h64
      · have RR := Lib.hid (recErr_no (recOk_no (s := s) (l := l) (by omega)))
        rw [hn] at h3
        clear h h64 hn
        go_enter Tryz.func64, Tryz.ntmps64
        go_wp2
        go_ret
        exact ⟨by rw [RR.out]; rfl, below1 _ _⟩
    · have RR := Lib.hid (recErr_no (recOk_no (s := s) (l := l) (by omega)))
      clear h h64 hn
      go_enter Tryz.func64, Tryz.ntmps64
      go_wp2
      go_ret
      exact ⟨by rw [RR.out]; rfl, below1 _ _⟩
  · have RR := Lib.hid (recErr_no (recOk_no (s := s) (l := l) (by omega)))
    clear h h64 hn
    go_enter Tryz.func64, Tryz.ntmps64
    go_wp2
    go_ret
    exact ⟨by rw [RR.out]; rfl, below1 _ _⟩
theorem recCheck_yes (A : Option Addr) (n c : Nat) (s : Int) (l : List It) (w : World) (hn : l.length = n) (hnc : n ≤ c) (hs : (-9223372036854775808 ≤ s ∧ s ≤ 9223372036854775807)) (h : RdI w w.heap.size A l) (h64 : Its64 l) (hk : Hid (recOk s l = true)) :
    Calls Tryz.prog 64 #[.agg #[.int .i64 s, .slice A n c]] w fun e w' => e = .returned (.int .i64 0) ∧ Below w.heap.size w w' := by
  have := recCheck_any A n c s l w hn hnc hs h h64
  rwa [recErr_yes hk.out] at this
theorem recCheck_no (A : Option Addr) (n c : Nat) (s : Int) (l : List It) (w : World) (hn : l.length = n) (hnc : n ≤ c) (hs : (-9223372036854775808 ≤ s ∧ s ≤ 9223372036854775807)) (h : RdI w w.heap.size A l) (h64 : Its64 l) (hk : Hid (recOk s l = false)) :
    Calls Tryz.prog 64 #[.agg #[.int .i64 s, .slice A n c]] w fun e w' => e = .returned (.int .i64 1) ∧ Below w.heap.size w w' := by
  have := recCheck_any A n c s l w hn hnc hs h h64
  rwa [recErr_no hk.out] at this
end Go.Proofs.YtenkkdnepmoihaaGreatDoor
end
section
set_option maxRecDepth 8000
set_option linter.unusedVariables false
set_option linter.unusedSimpArgs false
namespace Go.Proofs.YtenkkdnepmoihaaGreatDoor
open Go.RowKit

theorem infoI : (Tryz.prog.info? 92).map (fun i => (i.zero, i.size, i.bytes)) = some (some (.agg #[.int .i64 0, .int .i64 0, .slice none 0 0]), 3, 40) := by kernel_rfl
section
variable {w V V' : World} {y y' : Int} {v v' : Value} {l l' : List It}
theorem grown_cell (V : World) (q i : Nat) (u : Value) : V.grownBy (V.setCell ⟨q, i, none⟩ u) (some q) := ⟨rfl, rfl, rfl, by simp, fun k _ hne => Below.heap_setCell V _ _ k (fun e => hne (by rw [e]))⟩
end
end Go.Proofs.YtenkkdnepmoihaaGreatDoor
end
section
set_option maxRecDepth 8000
set_option linter.unusedVariables false
set_option linter.unusedSimpArgs false
namespace Go.Proofs.YtenkkdnepmoihaaGreatDoor
open Go.RowKit

theorem own_lit {e : TypeId} {W : World} {C : Array Value} {n : Nat} (bs : List UInt8) (hC : C.toList = bs.map bv) (hn : bs.length = n) (h : n ≤ 100000) : OwB e (W.alloc (.cells C e)) W.heap.size (.slice (some ⟨W.heap.size, 0, none⟩) n n) bs := by
  subst hn
  have hs : C.size = bs.length := by rw [← Array.length_toList, hC, List.length_map]
  have hh := World.ownsRow_lit (base := W.heap.size) (e := e) (size := 1) W C bs.length (Nat.le_refl _) (by unfold maxLen; omega) (by omega)
  rw [hC] at hh
  exact ⟨hh, by omega⟩
theorem rd_lit {e : TypeId} {W : World} {C : Array Value} {g : Nat} (bs : List UInt8) (hg : g = W.heap.size) (hC : C.toList = bs.map bv) (h : bs.length ≤ 100000) : RdB (W.alloc (.cells C e)) (W.alloc (.cells C e)).heap.size (some ⟨g, 0, none⟩) bs := by
  subst hg
  exact (own_lit (e := e) bs hC rfl h).rdS.1
theorem byN_u8 {n : Int} (hn : 0 ≤ n) (k : Nat) (hk : k < 4) : n / 256 ^ k % 256 = ((byN n k).toNat : Int) := by
  obtain ⟨m, rfl⟩ := Int.eq_ofNat_of_zero_le hn
  match k, hk with
  | 0, _ => simp only [byN, UInt8.toNat_ofNat']; omega
  | 1, _ => simp only [byN, UInt8.toNat_ofNat']; omega
  | 2, _ => simp only [byN, UInt8.toNat_ofNat']; omega
  | 3, _ => simp only [byN, UInt8.toNat_ofNat']; omega
/-- What stays while head grows its bytes. -/
def HdS (w : World) (s : Int) (A : Option Addr) (n c : Nat) (v : Value) (bs : List UInt8) (V : World) : Prop :=
  OwB 5 V (w.heap.size + 1) v bs ∧ Below w.heap.size w V ∧ V.cell? ⟨w.heap.size, 0, none⟩ = some (.int .i64 s) ∧ V.cell? ⟨w.heap.size, 1, none⟩ = some (.slice A n c)
theorem HdS.alloc {w V : World} {s : Int} {A : Option Addr} {n c : Nat} {v : Value} {bs : List UInt8} (h : HdS w s A n c v bs V) (o : Obj) : HdS w s A n c v bs (V.alloc o) := by
  obtain ⟨h0, h1, h2, h3⟩ := h
  have k := fun (a : Addr) (u : Value) (e : V.cell? a = some u) => (World.cell?_alloc_lt V o a (World.block_lt_of_cell? _ _ e)).trans e
  exact ⟨h0.below (below1 V o), h1.alloc h1.size o, k _ _ h2, k _ _ h3⟩
theorem HdS.grow {w V V' : World} {s : Int} {A : Option Addr} {n c : Nat} {v v' : Value} {bs bs' : List UInt8} (h : HdS w s A n c v bs V) (ho : OwB 5 V' (w.heap.size + 1) v' bs') (hg : V.grownBy V' v.ownBlock) : HdS w s A n c v' bs' V' := by
  obtain ⟨h0, h1, h2, h3⟩ := h
  have hne : ∀ j, v.ownBlock = some j → w.heap.size + 1 ≤ j := fun j hj => (h0.lt j hj).1
  have k := fun (i : Nat) (u : Value) (e : V.cell? ⟨w.heap.size, i, none⟩ = some u) => (World.cell?_of_block (a := ⟨w.heap.size, i, none⟩) (hg.block w.heap.size (World.block_lt_of_cell? _ _ e) (fun e' => by have := hne _ e'.symm; omega))).trans e
  exact ⟨ho, h1.grown hg h1.size (fun j hj => by have := hne j hj; omega), k _ _ h2, k _ _ h3⟩
theorem hd_box (w : World) (s : Int) (A : Option Addr) (n c : Nat) (C C2 : Array Value) (f : Nat × Nat) (bs : List UInt8) (hC : C.toList = bs.map bv) (h : bs.length ≤ 100000) :
    ∃ W, W = ((w.alloc (.cells #[.int .i64 s, .slice A n c] 43)).alloc (.cells C 5 f)).alloc (.cells C2 5) ∧ RdB W W.heap.size (some ⟨w.heap.size + 1, 0, none⟩) bs ∧ HdS w s A n c (.slice none 0 0) [] W := by
  refine ⟨_, rfl, ?_, ?_⟩
  · refine rdb_lit (cs := C) (t := 5) (f := f) ?_ (by omega) hC
    rw [heap_alloc_old _ _ (by simp)]
    exact hp_new _ _ _ (by simp)
  · have S0 : HdS w s A n c (.slice none 0 0) [] (w.alloc (.cells #[.int .i64 s, .slice A n c] 43)) := by
      have c' := fun i => cell_of_row _ _ i _ _ _ (heap_alloc_new w (.cells #[.int .i64 s, .slice A n c] 43))
      exact ⟨OwB.nil _ _ _, below1 _ _, c' 0, c' 1⟩
    exact (S0.alloc _).alloc _
theorem hdB_take (s : Int) (l : List It) : hdB s l = [87, 82, 69, 67] ++ [byN s 3, byN s 2, byN s 1, byN s 0] ++ [UInt8.ofNat l.length] ++ plcB l := rfl
theorem plcB_take {l : List It} {j : Nat} (hj : j < l.length) : plcB (l.take (j + 1)) = plcB (l.take j) ++ [byN (itN l j).d 0, byN (itN l j).a 0] := by
  rw [its_take hj, plcB_snoc]
set_option maxHeartbeats 2000000 in
theorem head_any (A : Option Addr) (n c : Nat) (s : Int) (l : List It) (w : World) (hn : l.length = n) (hnc : n ≤ c) (h : RdI w w.heap.size A l) (hk : recOk s l = true) :
    Calls Tryz.prog 92 #[.agg #[.int .i64 s, .slice A n c]] w fun e w' => ∃ v, e = .returned v ∧ OwB 5 w' w.heap.size v (hdB s l) ∧ Below w.heap.size w w' := by
  subst hn
  have H := Lib.hid h
  obtain ⟨⟨hs1, hs2, hs3⟩, _⟩ := (recOk_iff s l).1 hk
  have HK := Lib.hid (fun (j : Nat) (hj : j < l.length) => recOk_may hk _ (itN_mem hj))
  clear h hk
  have HH := Lib.hid (hdB_take s l)
  have HT := Lib.hid (fun (j : Nat) (hj : j < l.length) => plcB_take hj)
  have e3 : s / 16777216 = ((byN s 3).toNat : Int) := by have := byN_u8 (n := s) (by omega) 3 (by omega); omega
  have e2 : s / 65536 % 256 = ((byN s 2).toNat : Int) := byN_u8 (by omega) 2 (by omega)
  have e1 : s / 256 % 256 = ((byN s 1).toNat : Int) := byN_u8 (by omega) 1 (by omega)
  have e0 : s % 256 = ((byN s 0).toNat : Int) := by have := byN_u8 (n := s) (by omega) 0 (by omega); omega
  generalize byN s 3 = b3 at e3 HH
  generalize byN s 2 = b2 at e2 HH
  generalize byN s 1 = b1 at e1 HH
  generalize byN s 0 = b0 at e0 HH
  have el : (l.length : Int) = ((UInt8.ofNat l.length).toNat : Int) := by rw [UInt8.toNat_ofNat']; omega
  generalize UInt8.ofNat l.length = bl at el HH
  have El := Lib.hid el
  clear el
  have hcv := conv_const (w.alloc (.cells #[.int .i64 s, .slice A l.length c] 43)) (w.heap.size + 1) #[.int .u8 87, .int .u8 82, .int .u8 69, .int .u8 67] 4 4 (by simp)
  obtain ⟨W, hW, hrd, hs0⟩ := hd_box w s A l.length c #[.int .u8 87, .int .u8 82, .int .u8 69, .int .u8 67] #[.int .u8 (b3.toNat : Int), .int .u8 (b2.toNat : Int), .int .u8 (b1.toNat : Int), .int .u8 (b0.toNat : Int)] (4, 5) [87, 82, 69, 67] rfl (by simp)
  have hrd2 : RdB W W.heap.size (some ⟨w.heap.size + 2, 0, none⟩) [b3, b2, b1, b0] := by subst hW; exact rd_lit _ (by simp) rfl (by simp)
  have HW := Lib.hid hW
  have HR := Lib.hid hrd
  have HR2 := Lib.hid hrd2
  have S0 := Lib.hid hs0
  clear hW hrd hrd2 hs0
  go_enter Tryz.func92, Tryz.ntmps92
  go_wp2_with (first
    | ((with_reducible refine (id ?_ : wpList _ _ _ (⟨some 25, _, _, _, _, _⟩ :: _) _ _)); rw [← show W = _ from HW.out]; refine wpList_append_F _ rfl _ _ _ rfl 5 Tryz.underlying35 info_u8 (some ⟨w.heap.size + 1, 0, none⟩) 4 _ _ rfl rfl (by omega) HR.out (some ⟨w.heap.size + 2, 0, none⟩) 4 4 _ [b3, b2, b1, b0] rfl rfl (by simp) HR2.out (by simp) ?_
       intro v1 w1 O1 hb1
       have H1 := Lib.hid (show HdS w s A l.length c v1 ([87, 82, 69, 67] ++ [b3, b2, b1, b0]) w1 from (S0.out.grow (v' := v1) (O1.le (by have := S0.out.2.1.size; have := World.block_lt_of_cell? _ _ S0.out.2.2.1; exact this)) (grown_none hb1)))
       clear hcv HW HR HR2 S0 O1 hb1 e3 e2 e1 e0
       obtain ⟨C1, F1, q0, q1⟩ := H1.out
       have hz1 := World.block_lt_of_cell? _ _ q0
       have hz2 : w.heap.size + 1 ≤ w1.heap.size := hz1
       clear C1)
    | ((with_reducible refine (id ?_ : wpList _ _ _ (⟨some 32, _, _, _, _, _⟩ :: _) _ _)); refine wpList_append_B _ rfl _ _ _ rfl (w.heap.size + 1) 5 Tryz.underlying35 info_u8 _ _ rfl (H1.out.alloc _).1 _ (some ⟨w1.heap.size, 0, none⟩) 1 1 [bl] rfl rfl (rd_lit _ rfl (by simp [bv, El.out]) (by simp)) (by simp) (by simp; omega) ?_
       intro v2 w2 O2 g2 _
       have H2 := Lib.hid ((H1.out.alloc _).grow O2 g2)
       clear O2 g2 q0 q1 hz1 hz2 F1 H1
       obtain ⟨C1, F1, q0, q1⟩ := H2.out
       have hz1 := World.block_lt_of_cell? _ _ q0
       have hz2 : w.heap.size + 1 ≤ w2.heap.size := hz1
       clear C1))
  go_loopw [3, 36] (fun v i wr => ∃ j : Nat, j ≤ l.length ∧ i = .int .i64 j ∧ HdS w s A l.length c v ([87, 82, 69, 67] ++ [b3, b2, b1, b0] ++ [bl] ++ plcB (l.take j)) wr) (fun _ i _ => l.length - (intOf i).toNat)
  case atStart => exact ⟨0, Nat.zero_le _, rfl, by rw [List.take_zero, show plcB [] = [] from rfl, List.append_nil]; exact H2.out⟩
  case round =>
    obtain ⟨j, hj, rfl, hst⟩ := hrel
    have Hst := Lib.hid hst
    obtain ⟨C3, F3, q0', q1'⟩ := hst
    have hz3 := World.block_lt_of_cell? _ _ q0'
    have hz4 : w.heap.size + 1 ≤ wr.heap.size := hz3
    clear C3 H2 q0 q1 hz1 hz2 F1
    by_cases hlt : j < l.length
    · obtain ⟨g, rfl, hg, hc⟩ := (H.out.below F3 (Nat.le_refl _)).2 (by omega)
      obtain ⟨D', c', hrp, _⟩ := hc j hlt
      clear hc
      have hk := HK.out j hlt
      have Ht := Lib.hid (HT.out j hlt)
      generalize itN l j = y at hrp hk Ht
      obtain ⟨d, a, b⟩ := y
      dsimp only at hrp hk Ht
      have ed : d = ((byN d 0).toNat : Int) := by have := byX_one (n := d) (by omega); omega
      have ea : a = ((byN a 0).toNat : Int) := by have := byX_one (n := a) (by omega); omega
      generalize byN d 0 = ub at ed Ht
      generalize byN a 0 = uc at ea Ht
      subst ed ea
      have Hrp := Lib.hid hrp
      have mu : (ub.toNat : Int) % 256 = (ub.toNat : Int) := by have : ub.toNat < 256 := ub.toNat_lt; omega
      have mc : (uc.toNat : Int) % 256 = (uc.toNat : Int) := by have : uc.toNat < 256 := uc.toNat_lt; omega
      have HA := Lib.hid (Hst.out.alloc (.cells #[.int .i64 (ub.toNat : Int), .int .i64 (uc.toNat : Int), .slice D' b.length c'] 92))
      have HA2 := Lib.hid (HA.out.alloc (.cells #[.int .u8 (ub.toNat : Int), .int .u8 (uc.toNat : Int)] 5))
      have k0 : (0 : Int) ≤ (j : Int) := by omega
      have k1 : (j : Int) < (l.length : Int) := by omega
      have hpl : (plcB (l.take j)).length ≤ 6 := by rw [plcB_len]; simp; omega
      clear hrp hk HA
      go_wp2_with (first
        | ((with_reducible refine (id ?_ : wpList _ _ _ (⟨some 39, _, _, _, _, _⟩ :: _) _ _)); refine wpList_load_mid rfl 92 _ (by rfl) g (j * 3) (by rfl) [.int .i64 (ub.toNat : Int), .int .i64 (uc.toNat : Int), .slice D' b.length c'] _ Hrp.out Tryz.underlying92 rfl (by kernel_rfl) ?_)
        | ((with_reducible refine (id ?_ : wpList _ _ _ (⟨some 48, _, _, _, _, _⟩ :: _) _ _)); refine wpList_append_B _ rfl _ _ _ rfl (w.heap.size + 1) 5 Tryz.underlying35 info_u8 _ _ rfl HA2.out.1 _ (some ⟨wr.heap.size + 1, 0, none⟩) 2 2 [ub, uc] rfl rfl (rd_lit _ (by simp) rfl (by simp)) (by simp; omega) (by simp; omega) ?_
           intro v4 w4 O4 g4 _
           have H4 := Lib.hid (HA2.out.grow O4 g4)
           clear O4 g4))
      go_roundw
      case rel => exact ⟨j + 1, by omega, by go_num, by rw [Ht.out, ← List.append_assoc]; exact H4.out⟩
      case measure => simp [intOf]; omega
    · obtain rfl : j = l.length := by omega
      go_wp2
      go_ret
      exact ⟨_, rfl, by rw [HH.out]; have := Hst.out.1.le (Nat.le_succ _); rwa [List.take_length] at this, F3⟩
end Go.Proofs.YtenkkdnepmoihaaGreatDoor
end
