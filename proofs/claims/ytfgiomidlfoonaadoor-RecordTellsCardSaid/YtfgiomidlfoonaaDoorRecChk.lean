/- What record.Check tells. -/
import Derived.Test.YtfgiomidlfoonaaDoorRecFind
import Derived.Test.YtfgiomidlfoonaaDoorOrdSkip
set_option maxRecDepth 8000
set_option linter.unusedVariables false
set_option linter.unusedSimpArgs false
namespace Go.Proofs.YtfgiomidlfoonaaDoor
open Go.RowKit

/-- What stays while Check asks of one Item. -/
def CkS (w : World) (p q : Nat) (s : Int) (A : Option Addr) (n c : Nat) (x : It) (D : Option Addr) (m cd : Nat) (V : World) : Prop :=
  V.cell? ⟨p, 0, none⟩ = some (.int .i64 s) ∧ V.cell? ⟨p, 1, none⟩ = some (.slice A n c) ∧ V.cell? ⟨q, 0, none⟩ = some (.int .i64 x.d) ∧ V.cell? ⟨q, 1, none⟩ = some (.int .i64 x.a) ∧ V.cell? ⟨q, 2, none⟩ = some (.slice D m cd)
    ∧ Below w.heap.size w V ∧ w.heap.size ≤ p ∧ w.heap.size ≤ q
theorem CkS.drew {w V : World} {p q : Nat} {s : Int} {A : Option Addr} {n c : Nat} {x : It} {D : Option Addr} {m cd : Nat} (h : CkS w p q s A n c x D m cd V) : CkS w p q s A n c x D m cd V.drew :=
  ⟨h.1, h.2.1, h.2.2.1, h.2.2.2.1, h.2.2.2.2.1, h.2.2.2.2.2.1.drew, h.2.2.2.2.2.2⟩
theorem CkS.later {w V V' : World} {p q : Nat} {s : Int} {A : Option Addr} {n c : Nat} {x : It} {D : Option Addr} {m cd : Nat} (h : CkS w p q s A n c x D m cd V) (hb : Below V.heap.size V V') : CkS w p q s A n c x D m cd V' := by
  obtain ⟨h0, h1, h2, h3, h4, h5, h6, h7⟩ := h
  have k := fun (a : Addr) (u : Value) (e : V.cell? a = some u) => (hb.cell (World.block_lt_of_cell? _ _ e)).trans e
  exact ⟨k _ _ h0, k _ _ h1, k _ _ h2, k _ _ h3, k _ _ h4, h5.trans (hb.mono h5.size), h6, h7⟩
theorem CkS.start {w W : World} {s : Int} {A : Option Addr} {n c : Nat} (x : It) (D : Option Addr) (m cd : Nat) (t : TypeId) (f : Nat × Nat) {p : Nat} (hp : w.heap.size ≤ p) (h0 : W.cell? ⟨p, 0, none⟩ = some (.int .i64 s)) (h1 : W.cell? ⟨p, 1, none⟩ = some (.slice A n c)) (hb : Below w.heap.size w W) :
    CkS w p W.heap.size s A n c x D m cd (W.alloc (.cells #[.int .i64 x.d, .int .i64 x.a, .slice D m cd] t f)) := by
  have k := fun (a : Addr) (u : Value) (e : W.cell? a = some u) (ob : Obj) => (World.cell?_alloc_lt W ob a (World.block_lt_of_cell? _ _ e)).trans e
  have c' := fun i => cell_of_row _ _ i _ _ _ (heap_alloc_new W (.cells #[.int .i64 x.d, .int .i64 x.a, .slice D m cd] t f))
  exact ⟨k _ _ h0 _, k _ _ h1 _, c' 0, c' 1, c' 2, hb.alloc hb.size _, hp, hb.size⟩
theorem fine_succ {l : List It} {j : Nat} (h : fineN l j = true) (h1 : mayB (itN l j) = true) (h2 : (l.take j).any (meetsB (itN l j)) = false) (hj : j < l.length) : fineN l (j + 1) = true := by
  rw [fineN_iff] at h ⊢
  intro k hk
  by_cases e : k = j
  · subst e
    refine ⟨h1, fun i hi => ?_⟩
    have := List.any_eq_false.1 h2 (itN l i) (by
      have hm := itN_mem (l := l.take k) (k := i) (by simp; omega)
      rwa [itN_take hi] at hm)
    simpa using this
  · exact h k (by omega)
theorem any_two {l : List It} {j : Nat} (h2 : (l.take j).any (meetsB (itN l j)) = true) (hj : j < l.length) : ∃ i, i < j ∧ meetsB (itN l j) (itN l i) = true := by
  obtain ⟨x, hx, hm⟩ := List.any_eq_true.1 h2
  obtain ⟨i, hi, rfl⟩ := List.getElem_of_mem hx
  have hi' : i < j ∧ i < l.length := by simp at hi; omega
  refine ⟨i, hi'.1, ?_⟩
  rw [show itN l i = (l.take j)[i] by simp [itN, hi'.2]]
  exact hm
set_option maxHeartbeats 2000000 in
theorem check_loop (A : Option Addr) (n c : Nat) (s : Int) (l : List It) (w : World) (hn : l.length = n) (hnc : n ≤ c) (hs : 1 ≤ s ∧ s ≤ 2147483647 ∧ l.length ≤ 3) (h : RdI w w.heap.size A l) (h64 : Its64 l) :
    Calls Tryd.prog 12 #[.agg #[.int .i64 s, .slice A n c]] w fun e w' => e = .returned (.int .i64 (recErr s l)) ∧ Below w.heap.size w w' := by
  subst hn
  have H := Lib.hid h
  have H64 := Lib.hid h64
  obtain ⟨hs1, hs2, hs3⟩ := hs
  have HE := Lib.hid (show fineN l l.length = true → recErr s l = 0 from fun q => recErr_yes ((recOk_iff s l).2 ⟨⟨hs1, hs2, hs3⟩, q⟩))
  clear h h64
  go_enter Tryd.func12, Tryd.ntmps12
  go_wp2
  go_loopw [22] (fun i wr => ∃ j : Nat, j ≤ l.length ∧ i = .int .i64 j ∧ fineN l j = true ∧ Below w.heap.size w wr ∧ wr.cell? ⟨w.heap.size, 0, none⟩ = some (.int .i64 s) ∧ wr.cell? ⟨w.heap.size, 1, none⟩ = some (.slice A l.length c)) (fun i _ => l.length - (intOf i).toNat)
  case atStart =>
    have c' := fun i => cell_of_row _ _ i _ _ _ (heap_alloc_new w (.cells #[.int .i64 s, .slice A l.length c] 32))
    exact ⟨0, Nat.zero_le _, rfl, by simp [fineN], below1 _ _, c' 0, c' 1⟩
  case round =>
    obtain ⟨j, hj, rfl, hall, hbr, hp0, hp1⟩ := hrel
    have Hall := Lib.hid hall
    clear hall
    by_cases hlt : j < l.length
    · obtain ⟨g, rfl, hg, hc⟩ := (H.out.below hbr (Nat.le_refl _)).2 (by omega)
      obtain ⟨D', c', hrp, _⟩ := hc j hlt
      clear hc
      have h64 := H64.out j hlt
      have CA := Lib.hid fun V (hV : Below w.heap.size w V) => anyI_any (some ⟨g, 0, none⟩) j c (l.take j) (itN l j) D' (itN l j).b.length c' V (by simp; omega) (((H.out.take j).below hV (Nat.le_refl _)).more hV.size)
      have Hno := Lib.hid (fun (q : mayB (itN l j) = false) => recErr_no (s := s) (recOk_at j hlt q))
      have Hme := Lib.hid (fun (q : (l.take j).any (meetsB (itN l j)) = true) => by
        obtain ⟨i, hi, hm⟩ := any_two q hlt
        exact recErr_no (s := s) (recOk_two j i hlt hi hm))
      have Hok := Lib.hid (fun q1 q2 => fine_succ (l := l) (j := j) Hall.out q1 q2 hlt)
      have CM := Lib.hid fun V => may_any (itN l j) D' (itN l j).b.length c' V rfl h64
      clear h64
      generalize (l.take j).any (meetsB (itN l j)) = me at CA Hme Hok
      generalize mayB (itN l j) = ma at CM Hno Hok
      generalize itN l j = y at hrp CA CM
      have Hrp := Lib.hid hrp
      have S0 := CkS.start y D' y.b.length c' 29 (0, 0) (Nat.le_refl _) hp0 hp1 hbr
      have k0 : (0 : Int) ≤ (j : Int) := by omega
      have k1 : (j : Int) < (l.length : Int) := by omega
      have k2 : (j : Int) ≤ (c : Int) := by omega
      clear hrp
      go_wp2_with (
          ((with_reducible refine (id ?_ : wpList _ _ _ (⟨some 26, _, _, _, _, _⟩ :: _) _ _)); refine wpList_load_mid rfl 29 _ (by rfl) g (j * 3) (by rfl) [.int .i64 y.d, .int .i64 y.a, .slice D' y.b.length c'] _ Hrp.out Tryd.underlying29 rfl (by kernel_rfl) ?_))
      go_name_world wz hwz
      rw [hwz] at S0
      clear hwz hbr hp0 hp1
      cases ma
      · have RR := Lib.hid (Hno.out rfl)
        clear Hok Hme CA
        refine wp_region_noPanic (region_ord 12 [] (fun V => CkS w w.heap.size wr.heap.size s (some ⟨g, 0, none⟩) l.length c y D' y.b.length c' V) (by kernel_rfl) (by kernel_rfl) (fun _ _ _ _ _ h => h) fun R => ?_)
        change anyI _ _ _ _ _ _ 12 _ _ wz.drew
        have HS0 := Lib.hid (show (fun V => CkS w w.heap.size wr.heap.size s (some ⟨g, 0, none⟩) l.length c y D' y.b.length c' V) wz.drew from CkS.drew S0)
        refine' anyI_take R 0 rfl (v := ?_) (by kernel_rfl) (by rfl) (fun V hV => ?hy) HS0.out ?_
        case hy => ((try dsimp only at hV);  obtain ⟨q0, q1, q2, q3, q4, q5, q6, q7⟩ := hV; go_simp; try with_reducible rfl)
        try simp only [Act.put, List.getElem_toArray, List.getElem_cons_succ, List.getElem_cons_zero, List.setIfInBounds_toArray, List.set_cons_zero, List.set_cons_succ]
        refine anyI_one 1 (by kernel_rfl) rfl ?_
        try simp only [List.getElem_toArray, List.getElem_cons_succ, List.getElem_cons_zero]
        refine opE_step ?_
        rw [if_pos (by rfl)]
        go_simp
        go_at_call 23
        refine (CM.out _).mono ?_
        rintro e w1 ⟨rfl, hb⟩
        replace HS0 := Lib.hid (CkS.later HS0.out hb)
        clear hb
        dsimp only
        refine ⟨HS0.out, ?_⟩
        try simp only [Act.put, List.getElem_toArray, List.getElem_cons_succ, List.getElem_cons_zero, List.setIfInBounds_toArray, List.set_cons_zero, List.set_cons_succ]
        refine' anyI_take R 2 rfl (v := ?_) (by kernel_rfl) (by rfl) (fun V hV => ?hy) HS0.out ?_
        case hy => ((try dsimp only at hV);  obtain ⟨q0, q1, q2, q3, q4, q5, q6, q7⟩ := hV; go_simp; try with_reducible rfl)
        try simp only [Act.put, List.getElem_toArray, List.getElem_cons_succ, List.getElem_cons_zero, List.setIfInBounds_toArray, List.set_cons_zero, List.set_cons_succ]
        refine' anyI_take R 3 rfl (v := ?_) (by kernel_rfl) (by rfl) (fun V hV => ?hy) HS0.out ?_
        case hy => ((try dsimp only at hV);  obtain ⟨q0, q1, q2, q3, q4, q5, q6, q7⟩ := hV; go_simp; try with_reducible rfl)
        try simp only [Act.put, List.getElem_toArray, List.getElem_cons_succ, List.getElem_cons_zero, List.setIfInBounds_toArray, List.set_cons_zero, List.set_cons_succ]
        refine anyI_skip R 4 rfl (by kernel_rfl) (by rfl) HS0.out ?_
        try simp only [Act.put, List.getElem_toArray, List.getElem_cons_succ, List.getElem_cons_zero, List.setIfInBounds_toArray, List.set_cons_zero, List.set_cons_succ]
        refine anyI_skip R 5 rfl (by kernel_rfl) (by rfl) HS0.out ?_
        try simp only [Act.put, List.getElem_toArray, List.getElem_cons_succ, List.getElem_cons_zero, List.setIfInBounds_toArray, List.set_cons_zero, List.set_cons_succ]
        refine anyI_skip R 6 rfl (by kernel_rfl) (by rfl) HS0.out ?_
        try simp only [Act.put, List.getElem_toArray, List.getElem_cons_succ, List.getElem_cons_zero, List.setIfInBounds_toArray, List.set_cons_zero, List.set_cons_succ]
        refine anyI_skip R 7 rfl (by kernel_rfl) (by rfl) HS0.out ?_
        try simp only [Act.put, List.getElem_toArray, List.getElem_cons_succ, List.getElem_cons_zero, List.setIfInBounds_toArray, List.set_cons_zero, List.set_cons_succ]
        refine anyI_skip R 8 rfl (by kernel_rfl) (by rfl) HS0.out ?_
        try simp only [Act.put, List.getElem_toArray, List.getElem_cons_succ, List.getElem_cons_zero, List.setIfInBounds_toArray, List.set_cons_zero, List.set_cons_succ]
        refine anyI_skip R 9 rfl (by kernel_rfl) (by rfl) HS0.out ?_
        try simp only [Act.put, List.getElem_toArray, List.getElem_cons_succ, List.getElem_cons_zero, List.setIfInBounds_toArray, List.set_cons_zero, List.set_cons_succ]
        refine anyI_skip R 10 rfl (by kernel_rfl) (by rfl) HS0.out ?_
        try simp only [Act.put, List.getElem_toArray, List.getElem_cons_succ, List.getElem_cons_zero, List.setIfInBounds_toArray, List.set_cons_zero, List.set_cons_succ]
        refine' anyI_take R 11 rfl (v := ?_) (by kernel_rfl) (by rfl) (fun V hV => ?hy) HS0.out ?_
        case hy => ((try dsimp only at hV);  obtain ⟨q0, q1, q2, q3, q4, q5, q6, q7⟩ := hV; go_simp; try with_reducible rfl)
        try simp only [Act.put, List.getElem_toArray, List.getElem_cons_succ, List.getElem_cons_zero, List.setIfInBounds_toArray, List.set_cons_zero, List.set_cons_succ]
        refine anyI_tail (by kernel_rfl) ?_
        try simp only [List.drop_succ_cons, List.drop_zero]
        clear R
        go_wp2_with fail
        refine NoPanic.normal ?_
        refine ‹∀ (a : Act) (w : World), Code.wp _ (Code.cond _ _ _) _ a w → _› _ _ ?_
        go_wp2_with fail
        go_ret
        exact ⟨by rw [RR.out]; rfl, HS0.out.2.2.2.2.2.1⟩
      cases me
      · have RR := Lib.hid (Hok.out rfl rfl)
        clear Hok Hme Hno
        refine wp_region_noPanic (region_ord 12 [] (fun V => CkS w w.heap.size wr.heap.size s (some ⟨g, 0, none⟩) l.length c y D' y.b.length c' V) (by kernel_rfl) (by kernel_rfl) (fun _ _ _ _ _ h => h) fun R => ?_)
        change anyI _ _ _ _ _ _ 12 _ _ wz.drew
        have HS0 := Lib.hid (show (fun V => CkS w w.heap.size wr.heap.size s (some ⟨g, 0, none⟩) l.length c y D' y.b.length c' V) wz.drew from CkS.drew S0)
        refine' anyI_take R 0 rfl (v := ?_) (by kernel_rfl) (by rfl) (fun V hV => ?hy) HS0.out ?_
        case hy => ((try dsimp only at hV);  obtain ⟨q0, q1, q2, q3, q4, q5, q6, q7⟩ := hV; go_simp; try with_reducible rfl)
        try simp only [Act.put, List.getElem_toArray, List.getElem_cons_succ, List.getElem_cons_zero, List.setIfInBounds_toArray, List.set_cons_zero, List.set_cons_succ]
        refine anyI_one 1 (by kernel_rfl) rfl ?_
        try simp only [List.getElem_toArray, List.getElem_cons_succ, List.getElem_cons_zero]
        refine opE_step ?_
        rw [if_pos (by rfl)]
        go_simp
        go_at_call 23
        refine (CM.out _).mono ?_
        rintro e w1 ⟨rfl, hb⟩
        replace HS0 := Lib.hid (CkS.later HS0.out hb)
        clear hb
        dsimp only
        refine ⟨HS0.out, ?_⟩
        try simp only [Act.put, List.getElem_toArray, List.getElem_cons_succ, List.getElem_cons_zero, List.setIfInBounds_toArray, List.set_cons_zero, List.set_cons_succ]
        refine' anyI_take R 2 rfl (v := ?_) (by kernel_rfl) (by rfl) (fun V hV => ?hy) HS0.out ?_
        case hy => ((try dsimp only at hV);  obtain ⟨q0, q1, q2, q3, q4, q5, q6, q7⟩ := hV; go_simp; try with_reducible rfl)
        try simp only [Act.put, List.getElem_toArray, List.getElem_cons_succ, List.getElem_cons_zero, List.setIfInBounds_toArray, List.set_cons_zero, List.set_cons_succ]
        refine' anyI_take R 3 rfl (v := ?_) (by kernel_rfl) (by rfl) (fun V hV => ?hy) HS0.out ?_
        case hy => ((try dsimp only at hV);  obtain ⟨q0, q1, q2, q3, q4, q5, q6, q7⟩ := hV; go_simp; try with_reducible rfl)
        try simp only [Act.put, List.getElem_toArray, List.getElem_cons_succ, List.getElem_cons_zero, List.setIfInBounds_toArray, List.set_cons_zero, List.set_cons_succ]
        refine' anyI_take R 4 rfl (v := ?_) (by kernel_rfl) (by rfl) (fun V hV => ?hy) HS0.out ?_
        case hy => ((try dsimp only at hV);  obtain ⟨q0, q1, q2, q3, q4, q5, q6, q7⟩ := hV; go_simp; try with_reducible rfl)
        try simp only [Act.put, List.getElem_toArray, List.getElem_cons_succ, List.getElem_cons_zero, List.setIfInBounds_toArray, List.set_cons_zero, List.set_cons_succ]
        refine' anyI_take R 5 rfl (v := ?_) (by kernel_rfl) (by rfl) (fun V hV => ?hy) HS0.out ?_
        case hy => ((try dsimp only at hV);  obtain ⟨q0, q1, q2, q3, q4, q5, q6, q7⟩ := hV; go_simp; try with_reducible rfl)
        try simp only [Act.put, List.getElem_toArray, List.getElem_cons_succ, List.getElem_cons_zero, List.setIfInBounds_toArray, List.set_cons_zero, List.set_cons_succ]
        refine' anyI_take R 6 rfl (v := ?_) (by kernel_rfl) (by rfl) (fun V hV => ?hy) HS0.out ?_
        case hy => ((try dsimp only at hV);  obtain ⟨q0, q1, q2, q3, q4, q5, q6, q7⟩ := hV; go_simp; try with_reducible rfl)
        try simp only [Act.put, List.getElem_toArray, List.getElem_cons_succ, List.getElem_cons_zero, List.setIfInBounds_toArray, List.set_cons_zero, List.set_cons_succ]
        refine' anyI_take R 7 rfl (v := ?_) (by kernel_rfl) (by rfl) (fun V hV => ?hy) HS0.out ?_
        case hy => ((try dsimp only at hV);  obtain ⟨q0, q1, q2, q3, q4, q5, q6, q7⟩ := hV; go_simp; try with_reducible rfl)
        try simp only [Act.put, List.getElem_toArray, List.getElem_cons_succ, List.getElem_cons_zero, List.setIfInBounds_toArray, List.set_cons_zero, List.set_cons_succ]
        refine' anyI_take R 8 rfl (v := ?_) (by kernel_rfl) (by rfl) (fun V hV => ?hy) HS0.out ?_
        case hy => ((try dsimp only at hV);  obtain ⟨q0, q1, q2, q3, q4, q5, q6, q7⟩ := hV; go_simp; try with_reducible rfl)
        try simp only [Act.put, List.getElem_toArray, List.getElem_cons_succ, List.getElem_cons_zero, List.setIfInBounds_toArray, List.set_cons_zero, List.set_cons_succ]
        refine' anyI_take R 9 rfl (v := ?_) (by kernel_rfl) (by rfl) (fun V hV => ?hy) HS0.out ?_
        case hy => ((try dsimp only at hV);  obtain ⟨q0, q1, q2, q3, q4, q5, q6, q7⟩ := hV; go_simp; try with_reducible rfl)
        try simp only [Act.put, List.getElem_toArray, List.getElem_cons_succ, List.getElem_cons_zero, List.setIfInBounds_toArray, List.set_cons_zero, List.set_cons_succ]
        refine anyI_one 10 (by kernel_rfl) rfl ?_
        try simp only [List.getElem_toArray, List.getElem_cons_succ, List.getElem_cons_zero]
        refine opE_step ?_
        rw [if_pos (by rfl)]
        go_simp
        go_at_call 24
        refine (CA.out _ HS0.out.2.2.2.2.2.1).mono ?_
        rintro e w2 ⟨rfl, hb⟩
        replace HS0 := Lib.hid (CkS.later HS0.out hb)
        clear hb
        dsimp only
        refine ⟨HS0.out, ?_⟩
        try simp only [Act.put, List.getElem_toArray, List.getElem_cons_succ, List.getElem_cons_zero, List.setIfInBounds_toArray, List.set_cons_zero, List.set_cons_succ]
        refine' anyI_take R 11 rfl (v := ?_) (by kernel_rfl) (by rfl) (fun V hV => ?hy) HS0.out ?_
        case hy => ((try dsimp only at hV);  obtain ⟨q0, q1, q2, q3, q4, q5, q6, q7⟩ := hV; go_simp; try with_reducible rfl)
        try simp only [Act.put, List.getElem_toArray, List.getElem_cons_succ, List.getElem_cons_zero, List.setIfInBounds_toArray, List.set_cons_zero, List.set_cons_succ]
        refine anyI_tail (by kernel_rfl) ?_
        try simp only [List.drop_succ_cons, List.drop_zero]
        clear R
        go_wp2_with fail
        refine NoPanic.normal ?_
        refine ‹∀ (a : Act) (w : World), Code.wp _ (Code.cond _ _ _) _ a w → _› _ _ ?_
        go_wp2_with fail
        go_roundw
        case rel => exact ⟨j + 1, by omega, by go_num, RR.out, HS0.out.2.2.2.2.2.1, HS0.out.1, HS0.out.2.1⟩
        case measure => simp [intOf]; omega
      · have RR := Lib.hid (Hme.out rfl)
        clear Hok Hme Hno
        refine wp_region_noPanic (region_ord 12 [] (fun V => CkS w w.heap.size wr.heap.size s (some ⟨g, 0, none⟩) l.length c y D' y.b.length c' V) (by kernel_rfl) (by kernel_rfl) (fun _ _ _ _ _ h => h) fun R => ?_)
        change anyI _ _ _ _ _ _ 12 _ _ wz.drew
        have HS0 := Lib.hid (show (fun V => CkS w w.heap.size wr.heap.size s (some ⟨g, 0, none⟩) l.length c y D' y.b.length c' V) wz.drew from CkS.drew S0)
        refine' anyI_take R 0 rfl (v := ?_) (by kernel_rfl) (by rfl) (fun V hV => ?hy) HS0.out ?_
        case hy => ((try dsimp only at hV);  obtain ⟨q0, q1, q2, q3, q4, q5, q6, q7⟩ := hV; go_simp; try with_reducible rfl)
        try simp only [Act.put, List.getElem_toArray, List.getElem_cons_succ, List.getElem_cons_zero, List.setIfInBounds_toArray, List.set_cons_zero, List.set_cons_succ]
        refine anyI_one 1 (by kernel_rfl) rfl ?_
        try simp only [List.getElem_toArray, List.getElem_cons_succ, List.getElem_cons_zero]
        refine opE_step ?_
        rw [if_pos (by rfl)]
        go_simp
        go_at_call 23
        refine (CM.out _).mono ?_
        rintro e w1 ⟨rfl, hb⟩
        replace HS0 := Lib.hid (CkS.later HS0.out hb)
        clear hb
        dsimp only
        refine ⟨HS0.out, ?_⟩
        try simp only [Act.put, List.getElem_toArray, List.getElem_cons_succ, List.getElem_cons_zero, List.setIfInBounds_toArray, List.set_cons_zero, List.set_cons_succ]
        refine' anyI_take R 2 rfl (v := ?_) (by kernel_rfl) (by rfl) (fun V hV => ?hy) HS0.out ?_
        case hy => ((try dsimp only at hV);  obtain ⟨q0, q1, q2, q3, q4, q5, q6, q7⟩ := hV; go_simp; try with_reducible rfl)
        try simp only [Act.put, List.getElem_toArray, List.getElem_cons_succ, List.getElem_cons_zero, List.setIfInBounds_toArray, List.set_cons_zero, List.set_cons_succ]
        refine' anyI_take R 3 rfl (v := ?_) (by kernel_rfl) (by rfl) (fun V hV => ?hy) HS0.out ?_
        case hy => ((try dsimp only at hV);  obtain ⟨q0, q1, q2, q3, q4, q5, q6, q7⟩ := hV; go_simp; try with_reducible rfl)
        try simp only [Act.put, List.getElem_toArray, List.getElem_cons_succ, List.getElem_cons_zero, List.setIfInBounds_toArray, List.set_cons_zero, List.set_cons_succ]
        refine' anyI_take R 4 rfl (v := ?_) (by kernel_rfl) (by rfl) (fun V hV => ?hy) HS0.out ?_
        case hy => ((try dsimp only at hV);  obtain ⟨q0, q1, q2, q3, q4, q5, q6, q7⟩ := hV; go_simp; try with_reducible rfl)
        try simp only [Act.put, List.getElem_toArray, List.getElem_cons_succ, List.getElem_cons_zero, List.setIfInBounds_toArray, List.set_cons_zero, List.set_cons_succ]
        refine' anyI_take R 5 rfl (v := ?_) (by kernel_rfl) (by rfl) (fun V hV => ?hy) HS0.out ?_
        case hy => ((try dsimp only at hV);  obtain ⟨q0, q1, q2, q3, q4, q5, q6, q7⟩ := hV; go_simp; try with_reducible rfl)
        try simp only [Act.put, List.getElem_toArray, List.getElem_cons_succ, List.getElem_cons_zero, List.setIfInBounds_toArray, List.set_cons_zero, List.set_cons_succ]
        refine' anyI_take R 6 rfl (v := ?_) (by kernel_rfl) (by rfl) (fun V hV => ?hy) HS0.out ?_
        case hy => ((try dsimp only at hV);  obtain ⟨q0, q1, q2, q3, q4, q5, q6, q7⟩ := hV; go_simp; try with_reducible rfl)
        try simp only [Act.put, List.getElem_toArray, List.getElem_cons_succ, List.getElem_cons_zero, List.setIfInBounds_toArray, List.set_cons_zero, List.set_cons_succ]
        refine' anyI_take R 7 rfl (v := ?_) (by kernel_rfl) (by rfl) (fun V hV => ?hy) HS0.out ?_
        case hy => ((try dsimp only at hV);  obtain ⟨q0, q1, q2, q3, q4, q5, q6, q7⟩ := hV; go_simp; try with_reducible rfl)
        try simp only [Act.put, List.getElem_toArray, List.getElem_cons_succ, List.getElem_cons_zero, List.setIfInBounds_toArray, List.set_cons_zero, List.set_cons_succ]
        refine' anyI_take R 8 rfl (v := ?_) (by kernel_rfl) (by rfl) (fun V hV => ?hy) HS0.out ?_
        case hy => ((try dsimp only at hV);  obtain ⟨q0, q1, q2, q3, q4, q5, q6, q7⟩ := hV; go_simp; try with_reducible rfl)
        try simp only [Act.put, List.getElem_toArray, List.getElem_cons_succ, List.getElem_cons_zero, List.setIfInBounds_toArray, List.set_cons_zero, List.set_cons_succ]
        refine' anyI_take R 9 rfl (v := ?_) (by kernel_rfl) (by rfl) (fun V hV => ?hy) HS0.out ?_
        case hy => ((try dsimp only at hV);  obtain ⟨q0, q1, q2, q3, q4, q5, q6, q7⟩ := hV; go_simp; try with_reducible rfl)
        try simp only [Act.put, List.getElem_toArray, List.getElem_cons_succ, List.getElem_cons_zero, List.setIfInBounds_toArray, List.set_cons_zero, List.set_cons_succ]
        refine anyI_one 10 (by kernel_rfl) rfl ?_
        try simp only [List.getElem_toArray, List.getElem_cons_succ, List.getElem_cons_zero]
        refine opE_step ?_
        rw [if_pos (by rfl)]
        go_simp
        go_at_call 24
        refine (CA.out _ HS0.out.2.2.2.2.2.1).mono ?_
        rintro e w2 ⟨rfl, hb⟩
        replace HS0 := Lib.hid (CkS.later HS0.out hb)
        clear hb
        dsimp only
        refine ⟨HS0.out, ?_⟩
        try simp only [Act.put, List.getElem_toArray, List.getElem_cons_succ, List.getElem_cons_zero, List.setIfInBounds_toArray, List.set_cons_zero, List.set_cons_succ]
        refine' anyI_take R 11 rfl (v := ?_) (by kernel_rfl) (by rfl) (fun V hV => ?hy) HS0.out ?_
        case hy => ((try dsimp only at hV);  obtain ⟨q0, q1, q2, q3, q4, q5, q6, q7⟩ := hV; go_simp; try with_reducible rfl)
        try simp only [Act.put, List.getElem_toArray, List.getElem_cons_succ, List.getElem_cons_zero, List.setIfInBounds_toArray, List.set_cons_zero, List.set_cons_succ]
        refine anyI_tail (by kernel_rfl) ?_
        try simp only [List.drop_succ_cons, List.drop_zero]
        clear R
        go_wp2_with fail
        refine NoPanic.normal ?_
        refine ‹∀ (a : Act) (w : World), Code.wp _ (Code.cond _ _ _) _ a w → _› _ _ ?_
        go_wp2_with fail
        go_ret
        exact ⟨by rw [RR.out]; rfl, HS0.out.2.2.2.2.2.1⟩
    · obtain rfl : j = l.length := by omega
      have RR := Lib.hid (HE.out Hall.out)
      go_wp2
      go_ret
      exact ⟨by rw [RR.out]; rfl, hbr⟩
theorem check_any (A : Option Addr) (n c : Nat) (s : Int) (l : List It) (w : World) (hn : l.length = n) (hnc : n ≤ c) (hs : (-9223372036854775808 ≤ s ∧ s ≤ 9223372036854775807)) (h : RdI w w.heap.size A l) (h64 : Its64 l) :
    Calls Tryd.prog 12 #[.agg #[.int .i64 s, .slice A n c]] w fun e w' => e = .returned (.int .i64 (recErr s l)) ∧ Below w.heap.size w w' := by
  by_cases h1 : 1 ≤ s
  · by_cases h2 : s ≤ 2147483647
    · by_cases h3 : l.length ≤ 3
      · exact check_loop A n c s l w hn hnc ⟨h1, h2, h3⟩ h h64
      · have RR := Lib.hid (recErr_no (recOk_no (s := s) (l := l) (by omega)))
        rw [hn] at h3
        clear h h64 hn
        go_enter Tryd.func12, Tryd.ntmps12
        go_wp2
        go_ret
        exact ⟨by rw [RR.out]; rfl, below1 _ _⟩
    · have RR := Lib.hid (recErr_no (recOk_no (s := s) (l := l) (by omega)))
      clear h h64 hn
      go_enter Tryd.func12, Tryd.ntmps12
      go_wp2
      go_ret
      exact ⟨by rw [RR.out]; rfl, below1 _ _⟩
  · have RR := Lib.hid (recErr_no (recOk_no (s := s) (l := l) (by omega)))
    clear h h64 hn
    go_enter Tryd.func12, Tryd.ntmps12
    go_wp2
    go_ret
    exact ⟨by rw [RR.out]; rfl, below1 _ _⟩
theorem check_yes (A : Option Addr) (n c : Nat) (s : Int) (l : List It) (w : World) (hn : l.length = n) (hnc : n ≤ c) (hs : (-9223372036854775808 ≤ s ∧ s ≤ 9223372036854775807)) (h : RdI w w.heap.size A l) (h64 : Its64 l) (hk : Hid (recOk s l = true)) :
    Calls Tryd.prog 12 #[.agg #[.int .i64 s, .slice A n c]] w fun e w' => e = .returned (.int .i64 0) ∧ Below w.heap.size w w' := by
  have := check_any A n c s l w hn hnc hs h h64
  rwa [recErr_yes hk.out] at this
theorem check_no (A : Option Addr) (n c : Nat) (s : Int) (l : List It) (w : World) (hn : l.length = n) (hnc : n ≤ c) (hs : (-9223372036854775808 ≤ s ∧ s ≤ 9223372036854775807)) (h : RdI w w.heap.size A l) (h64 : Its64 l) (hk : Hid (recOk s l = false)) :
    Calls Tryd.prog 12 #[.agg #[.int .i64 s, .slice A n c]] w fun e w' => e = .returned (.int .i64 1) ∧ Below w.heap.size w w' := by
  have := check_any A n c s l w hn hnc hs h h64
  rwa [recErr_no hk.out] at this
end Go.Proofs.YtfgiomidlfoonaaDoor
