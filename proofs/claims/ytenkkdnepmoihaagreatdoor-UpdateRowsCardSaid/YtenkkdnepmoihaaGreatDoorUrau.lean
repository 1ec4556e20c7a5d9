/- Texts put together: RecChk, RecFld, LogApply, OwnFull, RecHead, RecSec, Seal. -/
import Derived.Test.YtenkkdnepmoihaaGreatDoorUras
import Derived.Test.YtenkkdnepmoihaaGreatDoorUrah
import Derived.Test.YtenkkdnepmoihaaGreatDoorUrat
import Derived.Test.YtenkkdnepmoihaaGreatDoorUrad
import Derived.Test.YtenkkdnepmoihaaGreatDoorUrar
import Derived.Test.YtenkkdnepmoihaaGreatDoorUrac
import Derived.Test.YtenkkdnepmoihaaGreatDoorUrab
import Derived.Test.YtenkkdnepmoihaaGreatDoorUraa
section
set_option maxRecDepth 8000
set_option linter.unusedVariables false
set_option linter.unusedSimpArgs false
namespace Go.Proofs.YtenkkdnepmoihaaGreatDoor
open Go.RowKit

/-- What stays while Check asks of one Item. -/
def CkS (w : World) (p q : Nat) (s : Int) (A : Option Addr) (n c : Nat) (x : It) (D : Option Addr) (m cd : Nat) (V : World) : Prop :=
  V.cell? ⟨p, 0, none⟩ = some (.int .i64 s) ∧ V.cell? ⟨p, 1, none⟩ = some (.slice A n c) ∧ V.cell? ⟨q, 0, none⟩ = some (.int .i64 x.d) ∧ V.cell? ⟨q, 1, none⟩ = some (.int .i64 x.a) ∧ V.cell? ⟨q, 2, none⟩ = some (.slice D m cd)
    ∧ Below w.heap.size w V ∧ w.heap.size ≤ p ∧ w.heap.size ≤ q
theorem CkS.drew {w V : World} {p q : Nat} {s : Int} {A : Option Addr} {n c : Nat} {x : It} {D : Option Addr} {m cd : Nat} (h : CkS w p q s A n c x D m cd V) : CkS w p q s A n c x D m cd V.drew :=
  ⟨h.1, h.2.1, h.2.2.1, h.2.2.2.1, h.2.2.2.2.1, h.2.2.2.2.2.1.drew, h.2.2.2.2.2.2⟩
theorem CkS.later {w V V' : World} {p q : Nat} {s : Int} {A : Option Addr} {n c : Nat} {x : It} {D : Option Addr} {m cd : Nat} (h : CkS w p q s A n c x D m cd V) (hb : Below V.heap.size V V') : CkS w p q s A n c x D m cd V' := by
  obtain ⟨h0, h1, h2, h3, h4, h5, h6, h7⟩ := h
  have k := fun (a : Addr) (u : Value) (e : V.cell? a = some u) => (hb.cell (World.block_lt_of_cell? _ _ e)).trans e
  exact ⟨k _ _ h0, k _ _ h1, k _ _ h2, k _ _ h3, k _ _ h4, h5.trans (hb.mono h5.size), h6, h7⟩
theorem CkS.start {w W : World} {s : Int} {A : Option Addr} {n c : Nat} (x : It) (D : Option Addr) (m cd : Nat) (t : TypeId) (f : Nat × Nat) {p : Nat} (hp : w.heap.size ≤ p) (h0 : W.cell? ⟨p, 0, none⟩ = some (.int .i64 s)) (h1 : W.cell? ⟨p, 1, none⟩ = some (.slice A n c)) (hb : Below w.heap.size w W) :
    CkS w p W.heap.size s A n c x D m cd (W.alloc (.cells #[.int .i64 x.d, .int .i64 x.a, .slice D m cd] t f)) := by
  have k := fun (a : Addr) (u : Value) (e : W.cell? a = some u) (ob : Obj) => (World.cell?_alloc_lt W ob a (World.block_lt_of_cell? _ _ e)).trans e
  have c' := fun i => cell_of_row _ _ i _ _ _ (heap_alloc_new W (.cells #[.int .i64 x.d, .int .i64 x.a, .slice D m cd] t f))
  exact ⟨k _ _ h0 _, k _ _ h1 _, c' 0, c' 1, c' 2, hb.alloc hb.size _, hp, hb.size⟩
theorem fine_succ {l : List It} {j : Nat} (h : fineN l j = true) (h1 : mayB (itN l j) = true) (h2 : (l.take j).any (meetsB (itN l j)) = false) (hj : j < l.length) : fineN l (j + 1) = true := by
  rw [fineN_iff] at h ⊢
  intro k hk
  by_cases e : k = j
  · subst e
    refine ⟨h1, fun i hi => ?_⟩
    have := List.any_eq_false.1 h2 (itN l i) (by
      have hm := itN_mem (l := l.take k) (k := i) (by simp; omega)
      rwa [itN_take hi] at hm)
    simpa using this
  · exact h k (by omega)
theorem any_two {l : List It} {j : Nat} (h2 : (l.take j).any (meetsB (itN l j)) = true) (hj : j < l.length) : ∃ i, i < j ∧ meetsB (itN l j) (itN l i) = true := by
  obtain ⟨x, hx, hm⟩ := List.any_eq_true.1 h2
  obtain ⟨i, hi, rfl⟩ := List.getElem_of_mem hx
  have hi' : i < j ∧ i < l.length := by simp at hi; omega
  refine ⟨i, hi'.1, ?_⟩
  rw [show itN l i = (l.take j)[i] by simp [itN, hi'.2]]
  exact hm
set_option maxHeartbeats 2000000 in
theorem check_loop (A : Option Addr) (n c : Nat) (s : Int) (l : List It) (w : World) (hn : l.length = n) (hnc : n ≤ c) (hs : 1 ≤ s ∧ s ≤ 2147483647 ∧ l.length ≤ 3) (h : RdI w w.heap.size A l) (h64 : Its64 l) :
    Calls Tryz.prog 64 #[.agg #[.int .i64 s, .slice A n c]] w fun e w' => e = .returned (.int .i64 (recErr s l)) ∧ Below w.heap.size w w' := by
  subst hn
  have H := Lib.hid h
  have H64 := Lib.hid h64
  obtain ⟨hs1, hs2, hs3⟩ := hs
  have HE := Lib.hid (show fineN l l.length = true → recErr s l = 0 from fun q => recErr_yes ((recOk_iff s l).2 ⟨⟨hs1, hs2, hs3⟩, q⟩))
  clear h h64
  go_enter Tryz.func64, Tryz.ntmps64
  go_wp2
  go_loopw [22] (fun i wr => ∃ j : Nat, j ≤ l.length ∧ i = .int .i64 j ∧ fineN l j = true ∧ Below w.heap.size w wr ∧ wr.cell? ⟨w.heap.size, 0, none⟩ = some (.int .i64 s) ∧ wr.cell? ⟨w.heap.size, 1, none⟩ = some (.slice A l.length c)) (fun i _ => l.length - (intOf i).toNat)
  case atStart =>
    have c' := fun i => cell_of_row _ _ i _ _ _ (heap_alloc_new w (.cells #[.int .i64 s, .slice A l.length c] 43))
    exact ⟨0, Nat.zero_le _, rfl, by simp [fineN], below1 _ _, c' 0, c' 1⟩
  case round =>
    obtain ⟨j, hj, rfl, hall, hbr, hp0, hp1⟩ := hrel
    have Hall := Lib.hid hall
    clear hall
    by_cases hlt : j < l.length
    · obtain ⟨g, rfl, hg, hc⟩ := (H.out.below hbr (Nat.le_refl _)).2 (by omega)
      obtain ⟨D', c', hrp, _⟩ := hc j hlt
      clear hc
      have h64 := H64.out j hlt
      have CA := Lib.hid fun V (hV : Below w.heap.size w V) => anyI_any (some ⟨g, 0, none⟩) j c (l.take j) (itN l j) D' (itN l j).b.length c' V (by simp; omega) (((H.out.take j).below hV (Nat.le_refl _)).more hV.size)
      have Hno := Lib.hid (fun (q : mayB (itN l j) = false) => recErr_no (s := s) (recOk_at j hlt q))
      have Hme := Lib.hid (fun (q : (l.take j).any (meetsB (itN l j)) = true) => by
        obtain ⟨i, hi, hm⟩ := any_two q hlt
        exact recErr_no (s := s) (recOk_two j i hlt hi hm))
      have Hok := Lib.hid (fun q1 q2 => fine_succ (l := l) (j := j) Hall.out q1 q2 hlt)
      have CM := Lib.hid fun V => may_any (itN l j) D' (itN l j).b.length c' V rfl h64
      clear h64
      generalize (l.take j).any (meetsB (itN l j)) = me at CA Hme Hok
      generalize mayB (itN l j) = ma at CM Hno Hok
      generalize itN l j = y at hrp CA CM
      have Hrp := Lib.hid hrp
      have S0 := CkS.start y D' y.b.length c' 92 (0, 0) (Nat.le_refl _) hp0 hp1 hbr
      have k0 : (0 : Int) ≤ (j : Int) := by omega
      have k1 : (j : Int) < (l.length : Int) := by omega
      have k2 : (j : Int) ≤ (c : Int) := by omega
      clear hrp
      go_wp2_with (
          ((with_reducible refine (id ?_ : wpList _ _ _ (⟨some 26, _, _, _, _, _⟩ :: _) _ _)); refine wpList_load_mid rfl 92 _ (by rfl) g (j * 3) (by rfl) [.int .i64 y.d, .int .i64 y.a, .slice D' y.b.length c'] _ Hrp.out Tryz.underlying92 rfl (by kernel_rfl) ?_))
      go_name_world wz hwz
      rw [hwz] at S0
      clear hwz hbr hp0 hp1
      cases ma
      · have RR := Lib.hid (Hno.out rfl)
        clear Hok Hme CA
        refine wp_region_noPanic (region_ord 12 [] (fun V => CkS w w.heap.size wr.heap.size s (some ⟨g, 0, none⟩) l.length c y D' y.b.length c' V) (by kernel_rfl) (by kernel_rfl) (fun _ _ _ _ _ h => h) fun R => ?_)
        change anyI _ _ _ _ _ _ 12 _ _ wz.drew
        have HS0 := Lib.hid (show (fun V => CkS w w.heap.size wr.heap.size s (some ⟨g, 0, none⟩) l.length c y D' y.b.length c' V) wz.drew from CkS.drew S0)
        refine' anyI_take R 0 rfl (v := ?_) (by kernel_rfl) (by rfl) (fun V hV => ?hy) HS0.out ?_
        case hy => ((try dsimp only at hV);  obtain ⟨q0, q1, q2, q3, q4, q5, q6, q7⟩ := hV; go_simp; try with_reducible rfl)
        try simp only [Act.put, List.getElem_toArray, List.getElem_cons_succ, List.getElem_cons_zero, List.setIfInBounds_toArray, List.set_cons_zero, List.set_cons_succ]
        refine anyI_one 1 (by kernel_rfl) rfl ?_
        try simp only [List.getElem_toArray, List.getElem_cons_succ, List.getElem_cons_zero]
        refine opE_step ?_
        rw [if_pos (by rfl)]
        go_simp
        go_at_call 97
        refine (CM.out _).mono ?_
        rintro e w1 ⟨rfl, hb⟩
        replace HS0 := Lib.hid (CkS.later HS0.out hb)
        clear hb
        dsimp only
        refine ⟨HS0.out, ?_⟩
        try simp only [Act.put, List.getElem_toArray, List.getElem_cons_succ, List.getElem_cons_zero, List.setIfInBounds_toArray, List.set_cons_zero, List.set_cons_succ]
        refine' anyI_take R 2 rfl (v := ?_) (by kernel_rfl) (by rfl) (fun V hV => ?hy) HS0.out ?_
        case hy => ((try dsimp only at hV);  obtain ⟨q0, q1, q2, q3, q4, q5, q6, q7⟩ := hV; go_simp; try with_reducible rfl)
        try simp only [Act.put, List.getElem_toArray, List.getElem_cons_succ, List.getElem_cons_zero, List.setIfInBounds_toArray, List.set_cons_zero, List.set_cons_succ]
        refine' anyI_take R 3 rfl (v := ?_) (by kernel_rfl) (by rfl) (fun V hV => ?hy) HS0.out ?_
        case hy => ((try dsimp only at hV);  obtain ⟨q0, q1, q2, q3, q4, q5, q6, q7⟩ := hV; go_simp; try with_reducible rfl)
        try simp only [Act.put, List.getElem_toArray, List.getElem_cons_succ, List.getElem_cons_zero, List.setIfInBounds_toArray, List.set_cons_zero, List.set_cons_succ]
        refine anyI_skip R 4 rfl (by kernel_rfl) (by rfl) HS0.out ?_
        try simp only [Act.put, List.getElem_toArray, List.getElem_cons_succ, List.getElem_cons_zero, List.setIfInBounds_toArray, List.set_cons_zero, List.set_cons_succ]
        refine anyI_skip R 5 rfl (by kernel_rfl) (by rfl) HS0.out ?_
        try simp only [Act.put, List.getElem_toArray, List.getElem_cons_succ, List.getElem_cons_zero, List.setIfInBounds_toArray, List.set_cons_zero, List.set_cons_succ]
        refine anyI_skip R 6 rfl (by kernel_rfl) (by rfl) HS0.out ?_
        try simp only [Act.put, List.getElem_toArray, List.getElem_cons_succ, List.getElem_cons_zero, List.setIfInBounds_toArray, List.set_cons_zero, List.set_cons_succ]
        refine anyI_skip R 7 rfl (by kernel_rfl) (by rfl) HS0.out ?_
        try simp only [Act.put, List.getElem_toArray, List.getElem_cons_succ, List.getElem_cons_zero, List.setIfInBounds_toArray, List.set_cons_zero, List.set_cons_succ]
        refine anyI_skip R 8 rfl (by kernel_rfl) (by rfl) HS0.out ?_
        try simp only [Act.put, List.getElem_toArray, List.getElem_cons_succ, List.getElem_cons_zero, List.setIfInBounds_toArray, List.set_cons_zero, List.set_cons_succ]
        refine anyI_skip R 9 rfl (by kernel_rfl) (by rfl) HS0.out ?_
        try simp only [Act.put, List.getElem_toArray, List.getElem_cons_succ, List.getElem_cons_zero, List.setIfInBounds_toArray, List.set_cons_zero, List.set_cons_succ]
        refine anyI_skip R 10 rfl (by kernel_rfl) (by rfl) HS0.out ?_
        try simp only [Act.put, List.getElem_toArray, List.getElem_cons_succ, List.getElem_cons_zero, List.setIfInBounds_toArray, List.set_cons_zero, List.set_cons_succ]
        refine' anyI_take R 11 rfl (v := ?_) (by kernel_rfl) (by rfl) (fun V hV => ?hy) HS0.out ?_
        case hy => ((try dsimp only at hV);  obtain ⟨q0, q1, q2, q3, q4, q5, q6, q7⟩ := hV; go_simp; try with_reducible rfl)
        try simp only [Act.put, List.getElem_toArray, List.getElem_cons_succ, List.getElem_cons_zero, List.setIfInBounds_toArray, List.set_cons_zero, List.set_cons_succ]
        refine anyI_tail (by kernel_rfl) ?_
        try simp only [List.drop_succ_cons, List.drop_zero]
        clear R
        go_wp2_with fail
        refine NoPanic.normal ?_
        refine ‹∀ (a : Act) (w : World), Code.wp _ (Code.cond _ _ _) _ a w → _› _ _ ?_
        go_wp2_with fail
        go_ret
        exact ⟨by rw [RR.out]; rfl, HS0.out.2.2.2.2.2.1⟩
      cases me
      · have RR := Lib.hid (Hok.out rfl rfl)
        clear Hok Hme Hno
        refine wp_region_noPanic (region_ord 12 [] (fun V => CkS w w.heap.size wr.heap.size s (some ⟨g, 0, none⟩) l.length c y D' y.b.length c' V) (by kernel_rfl) (by kernel_rfl) (fun _ _ _ _ _ h => h) fun R => ?_)
        change anyI _ _ _ _ _ _ 12 _ _ wz.drew
        have HS0 := Lib.hid (show (fun V => CkS w w.heap.size wr.heap.size s (some ⟨g, 0, none⟩) l.length c y D' y.b.length c' V) wz.drew from CkS.drew S0)
        refine' anyI_take R 0 rfl (v := ?_) (by kernel_rfl) (by rfl) (fun V hV => ?hy) HS0.out ?_
        case hy => ((try dsimp only at hV);  obtain ⟨q0, q1, q2, q3, q4, q5, q6, q7⟩ := hV; go_simp; try with_reducible rfl)
        try simp only [Act.put, List.getElem_toArray, List.getElem_cons_succ, List.getElem_cons_zero, List.setIfInBounds_toArray, List.set_cons_zero, List.set_cons_succ]
        refine anyI_one 1 (by kernel_rfl) rfl ?_
        try simp only [List.getElem_toArray, List.getElem_cons_succ, List.getElem_cons_zero]
        refine opE_step ?_
        rw [if_pos (by rfl)]
        go_simp
        go_at_call 97
        refine (CM.out _).mono ?_
        rintro e w1 ⟨rfl, hb⟩
        replace HS0 := Lib.hid (CkS.later HS0.out hb)
        clear hb
        dsimp only
        refine ⟨HS0.out, ?_⟩
        try simp only [Act.put, List.getElem_toArray, List.getElem_cons_succ, List.getElem_cons_zero, List.setIfInBounds_toArray, List.set_cons_zero, List.set_cons_succ]
        refine' anyI_take R 2 rfl (v := ?_) (by kernel_rfl) (by rfl) (fun V hV => ?hy) HS0.out ?_
        case hy => ((try dsimp only at hV);  obtain ⟨q0, q1, q2, q3, q4, q5, q6, q7⟩ := hV; go_simp; try with_reducible rfl)
        try simp only [Act.put, List.getElem_toArray, List.getElem_cons_succ, List.getElem_cons_zero, List.setIfInBounds_toArray, List.set_cons_zero, List.set_cons_succ]
        refine' anyI_take R 3 rfl (v := ?_) (by kernel_rfl) (by rfl) (fun V hV => ?hy) HS0.out ?_
        case hy => ((try dsimp only at hV);  obtain ⟨q0, q1, q2, q3, q4, q5, q6, q7⟩ := hV; go_simp; try with_reducible rfl)
        try simp only [Act.put, List.getElem_toArray, List.getElem_cons_succ, List.getElem_cons_zero, List.setIfInBounds_toArray, List.set_cons_zero, List.set_cons_succ]
        refine' anyI_take R 4 rfl (v := ?_) (by kernel_rfl) (by rfl) (fun V hV => ?hy) HS0.out ?_
        case hy => ((try dsimp only at hV);  obtain ⟨q0, q1, q2, q3, q4, q5, q6, q7⟩ := hV; go_simp; try with_reducible rfl)
        try simp only [Act.put, List.getElem_toArray, List.getElem_cons_succ, List.getElem_cons_zero, List.setIfInBounds_toArray, List.set_cons_zero, List.set_cons_succ]
        refine' anyI_take R 5 rfl (v := ?_) (by kernel_rfl) (by rfl) (fun V hV => ?hy) HS0.out ?_
        case hy => ((try dsimp only at hV);  obtain ⟨q0, q1, q2, q3, q4, q5, q6, q7⟩ := hV; go_simp; try with_reducible rfl)
        try simp only [Act.put, List.getElem_toArray, List.getElem_cons_succ, List.getElem_cons_zero, List.setIfInBounds_toArray, List.set_cons_zero, List.set_cons_succ]
        refine' anyI_take R 6 rfl (v := ?_) (by kernel_rfl) (by rfl) (fun V hV => ?hy) HS0.out ?_
        case hy => ((try dsimp only at hV);  obtain ⟨q0, q1, q2, q3, q4, q5, q6, q7⟩ := hV; go_simp; try with_reducible rfl)
        try simp only [Act.put, List.getElem_toArray, List.getElem_cons_succ, List.getElem_cons_zero, List.setIfInBounds_toArray, List.set_cons_zero, List.set_cons_succ]
        refine' anyI_take R 7 rfl (v := ?_) (by kernel_rfl) (by rfl) (fun V hV => ?hy) HS0.out ?_
        case hy => ((try dsimp only at hV);  obtain ⟨q0, q1, q2, q3, q4, q5, q6, q7⟩ := hV; go_simp; try with_reducible rfl)
        try simp only [Act.put, List.getElem_toArray, List.getElem_cons_succ, List.getElem_cons_zero, List.setIfInBounds_toArray, List.set_cons_zero, List.set_cons_succ]
        refine' anyI_take R 8 rfl (v := ?_) (by kernel_rfl) (by rfl) (fun V hV => ?hy) HS0.out ?_
        case hy => ((try dsimp only at hV);  obtain ⟨q0, q1, q2, q3, q4, q5, q6, q7⟩ := hV; go_simp; try with_reducible rfl)
        try simp only [Act.put, List.getElem_toArray, List.getElem_cons_succ, List.getElem_cons_zero, List.setIfInBounds_toArray, List.set_cons_zero, List.set_cons_succ]
        refine' anyI_take R 9 rfl (v := ?_) (by kernel_rfl) (by rfl) (fun V hV => ?hy) HS0.out ?_
        case hy => ((try dsimp only at hV);  obtain ⟨q0, q1, q2, q3, q4, q5, q6, q7⟩ := hV; go_simp; try with_reducible rfl)
        try simp only [Act.put, List.getElem_toArray, List.getElem_cons_succ, List.getElem_cons_zero, List.setIfInBounds_toArray, List.set_cons_zero, List.set_cons_succ]
        refine anyI_one 10 (by kernel_rfl) rfl ?_
        try simp only [List.getElem_toArray, List.getElem_cons_succ, List.getElem_cons_zero]
        refine opE_step ?_
        rw [if_pos (by rfl)]
        go_simp
        go_at_call 98
        refine (CA.out _ HS0.out.2.2.2.2.2.1).mono ?_
        rintro e w2 ⟨rfl, hb⟩
        replace HS0 := Lib.hid (CkS.later HS0.out hb)
        clear hb
        dsimp only
        refine ⟨HS0.out, ?_⟩
        try simp only [Act.put, List.getElem_toArray, List.getElem_cons_succ, List.getElem_cons_zero, List.setIfInBounds_toArray, List.set_cons_zero, List.set_cons_succ]
        refine' anyI_take R 11 rfl (v := ?_) (by kernel_rfl) (by rfl) (fun V hV => ?hy) HS0.out ?_
        case hy => ((try dsimp only at hV);  obtain ⟨q0, q1, q2, q3, q4, q5, q6, q7⟩ := hV; go_simp; try with_reducible rfl)
        try simp only [Act.put, List.getElem_toArray, List.getElem_cons_succ, List.getElem_cons_zero, List.setIfInBounds_toArray, List.set_cons_zero, List.set_cons_succ]
        refine anyI_tail (by kernel_rfl) ?_
        try simp only [List.drop_succ_cons, List.drop_zero]
        clear R
        go_wp2_with fail
        refine NoPanic.normal ?_
        refine ‹∀ (a : Act) (w : World), Code.wp _ (Code.cond _ _ _) _ a w → _› _ _ ?_
        go_wp2_with fail
        go_roundw
        case rel => exact ⟨j + 1, by omega, by go_num, RR.out, HS0.out.2.2.2.2.2.1, HS0.out.1, HS0.out.2.1⟩
        case measure => simp [intOf]; omega
      · have RR := Lib.hid (Hme.out rfl)
        clear Hok Hme Hno
        refine wp_region_noPanic (region_ord 12 [] (fun V => CkS w w.heap.size wr.heap.size s (some ⟨g, 0, none⟩) l.length c y D' y.b.length c' V) (by kernel_rfl) (by kernel_rfl) (fun _ _ _ _ _ h => h) fun R => ?_)
        change anyI _ _ _ _ _ _ 12 _ _ wz.drew
        have HS0 := Lib.hid (show (fun V => CkS w w.heap.size wr.heap.size s (some ⟨g, 0, none⟩) l.length c y D' y.b.length c' V) wz.drew from CkS.drew S0)
        refine' anyI_take R 0 rfl (v := ?_) (by kernel_rfl) (by rfl) (fun V hV => ?hy) HS0.out ?_
        case hy => ((try dsimp only at hV);  obtain ⟨q0, q1, q2, q3, q4, q5, q6, q7⟩ := hV; go_simp; try with_reducible rfl)
        try simp only [Act.put, List.getElem_toArray, List.getElem_cons_succ, List.getElem_cons_zero, List.setIfInBounds_toArray, List.set_cons_zero, List.set_cons_succ]
        refine anyI_one 1 (by kernel_rfl) rfl ?_
        try simp only [List.getElem_toArray, List.getElem_cons_succ, List.getElem_cons_zero]
        refine opE_step ?_
        rw [if_pos (by rfl)]
        go_simp
        go_at_call 97
        refine (CM.out _).mono ?_
        rintro e w1 ⟨rfl, hb⟩
        replace HS0 := Lib.hid (CkS.later HS0.out hb)
        clear hb
        dsimp only
        refine ⟨HS0.out, ?_⟩
        try simp only [Act.put, List.getElem_toArray, List.getElem_cons_succ, List.getElem_cons_zero, List.setIfInBounds_toArray, List.set_cons_zero, List.set_cons_succ]
        refine' anyI_take R 2 rfl (v := ?_) (by kernel_rfl) (by rfl) (fun V hV => ?hy) HS0.out ?_
        case hy => ((try dsimp only at hV);  obtain ⟨q0, q1, q2, q3, q4, q5, q6, q7⟩ := hV; go_simp; try with_reducible rfl)
        try simp only [Act.put, List.getElem_toArray, List.getElem_cons_succ, List.getElem_cons_zero, List.setIfInBounds_toArray, List.set_cons_zero, List.set_cons_succ]
        refine' anyI_take R 3 rfl (v := ?_) (by kernel_rfl) (by rfl) (fun V hV => ?hy) HS0.out ?_
        case hy => ((try dsimp only at hV);  obtain ⟨q0, q1, q2, q3, q4, q5, q6, q7⟩ := hV; go_simp; try with_reducible rfl)
        try simp only [Act.put, List.getElem_toArray, List.getElem_cons_succ, List.getElem_cons_zero, List.setIfInBounds_toArray, List.set_cons_zero, List.set_cons_succ]
        refine' anyI_take R 4 rfl (v := ?_) (by kernel_rfl) (by rfl) (fun V hV => ?hy) HS0.out ?_
        case hy => ((try dsimp only at hV);  obtain ⟨q0, q1, q2, q3, q4, q5, q6, q7⟩ := hV; go_simp; try with_reducible rfl)
        try simp only [Act.put, List.getElem_toArray, List.getElem_cons_succ, List.getElem_cons_zero, List.setIfInBounds_toArray, List.set_cons_zero, List.set_cons_succ]
        refine' anyI_take R 5 rfl (v := ?_) (by kernel_rfl) (by rfl) (fun V hV => ?hy) HS0.out ?_
        case hy => ((try dsimp only at hV);  obtain ⟨q0, q1, q2, q3, q4, q5, q6, q7⟩ := hV; go_simp; try with_reducible rfl)
        try simp only [Act.put, List.getElem_toArray, List.getElem_cons_succ, List.getElem_cons_zero, List.setIfInBounds_toArray, List.set_cons_zero, List.set_cons_succ]
        refine' anyI_take R 6 rfl (v := ?_) (by kernel_rfl) (by rfl) (fun V hV => ?hy) HS0.out ?_
        case hy => ((try dsimp only at hV);  obtain ⟨q0, q1, q2, q3, q4, q5, q6, q7⟩ := hV; go_simp; try with_reducible rfl)
        try simp only [Act.put, List.getElem_toArray, List.getElem_cons_succ, List.getElem_cons_zero, List.setIfInBounds_toArray, List.set_cons_zero, List.set_cons_succ]
        refine' anyI_take R 7 rfl (v := ?_) (by kernel_rfl) (by rfl) (fun V hV => ?hy) HS0.out ?_
        case hy => ((try dsimp only at hV);  obtain ⟨q0, q1, q2, q3, q4, q5, q6, q7⟩ := hV; go_simp; try with_reducible rfl)
        try simp only [Act.put, List.getElem_toArray, List.getElem_cons_succ, List.getElem_cons_zero, List.setIfInBounds_toArray, List.set_cons_zero, List.set_cons_succ]
        refine' anyI_take R 8 rfl (v := ?_) (by kernel_rfl) (by rfl) (fun V hV => ?hy) HS0.out ?_
        case hy => ((try dsimp only at hV);  obtain ⟨q0, q1, q2, q3, q4, q5, q6, q7⟩ := hV; go_simp; try with_reducible rfl)
        try simp only [Act.put, List.getElem_toArray, List.getElem_cons_succ, List.getElem_cons_zero, List.setIfInBounds_toArray, List.set_cons_zero, List.set_cons_succ]
        refine' anyI_take R 9 rfl (v := ?_) (by kernel_rfl) (by rfl) (fun V hV => ?hy) HS0.out ?_
        case hy => ((try dsimp only at hV);  obtain ⟨q0, q1, q2, q3, q4, q5, q6, q7⟩ := hV; go_simp; try with_reducible rfl)
        try simp only [Act.put, List.getElem_toArray, List.getElem_cons_succ, List.getElem_cons_zero, List.setIfInBounds_toArray, List.set_cons_zero, List.set_cons_succ]
        refine anyI_one 10 (by kernel_rfl) rfl ?_
        try simp only [List.getElem_toArray, List.getElem_cons_succ, List.getElem_cons_zero]
        refine opE_step ?_
        rw [if_pos (by rfl)]
        go_simp
        go_at_call 98
        refine (CA.out _ HS0.out.2.2.2.2.2.1).mono ?_
        rintro e w2 ⟨rfl, hb⟩
        replace HS0 := Lib.hid (CkS.later HS0.out hb)
        clear hb
        dsimp only
        refine ⟨HS0.out, ?_⟩
        try simp only [Act.put, List.getElem_toArray, List.getElem_cons_succ, List.getElem_cons_zero, List.setIfInBounds_toArray, List.set_cons_zero, List.set_cons_succ]
        refine' anyI_take R 11 rfl (v := ?_) (by kernel_rfl) (by rfl) (fun V hV => ?hy) HS0.out ?_
        case hy => ((try dsimp only at hV);  obtain ⟨q0, q1, q2, q3, q4, q5, q6, q7⟩ := hV; go_simp; try with_reducible rfl)
        try simp only [Act.put, List.getElem_toArray, List.getElem_cons_succ, List.getElem_cons_zero, List.setIfInBounds_toArray, List.set_cons_zero, List.set_cons_succ]
        refine anyI_tail (by kernel_rfl) ?_
        try simp only [List.drop_succ_cons, List.drop_zero]
        clear R
        go_wp2_with fail
        refine NoPanic.normal ?_
        refine ‹∀ (a : Act) (w : World), Code.wp _ (Code.cond _ _ _) _ a w → _› _ _ ?_
        go_wp2_with fail
        go_ret
        exact ⟨by rw [RR.out]; rfl, HS0.out.2.2.2.2.2.1⟩
    · obtain rfl : j = l.length := by omega
      have RR := Lib.hid (HE.out Hall.out)
      go_wp2
      go_ret
      exact ⟨by rw [RR.out]; rfl, hbr⟩
theorem recCheck_any (A : Option Addr) (n c : Nat) (s : Int) (l : List It) (w : World) (hn : l.length = n) (hnc : n ≤ c) (hs : (-9223372036854775808 ≤ s ∧ s ≤ 9223372036854775807)) (h : RdI w w.heap.size A l) (h64 : Its64 l) :
    Calls Tryz.prog 64 #[.agg #[.int .i64 s, .slice A n c]] w fun e w' => e = .returned (.int .i64 (recErr s l)) ∧ Below w.heap.size w w' := by
  by_cases h1 : 1 ≤ s
  · by_cases h2 : s ≤ 2147483647
    · by_cases h3 : l.length ≤ 3
      · exact check_loop A n c s l w hn hnc ⟨h1, h2, h3⟩ h h64
      · have RR := Lib.hid (recErr_no (recOk_no (s := s) (l := l) (by omega)))
        rw [hn] at h3
        clear h h64 hn
        go_enter Tryz.func64, Tryz.ntmps64
        go_wp2
        go_ret
        exact ⟨by rw [RR.out]; rfl, below1 _ _⟩
    · have RR := Lib.hid (recErr_no (recOk_no (s := s) (l := l) (by omega)))
      clear h h64 hn
      go_enter Tryz.func64, Tryz.ntmps64
      go_wp2
      go_ret
      exact ⟨by rw [RR.out]; rfl, below1 _ _⟩
  · have RR := Lib.hid (recErr_no (recOk_no (s := s) (l := l) (by omega)))
    clear h h64 hn
    go_enter Tryz.func64, Tryz.ntmps64
    go_wp2
    go_ret
    exact ⟨by rw [RR.out]; rfl, below1 _ _⟩
theorem recCheck_yes (A : Option Addr) (n c : Nat) (s : Int) (l : List It) (w : World) (hn : l.length = n) (hnc : n ≤ c) (hs : (-9223372036854775808 ≤ s ∧ s ≤ 9223372036854775807)) (h : RdI w w.heap.size A l) (h64 : Its64 l) (hk : Hid (recOk s l = true)) :
    Calls Tryz.prog 64 #[.agg #[.int .i64 s, .slice A n c]] w fun e w' => e = .returned (.int .i64 0) ∧ Below w.heap.size w w' := by
  have := recCheck_any A n c s l w hn hnc hs h h64
  rwa [recErr_yes hk.out] at this
theorem recCheck_no (A : Option Addr) (n c : Nat) (s : Int) (l : List It) (w : World) (hn : l.length = n) (hnc : n ≤ c) (hs : (-9223372036854775808 ≤ s ∧ s ≤ 9223372036854775807)) (h : RdI w w.heap.size A l) (h64 : Its64 l) (hk : Hid (recOk s l = false)) :
    Calls Tryz.prog 64 #[.agg #[.int .i64 s, .slice A n c]] w fun e w' => e = .returned (.int .i64 1) ∧ Below w.heap.size w w' := by
  have := recCheck_any A n c s l w hn hnc hs h h64
  rwa [recErr_no hk.out] at this
end Go.Proofs.YtenkkdnepmoihaaGreatDoor
end
section
set_option maxRecDepth 8000
set_option linter.unusedVariables false
set_option linter.unusedSimpArgs false
namespace Go.Proofs.YtenkkdnepmoihaaGreatDoor
open Go.RowKit

theorem infoI : (Tryz.prog.info? 92).map (fun i => (i.zero, i.size, i.bytes)) = some (some (.agg #[.int .i64 0, .int .i64 0, .slice none 0 0]), 3, 40) := by kernel_rfl
section
variable {w V V' : World} {y y' : Int} {v v' : Value} {l l' : List It}
theorem grown_cell (V : World) (q i : Nat) (u : Value) : V.grownBy (V.setCell ⟨q, i, none⟩ u) (some q) := ⟨rfl, rfl, rfl, by simp, fun k _ hne => Below.heap_setCell V _ _ k (fun e => hne (by rw [e]))⟩
end
end Go.Proofs.YtenkkdnepmoihaaGreatDoor
end
section
set_option maxRecDepth 8000
set_option linter.unusedVariables false
set_option linter.unusedSimpArgs false
namespace Go.Proofs.YtenkkdnepmoihaaGreatDoor
open Go.RowKit

theorem filt_yes {f : It → Bool} {l : List It} {j : Nat} (h : j < l.length) (hf : f (itN l j) = true) : (l.take (j + 1)).filter f = (l.take j).filter f ++ [itN l j] := by
  rw [its_take h, List.filter_append, List.filter_cons_of_pos hf, List.filter_nil]
theorem filt_no {f : It → Bool} {l : List It} {j : Nat} (h : j < l.length) (hf : f (itN l j) = false) : (l.take (j + 1)).filter f = (l.take j).filter f := by
  rw [its_take h, List.filter_append, List.filter_cons_of_neg (by simp [hf]), List.filter_nil, List.append_nil]
theorem filt_len (f : It → Bool) (l : List It) (j : Nat) : ((l.take j).filter f).length ≤ j := by
  have h1 := List.length_filter_le f (l.take j)
  have h2 : (l.take j).length ≤ j := by simp; omega
  omega
theorem its64_sub {l m : List It} (h : Its64 l) (hs : ∀ x ∈ m, x ∈ l) : Its64 m := fun k hk => by
  obtain ⟨i, hi, e⟩ := List.getElem_of_mem (hs _ (itN_mem hk))
  have := h i hi
  rw [show itN l i = l[i] from by simp [itN, List.getD_eq_getElem?_getD, hi], e] at this
  exact this
set_option maxHeartbeats 4000000 in
theorem app_any (W w : World) (b : Nat) (H : BH) (N : Bch) (h : BP W w b H N) (lv : List Bool) (LA : Option Addr) (ln lc : Nat) (hln : ln = lv.length) (hlv : RdO w w.heap.size LA lv)
    (s : Int) (l : List It) (A : Option Addr) (n c : Nat) (hn : n = l.length) (hnc : n ≤ c) (hr : RdIF w (BF b H N.n) A l) (h64 : Its64 l) (hs : (-9223372036854775808 ≤ s ∧ s ≤ 9223372036854775807))
    (hps : ∀ i, i < N.n → (N.D i).ps.length ≤ 1000000) (hdn : N.done ≤ 1000000) :
    Calls Tryz.prog 31 #[.pointer (some ⟨b, 0, none⟩), .slice LA ln lc, .agg #[.int .i64 s, .slice A n c]] w fun e w' => e = .returned (.int .i64 (appS N lv s l).1) ∧ BC W w w' b H N.n (appS N lv s l).2 := by
  subst hn hln
  have hrd := hr.rdI
  have Hh := Lib.hid h
  have B1 := below1 w (.cells #[.int .i64 s, .slice A l.length c] 43)
  have c1 := cell_of_row _ _ 1 _ _ _ (heap_alloc_new w (.cells #[.int .i64 s, .slice A l.length c] 43))
  have C1 := Lib.hid c1
  cases hk : recOk s l with
  | false =>
    have CK := Lib.hid (recCheck_no A l.length c s l _ rfl hnc hs (hrd.later B1) h64 (Lib.hid hk))
    have HE := Lib.hid (show appS N lv s l = (1, N) by unfold appS; rw [hk]; rfl)
    have Hb1 := Lib.hid B1
    clear hk hr h64 hps hdn hrd hlv h B1 c1 C1
    go_enter Tryz.func31, Tryz.ntmps31
    go_wp2_with fail
    refine CK.out.mono ?_
    rintro e w1 ⟨rfl, hb⟩
    have B2 := Lib.hid (Hb1.out.trans (hb.mono Hb1.out.size))
    clear hb
    go_wp2
    go_ret
    exact ⟨by rw [HE.out]; rfl, by rw [HE.out]; exact BC.below B2.out (Hh.out.grow B2.out).self⟩
  | true =>
    have CK := Lib.hid (recCheck_yes A l.length c s l _ rfl hnc hs (hrd.later B1) h64 (Lib.hid hk))
    have HE := Lib.hid (show appS N lv s l = settleS N (l.filter (liveI N.n lv)) by unfold appS; rw [hk]; rfl)
    have HM := Lib.hid (fun j (hj : j < l.length) => recOk_may hk _ (itN_mem hj))
    have hl3 := ((recOk_iff s l).1 hk).1.2.2
    have Hr := Lib.hid hr
    have H64 := Lib.hid h64
    have Hlv := Lib.hid hlv
    have Hoff := Lib.hid (show ∀ k, w.heap.size ≤ k → ¬ BF b H N.n k from fun k hk e => by have := (h.at'.flt e).2; omega)
    have CS := Lib.hid (fun V (hV : Below w.heap.size w V) (m : List It) (A2 : Option Addr) (c2 : Nat) (hm : RdIF V (BF b H N.n) A2 m) (h6 : Its64 m) => settle_any W V b H N (h.grow hV) m A2 m.length c2 rfl hm h6 hps hdn)
    have Hb1 := Lib.hid B1
    clear hk hr h64 hps hdn hrd hlv h B1 c1
    go_enter Tryz.func31, Tryz.ntmps31
    go_wp2_with fail
    refine CK.out.mono ?_
    rintro e w1 ⟨rfl, hb⟩
    have c1 := (hb.cell (p := ⟨w.heap.size, 1, none⟩) (by show w.heap.size < _; simp)).trans C1.out
    have B2 := Lib.hid (Hb1.out.trans (hb.mono Hb1.out.size))
    clear hb CK
    go_wp2
    go_loopw [8, 19] (fun v i wr => ∃ j : Nat, j ≤ l.length ∧ i = .int .i64 j ∧ OwIP 92 wr w.heap.size (fun k => ¬ BF b H N.n k) v ((l.take j).filter (liveI N.n lv)) ∧ Below w.heap.size w wr) (fun _ i _ => l.length - (intOf i).toNat)
    case atStart => exact ⟨0, Nat.zero_le _, rfl, OwIP.nil _ _ _ _, B2.out⟩
    case round =>
      obtain ⟨j, hj, rfl, ho, hbr⟩ := hrel
      by_cases hlt : j < l.length
      · have hm := HM.out j hlt
        obtain ⟨g, rfl, hg, _, hc⟩ := Hr.out.2 (by omega)
        obtain ⟨D, cd, hrp, hcap, hrd, hof⟩ := hc j hlt
        have Hty := Lib.hid (filt_yes (f := liveI N.n lv) hlt)
        have Htn := Lib.hid (filt_no (f := liveI N.n lv) hlt)
        have Hfl := Lib.hid (filt_len (liveI N.n lv) l j)
        generalize itN l j = y at hrp hrd hcap Hty Htn hm hof
        have Hrp := Lib.hid (rangeAt_keep (w' := wr) hrp fun k => hbr.cell hg)
        have BX := below1 wr (.cells #[.int .i64 y.d, .int .i64 y.a, .slice D y.b.length cd] 92)
        have c' := fun i => cell_of_row _ _ i _ _ _ (heap_alloc_new wr (.cells #[.int .i64 y.d, .int .i64 y.a, .slice D y.b.length cd] 92))
        have BB := hbr.alloc hbr.size (.cells #[.int .i64 y.d, .int .i64 y.a, .slice D y.b.length cd] 92)
        have hbz := hbr.size
        generalize hW1 : wr.alloc (.cells #[.int .i64 y.d, .int .i64 y.a, .slice D y.b.length cd] 92) = W1 at BX c' BB
        have CL := Lib.hid (isLive_any _ b H N W1 (Hh.out.grow BB).at' lv LA lv.length lc rfl (Hlv.out.keep BB.size fun p hp => BB.cell hp) y.d hm.1 (by omega))
        have B2' := below1 W1 (.cells #[.int .i64 y.d, .int .i64 y.a, .slice D y.b.length cd] 92)
        have ho1 := Lib.hid (ho.below BX)
        have ho2 := Lib.hid ((ho.below BX).below B2')
        have hrd2 : RdB (W1.alloc (.cells #[.int .i64 y.d, .int .i64 y.a, .slice D y.b.length cd] 92)) (W1.alloc (.cells #[.int .i64 y.d, .int .i64 y.a, .slice D y.b.length cd] 92)).heap.size D y.b := ((hrd.below BB (Nat.le_refl _)).more BB.size |>.below B2' (Nat.le_refl _)).more B2'.size
        have HSr := Lib.hid (fun (ob : Option Nat) (hob : ob = u8.ownBlock) => src_oneP (P := fun k => ¬ BF b H N.n k) (ob := ob) (x := y) (c := cd) (heap_alloc_new W1 (.cells #[.int .i64 y.d, .int .i64 y.a, .slice D y.b.length cd] 92)) hrd2 hcap (fun h0 a ha => by
          refine ⟨fun e => ?_, hof h0 a ha⟩
          rw [hob] at e
          obtain ⟨b', off', e2, hb', _⟩ := hrd.2 h0
          rw [ha] at e2
          injection e2 with e2
          subst e2
          have := (ho.lt b' e.symm).1
          omega))
        have BB1 := Lib.hid BB
        have BB2 := Lib.hid (BB.alloc BB.size (.cells #[.int .i64 y.d, .int .i64 y.a, .slice D y.b.length cd] 92))
        have hzz := Lib.hid (BB2.out.size)
        have k0 : (0 : Int) ≤ (j : Int) := by omega
        have k1 : (j : Int) < (l.length : Int) := by omega
        obtain ⟨b0, b1, b2⟩ := And.intro (c' 0) (And.intro (c' 1) (c' 2))
        have Hlt := Lib.hid (ho.lt)
        clear hrp hrd hcap hc ho BX BB B2' hrd2 c' hof hm
        have Hlf : Hid (liveI N.n lv y = liveD N.n lv y.d) := rfl
        rw [Hlf.out] at Hty Htn
        unfold ptr at CL
        cases hx : liveD N.n lv y.d with
        | false =>
          rw [hx] at CL
          have Htn := Lib.hid (Htn.out hx)
          clear Hty hx
          go_wp2_with (first
            | ((with_reducible refine (id ?_ : wpList _ _ _ (⟨some 22, _, _, _, _, _⟩ :: _) _ _)); refine wpList_load_mid rfl 92 _ (by rfl) g (j * 3) (by rfl) [.int .i64 y.d, .int .i64 y.a, .slice D y.b.length cd] _ Hrp.out Tryz.underlying92 rfl (by kernel_rfl) ?_)
            | (go_at_call 46; refine CL.out.mono ?_; rintro e w5 ⟨rfl, rfl⟩))
          go_roundw
          case rel => exact ⟨j + 1, by omega, by go_num, by rw [Htn.out]; exact ho1.out, BB1.out⟩
          case measure => simp [intOf]; omega
        | true =>
          rw [hx] at CL
          have Hty := Lib.hid (Hty.out hx)
          clear Htn hx
          go_wp2_with (first
            | ((with_reducible refine (id ?_ : wpList _ _ _ (⟨some 22, _, _, _, _, _⟩ :: _) _ _)); refine wpList_load_mid rfl 92 _ (by rfl) g (j * 3) (by rfl) [.int .i64 y.d, .int .i64 y.a, .slice D y.b.length cd] _ Hrp.out Tryz.underlying92 rfl (by kernel_rfl) ?_)
            | (go_at_call 46; refine CL.out.mono ?_; rintro e w5 ⟨rfl, rfl⟩)
            | ((with_reducible refine (id ?_ : wpList _ _ _ (⟨some 31, _, _, _, _, _⟩ :: _) _ _)); refine wpList_append_P _ _ (by rfl) _ _ _ (by rfl) w.heap.size 92 Tryz.underlying41 infoI u8 _ (by rfl) ho2.out (some ⟨w5.heap.size, 0, none⟩) 1 1 _ (by rfl) (by rfl) (HSr.out _ rfl) (by show _ + 1 ≤ _; have := Hfl.out; omega) hzz.out ?_
               intro v4 w4 O4 g4 _))
          go_roundw
          case rel =>
            refine ⟨j + 1, by omega, by go_num, ?_, ?_⟩
            · rw [Hty.out]; exact O4
            · exact BB2.out.grown g4 BB2.out.size (fun k e => (Hlt.out k e).1)
          case measure => simp [intOf]; omega
      · obtain rfl : j = l.length := by omega
        rw [List.take_length] at ho
        obtain ⟨A2, c2, rfl, _, hm⟩ := ho.rd (F := BF b H N.n) Hoff.out (fun _ h => h)
        have CS := Lib.hid (CS.out wr hbr _ A2 c2 hm (its64_sub H64.out fun x hx => (List.mem_filter.1 hx).1))
        have Hbr := Lib.hid hbr
        clear ho hm hbr
        go_wp2_with fail
        refine CS.out.mono ?_
        rintro e w5 ⟨rfl, ht⟩
        have Ht := Lib.hid (BC.below Hbr.out ht)
        clear ht
        go_wp2
        go_ret
        exact ⟨by rw [HE.out]; rfl, by rw [HE.out]; exact Ht.out⟩
end Go.Proofs.YtenkkdnepmoihaaGreatDoor
end
section
set_option linter.unusedVariables false
set_option linter.unusedSimpArgs false
namespace Go.Proofs.YtenkkdnepmoihaaGreatDoor
open Go.RowKit

theorem rdb_cells {w : World} {B : Nat} {ad : Addr} {bs : List UInt8} (hr : RdB w B (some ad) bs) : ∀ j u, (bs.map bv)[j]? = some u → w.cell? (ad.add j) = some u := by
  intro j u hu
  simp only [List.getElem?_map, Option.map_eq_some_iff] at hu
  obtain ⟨b, hb1, rfl⟩ := hu
  obtain ⟨hj, rfl⟩ := List.getElem?_eq_some_iff.1 hb1
  obtain ⟨b2, off, h, _, hc⟩ := hr.2 (by omega)
  injection h with h
  subst h
  have e1 : ((⟨b2, off, none⟩ : Addr).add j) = ⟨b2, off + j, none⟩ := by unfold Addr.add; by_cases hk0 : j = 0 <;> simp [hk0]
  rw [e1, hc j hj]
  simp [bv, hj]
section
variable {P : Program} (w : World)
theorem run_append_F (t ty e : TypeId) (ht : P.underlying t = some (.slice e)) (hinfo : (P.info? e).map (fun i => (i.zero, i.size, i.bytes)) = some (some (.int .u8 0), 1, 1))
    (A0 : Option Addr) (n B0 : Nat) (xs : List UInt8) (hx : xs.length = n) (h0 : 0 < n) (hr0 : RdB w B0 A0 xs) (A : Option Addr) (m c B : Nat) (bs : List UInt8) (hm : m = bs.length) (hm0 : 0 < bs.length) (hr : RdB w B A bs) (hn : n + bs.length ≤ 1048576) :
    ∃ v' w', (Builtin.append_ #[t, t] ty #[.slice A0 n n, .slice A m c]).run P w = .ok v' w' ∧ OwB e w' w.heap.size v' (xs ++ bs) ∧ Below w.heap.size w w' := by
  subst hx hm
  obtain ⟨i, hi, hzz⟩ := Option.map_eq_some_iff.1 hinfo
  simp only [Prod.mk.injEq] at hzz
  obtain ⟨hz, hs, hb⟩ := hzz
  obtain ⟨b0, o0, rfl, _, _⟩ := hr0.2 h0
  obtain ⟨b1, o1, rfl, _, _⟩ := hr.2 hm0
  have hr2 := run_append_grow (P := P) w t ty e i _ ht hi hz ⟨b0, o0, none⟩ xs.length xs.length (xs.map bv) (by rw [hs]; simp) (rdb_cells hr0) ⟨b1, o1, none⟩ bs.length c (bs.map bv) (by rw [hs]; simp) (rdb_cells hr) (by omega) (by omega) (by
    have := growslice_fits (old := xs.length) (need := xs.length + bs.length) (bytes := i.bytes) (by omega) (by rw [hb]; omega)
    exact this)
  have hge := grownCap_ge w (xs.length + bs.length) xs.length e
  have hcm : grownCap w (xs.length + bs.length) xs.length e ≤ maxLen := grownCap_le_maxLen w (xs.length + bs.length) xs.length e (by unfold maxLen; omega)
  refine ⟨_, _, hr2, ⟨⟨by simp, .inr ⟨w.heap.size, _, _, by rw [List.length_append], Nat.le_refl _, heap_alloc_new w.drew _, by rw [List.length_append]; exact hge, hcm, ?_, ?_⟩⟩, by simp; omega⟩, ((Below.refl w.heap.size w).drew.trans (below1 w.drew _))⟩
  · simp only [Array.size_append, List.size_toArray, zeroCells_size, List.length_map]
    omega
  · simp only [Array.toList_append, List.map_append]
    rw [List.take_append_of_le_length (by simp), List.take_of_length_le (by simp)]
theorem wpList_append_F {ops : Array Oper} {rest : List Oper} {o : Oper} {a : Act} {Q : Exit → Act → World → Prop} (hw : Region.wanted o (yielded ops a.tmps) = true) (s x : Operand) (t : TypeId)
    (ho : o.op = .call { callee := .builtin .append, args := #[s, x], argTypes := #[t, t] })
    (e : TypeId) (ht : P.underlying t = some (.slice e)) (hinfo : (P.info? e).map (fun i => (i.zero, i.size, i.bytes)) = some (some (.int .u8 0), 1, 1))
    (A0 : Option Addr) (n B0 : Nat) (xs : List UInt8) (hs : a.eval s = .slice A0 n n) (hl : xs.length = n) (h0 : 0 < n) (hr0 : RdB w B0 A0 xs) (A : Option Addr) (m c B : Nat) (bs : List UInt8) (hx : a.eval x = .slice A m c) (hm : m = bs.length) (hm0 : 0 < bs.length) (hr : RdB w B A bs) (hn : n + bs.length ≤ 1048576)
    (h : ∀ v' w', OwB e w' w.heap.size v' (xs ++ bs) → Below w.heap.size w w' → wpList P ops Q rest (a.put o.dst v') w') : wpList P ops Q (o :: rest) a w := by
  refine BigFrame.wpList_want hw fun K hK => ?_
  obtain ⟨v', w', hrun, h2, h3⟩ := run_append_F (P := P) w t o.type e ht hinfo A0 n B0 xs hl h0 hr0 A m c B bs hm hm0 hr hn
  unfold Oper.wp execOp
  simp only [ho, resolve, invoke, builtin, Sem.run_bind, Sem.run_pure, Result.andThen_ok, List.map_toArray, List.map_cons, List.map_nil, hs, hx, hrun]
  exact hK _ _ (h v' w' h2 h3)
end
end Go.Proofs.YtenkkdnepmoihaaGreatDoor
end
section
set_option maxRecDepth 8000
set_option linter.unusedVariables false
set_option linter.unusedSimpArgs false
namespace Go.Proofs.YtenkkdnepmoihaaGreatDoor
open Go.RowKit

theorem own_lit {e : TypeId} {W : World} {C : Array Value} {n : Nat} (bs : List UInt8) (hC : C.toList = bs.map bv) (hn : bs.length = n) (h : n ≤ 100000) : OwB e (W.alloc (.cells C e)) W.heap.size (.slice (some ⟨W.heap.size, 0, none⟩) n n) bs := by
  subst hn
  have hs : C.size = bs.length := by rw [← Array.length_toList, hC, List.length_map]
  have hh := World.ownsRow_lit (base := W.heap.size) (e := e) (size := 1) W C bs.length (Nat.le_refl _) (by unfold maxLen; omega) (by omega)
  rw [hC] at hh
  exact ⟨hh, by omega⟩
theorem rd_lit {e : TypeId} {W : World} {C : Array Value} {g : Nat} (bs : List UInt8) (hg : g = W.heap.size) (hC : C.toList = bs.map bv) (h : bs.length ≤ 100000) : RdB (W.alloc (.cells C e)) (W.alloc (.cells C e)).heap.size (some ⟨g, 0, none⟩) bs := by
  subst hg
  exact (own_lit (e := e) bs hC rfl h).rdS.1
theorem byN_u8 {n : Int} (hn : 0 ≤ n) (k : Nat) (hk : k < 4) : n / 256 ^ k % 256 = ((byN n k).toNat : Int) := by
  obtain ⟨m, rfl⟩ := Int.eq_ofNat_of_zero_le hn
  match k, hk with
  | 0, _ => simp only [byN, UInt8.toNat_ofNat']; omega
  | 1, _ => simp only [byN, UInt8.toNat_ofNat']; omega
  | 2, _ => simp only [byN, UInt8.toNat_ofNat']; omega
  | 3, _ => simp only [byN, UInt8.toNat_ofNat']; omega
/-- What stays while head grows its bytes. -/
def HdS (w : World) (s : Int) (A : Option Addr) (n c : Nat) (v : Value) (bs : List UInt8) (V : World) : Prop :=
  OwB 5 V (w.heap.size + 1) v bs ∧ Below w.heap.size w V ∧ V.cell? ⟨w.heap.size, 0, none⟩ = some (.int .i64 s) ∧ V.cell? ⟨w.heap.size, 1, none⟩ = some (.slice A n c)
theorem HdS.alloc {w V : World} {s : Int} {A : Option Addr} {n c : Nat} {v : Value} {bs : List UInt8} (h : HdS w s A n c v bs V) (o : Obj) : HdS w s A n c v bs (V.alloc o) := by
  obtain ⟨h0, h1, h2, h3⟩ := h
  have k := fun (a : Addr) (u : Value) (e : V.cell? a = some u) => (World.cell?_alloc_lt V o a (World.block_lt_of_cell? _ _ e)).trans e
  exact ⟨h0.below (below1 V o), h1.alloc h1.size o, k _ _ h2, k _ _ h3⟩
theorem HdS.grow {w V V' : World} {s : Int} {A : Option Addr} {n c : Nat} {v v' : Value} {bs bs' : List UInt8} (h : HdS w s A n c v bs V) (ho : OwB 5 V' (w.heap.size + 1) v' bs') (hg : V.grownBy V' v.ownBlock) : HdS w s A n c v' bs' V' := by
  obtain ⟨h0, h1, h2, h3⟩ := h
  have hne : ∀ j, v.ownBlock = some j → w.heap.size + 1 ≤ j := fun j hj => (h0.lt j hj).1
  have k := fun (i : Nat) (u : Value) (e : V.cell? ⟨w.heap.size, i, none⟩ = some u) => (World.cell?_of_block (a := ⟨w.heap.size, i, none⟩) (hg.block w.heap.size (World.block_lt_of_cell? _ _ e) (fun e' => by have := hne _ e'.symm; omega))).trans e
  exact ⟨ho, h1.grown hg h1.size (fun j hj => by have := hne j hj; omega), k _ _ h2, k _ _ h3⟩
theorem hd_box (w : World) (s : Int) (A : Option Addr) (n c : Nat) (C C2 : Array Value) (f : Nat × Nat) (bs : List UInt8) (hC : C.toList = bs.map bv) (h : bs.length ≤ 100000) :
    ∃ W, W = ((w.alloc (.cells #[.int .i64 s, .slice A n c] 43)).alloc (.cells C 5 f)).alloc (.cells C2 5) ∧ RdB W W.heap.size (some ⟨w.heap.size + 1, 0, none⟩) bs ∧ HdS w s A n c (.slice none 0 0) [] W := by
  refine ⟨_, rfl, ?_, ?_⟩
  · refine rdb_lit (cs := C) (t := 5) (f := f) ?_ (by omega) hC
    rw [heap_alloc_old _ _ (by simp)]
    exact hp_new _ _ _ (by simp)
  · have S0 : HdS w s A n c (.slice none 0 0) [] (w.alloc (.cells #[.int .i64 s, .slice A n c] 43)) := by
      have c' := fun i => cell_of_row _ _ i _ _ _ (heap_alloc_new w (.cells #[.int .i64 s, .slice A n c] 43))
      exact ⟨OwB.nil _ _ _, below1 _ _, c' 0, c' 1⟩
    exact (S0.alloc _).alloc _
theorem hdB_take (s : Int) (l : List It) : hdB s l = [87, 82, 69, 67] ++ [byN s 3, byN s 2, byN s 1, byN s 0] ++ [UInt8.ofNat l.length] ++ plcB l := rfl
theorem plcB_take {l : List It} {j : Nat} (hj : j < l.length) : plcB (l.take (j + 1)) = plcB (l.take j) ++ [byN (itN l j).d 0, byN (itN l j).a 0] := by
  rw [its_take hj, plcB_snoc]
set_option maxHeartbeats 2000000 in
theorem head_any (A : Option Addr) (n c : Nat) (s : Int) (l : List It) (w : World) (hn : l.length = n) (hnc : n ≤ c) (h : RdI w w.heap.size A l) (hk : recOk s l = true) :
    Calls Tryz.prog 92 #[.agg #[.int .i64 s, .slice A n c]] w fun e w' => ∃ v, e = .returned v ∧ OwB 5 w' w.heap.size v (hdB s l) ∧ Below w.heap.size w w' := by
  subst hn
  have H := Lib.hid h
  obtain ⟨⟨hs1, hs2, hs3⟩, _⟩ := (recOk_iff s l).1 hk
  have HK := Lib.hid (fun (j : Nat) (hj : j < l.length) => recOk_may hk _ (itN_mem hj))
  clear h hk
  have HH := Lib.hid (hdB_take s l)
  have HT := Lib.hid (fun (j : Nat) (hj : j < l.length) => plcB_take hj)
  have e3 : s / 16777216 = ((byN s 3).toNat : Int) := by have := byN_u8 (n := s) (by omega) 3 (by omega); omega
  have e2 : s / 65536 % 256 = ((byN s 2).toNat : Int) := byN_u8 (by omega) 2 (by omega)
  have e1 : s / 256 % 256 = ((byN s 1).toNat : Int) := byN_u8 (by omega) 1 (by omega)
  have e0 : s % 256 = ((byN s 0).toNat : Int) := by have := byN_u8 (n := s) (by omega) 0 (by omega); omega
  generalize byN s 3 = b3 at e3 HH
  generalize byN s 2 = b2 at e2 HH
  generalize byN s 1 = b1 at e1 HH
  generalize byN s 0 = b0 at e0 HH
  have el : (l.length : Int) = ((UInt8.ofNat l.length).toNat : Int) := by rw [UInt8.toNat_ofNat']; omega
  generalize UInt8.ofNat l.length = bl at el HH
  have El := Lib.hid el
  clear el
  have hcv := conv_const (w.alloc (.cells #[.int .i64 s, .slice A l.length c] 43)) (w.heap.size + 1) #[.int .u8 87, .int .u8 82, .int .u8 69, .int .u8 67] 4 4 (by simp)
  obtain ⟨W, hW, hrd, hs0⟩ := hd_box w s A l.length c #[.int .u8 87, .int .u8 82, .int .u8 69, .int .u8 67] #[.int .u8 (b3.toNat : Int), .int .u8 (b2.toNat : Int), .int .u8 (b1.toNat : Int), .int .u8 (b0.toNat : Int)] (4, 5) [87, 82, 69, 67] rfl (by simp)
  have hrd2 : RdB W W.heap.size (some ⟨w.heap.size + 2, 0, none⟩) [b3, b2, b1, b0] := by subst hW; exact rd_lit _ (by simp) rfl (by simp)
  have HW := Lib.hid hW
  have HR := Lib.hid hrd
  have HR2 := Lib.hid hrd2
  have S0 := Lib.hid hs0
  clear hW hrd hrd2 hs0
  go_enter Tryz.func92, Tryz.ntmps92
  go_wp2_with (first
    | ((with_reducible refine (id ?_ : wpList _ _ _ (⟨some 25, _, _, _, _, _⟩ :: _) _ _)); rw [← show W = _ from HW.out]; refine wpList_append_F _ rfl _ _ _ rfl 5 Tryz.underlying35 info_u8 (some ⟨w.heap.size + 1, 0, none⟩) 4 _ _ rfl rfl (by omega) HR.out (some ⟨w.heap.size + 2, 0, none⟩) 4 4 _ [b3, b2, b1, b0] rfl rfl (by simp) HR2.out (by simp) ?_
       intro v1 w1 O1 hb1
       have H1 := Lib.hid (show HdS w s A l.length c v1 ([87, 82, 69, 67] ++ [b3, b2, b1, b0]) w1 from (S0.out.grow (v' := v1) (O1.le (by have := S0.out.2.1.size; have := World.block_lt_of_cell? _ _ S0.out.2.2.1; exact this)) (grown_none hb1)))
       clear hcv HW HR HR2 S0 O1 hb1 e3 e2 e1 e0
       obtain ⟨C1, F1, q0, q1⟩ := H1.out
       have hz1 := World.block_lt_of_cell? _ _ q0
       have hz2 : w.heap.size + 1 ≤ w1.heap.size := hz1
       clear C1)
    | ((with_reducible refine (id ?_ : wpList _ _ _ (⟨some 32, _, _, _, _, _⟩ :: _) _ _)); refine wpList_append_B _ rfl _ _ _ rfl (w.heap.size + 1) 5 Tryz.underlying35 info_u8 _ _ rfl (H1.out.alloc _).1 _ (some ⟨w1.heap.size, 0, none⟩) 1 1 [bl] rfl rfl (rd_lit _ rfl (by simp [bv, El.out]) (by simp)) (by simp) (by simp; omega) ?_
       intro v2 w2 O2 g2 _
       have H2 := Lib.hid ((H1.out.alloc _).grow O2 g2)
       clear O2 g2 q0 q1 hz1 hz2 F1 H1
       obtain ⟨C1, F1, q0, q1⟩ := H2.out
       have hz1 := World.block_lt_of_cell? _ _ q0
       have hz2 : w.heap.size + 1 ≤ w2.heap.size := hz1
       clear C1))
  go_loopw [3, 36] (fun v i wr => ∃ j : Nat, j ≤ l.length ∧ i = .int .i64 j ∧ HdS w s A l.length c v ([87, 82, 69, 67] ++ [b3, b2, b1, b0] ++ [bl] ++ plcB (l.take j)) wr) (fun _ i _ => l.length - (intOf i).toNat)
  case atStart => exact ⟨0, Nat.zero_le _, rfl, by rw [List.take_zero, show plcB [] = [] from rfl, List.append_nil]; exact H2.out⟩
  case round =>
    obtain ⟨j, hj, rfl, hst⟩ := hrel
    have Hst := Lib.hid hst
    obtain ⟨C3, F3, q0', q1'⟩ := hst
    have hz3 := World.block_lt_of_cell? _ _ q0'
    have hz4 : w.heap.size + 1 ≤ wr.heap.size := hz3
    clear C3 H2 q0 q1 hz1 hz2 F1
    by_cases hlt : j < l.length
    · obtain ⟨g, rfl, hg, hc⟩ := (H.out.below F3 (Nat.le_refl _)).2 (by omega)
      obtain ⟨D', c', hrp, _⟩ := hc j hlt
      clear hc
      have hk := HK.out j hlt
      have Ht := Lib.hid (HT.out j hlt)
      generalize itN l j = y at hrp hk Ht
      obtain ⟨d, a, b⟩ := y
      dsimp only at hrp hk Ht
      have ed : d = ((byN d 0).toNat : Int) := by have := byX_one (n := d) (by omega); omega
      have ea : a = ((byN a 0).toNat : Int) := by have := byX_one (n := a) (by omega); omega
      generalize byN d 0 = ub at ed Ht
      generalize byN a 0 = uc at ea Ht
      subst ed ea
      have Hrp := Lib.hid hrp
      have mu : (ub.toNat : Int) % 256 = (ub.toNat : Int) := by have : ub.toNat < 256 := ub.toNat_lt; omega
      have mc : (uc.toNat : Int) % 256 = (uc.toNat : Int) := by have : uc.toNat < 256 := uc.toNat_lt; omega
      have HA := Lib.hid (Hst.out.alloc (.cells #[.int .i64 (ub.toNat : Int), .int .i64 (uc.toNat : Int), .slice D' b.length c'] 92))
      have HA2 := Lib.hid (HA.out.alloc (.cells #[.int .u8 (ub.toNat : Int), .int .u8 (uc.toNat : Int)] 5))
      have k0 : (0 : Int) ≤ (j : Int) := by omega
      have k1 : (j : Int) < (l.length : Int) := by omega
      have hpl : (plcB (l.take j)).length ≤ 6 := by rw [plcB_len]; simp; omega
      clear hrp hk HA
      go_wp2_with (first
        | ((with_reducible refine (id ?_ : wpList _ _ _ (⟨some 39, _, _, _, _, _⟩ :: _) _ _)); refine wpList_load_mid rfl 92 _ (by rfl) g (j * 3) (by rfl) [.int .i64 (ub.toNat : Int), .int .i64 (uc.toNat : Int), .slice D' b.length c'] _ Hrp.out Tryz.underlying92 rfl (by kernel_rfl) ?_)
        | ((with_reducible refine (id ?_ : wpList _ _ _ (⟨some 48, _, _, _, _, _⟩ :: _) _ _)); refine wpList_append_B _ rfl _ _ _ rfl (w.heap.size + 1) 5 Tryz.underlying35 info_u8 _ _ rfl HA2.out.1 _ (some ⟨wr.heap.size + 1, 0, none⟩) 2 2 [ub, uc] rfl rfl (rd_lit _ (by simp) rfl (by simp)) (by simp; omega) (by simp; omega) ?_
           intro v4 w4 O4 g4 _
           have H4 := Lib.hid (HA2.out.grow O4 g4)
           clear O4 g4))
      go_roundw
      case rel => exact ⟨j + 1, by omega, by go_num, by rw [Ht.out, ← List.append_assoc]; exact H4.out⟩
      case measure => simp [intOf]; omega
    · obtain rfl : j = l.length := by omega
      go_wp2
      go_ret
      exact ⟨_, rfl, by rw [HH.out]; have := Hst.out.1.le (Nat.le_succ _); rwa [List.take_length] at this, F3⟩
end Go.Proofs.YtenkkdnepmoihaaGreatDoor
end
section
set_option maxRecDepth 8000
set_option linter.unusedVariables false
set_option linter.unusedSimpArgs false
namespace Go.Proofs.YtenkkdnepmoihaaGreatDoor
open Go.RowKit

theorem info_rw : (Tryz.prog.info? 35).map (fun i => (i.zero, i.size, i.bytes)) = some (some (.slice none 0 0), 1, 24) := by kernel_rfl
theorem make_four (w : World) :
    (Instr.makeSlice 32 (.int .i64 4) (.int .i64 4)).run Tryz.prog w = .ok (.slice (some ⟨w.heap.size, 0, none⟩) 4 4) (w.alloc (.cells (madeCells #[.slice none 0 0] 4) 35)) :=
  run_make_row' _ _ _ 24 Tryz.underlying32 info_rw rfl _ _ 4 (by omega) (by omega) w
/-- What a place of the row holds: a sector's slice, or nothing yet. -/
def slv (bk : Nat → Nat) (n k : Nat) : Value := if k < n then .slice (some ⟨bk k, 0, none⟩) 32 32 else .slice none 0 0
theorem slv_yes {bk : Nat → Nat} {n k : Nat} (h : k < n) : slv bk n k = .slice (some ⟨bk k, 0, none⟩) 32 32 := if_pos h
theorem slv_no {bk : Nat → Nat} {n k : Nat} (h : ¬ k < n) : slv bk n k = .slice none 0 0 := if_neg h
structure P4 (lo : Nat) (W : World) (g : Nat) (bk : Nat → Nat) (rs : List (List UInt8)) : Prop where
  n : rs.length ≤ 4
  gl : lo ≤ g
  row : ∀ k, k < 4 → W.cell? ⟨g, k, none⟩ = some (slv bk rs.length k)
  fz : ∀ k, W.frozen? ⟨g, k, none⟩ = false
  len : ∀ k, k < rs.length → (rs.getD k []).length = 32
  own : ∀ k, k < rs.length → OwB 5 W lo (.slice (some ⟨bk k, 0, none⟩) 32 32) (rs.getD k [])
  ne : ∀ k, k < rs.length → bk k ≠ g
  inj : ∀ j k, j < rs.length → k < rs.length → bk j = bk k → j = k
section
variable {lo : Nat} {W W' : World} {g : Nat} {bk : Nat → Nat} {rs : List (List UInt8)}
theorem P4.lt (h : P4 lo W g bk rs) : g < W.heap.size := World.block_lt_of_cell? _ _ (h.row 0 (by omega))
theorem P4.blt (h : P4 lo W g bk rs) (k : Nat) (hk : k < rs.length) : lo ≤ bk k ∧ bk k < W.heap.size := (h.own k hk).lt _ rfl
theorem P4.le {lo' : Nat} (h : P4 lo W g bk rs) (hl : lo' ≤ lo) : P4 lo' W g bk rs :=
  ⟨h.n, Nat.le_trans hl h.gl, h.row, h.fz, h.len, fun k hk => (h.own k hk).le hl, h.ne, h.inj⟩
/-- It stays, where another row is written, or new memory made. -/
theorem P4.grown {row : Option Nat} (h : P4 lo W g bk rs) (hg : W.grownBy W' row) (h1 : row ≠ some g) (h2 : ∀ k, k < rs.length → row ≠ some (bk k)) : P4 lo W' g bk rs :=
  ⟨h.n, h.gl, fun k hk => (hg.cell_far ⟨g, k, none⟩ h.lt (fun e => h1 e.symm)).trans (h.row k hk), fun k => (hg.frozen_far ⟨g, k, none⟩ h.lt (fun e => h1 e.symm)).trans (h.fz k), h.len,
    fun k hk => (h.own k hk).grown hg (.inr fun e => h2 k hk e.symm), h.ne, h.inj⟩
theorem P4.below (h : P4 lo W g bk rs) (hb : Below W.heap.size W W') : P4 lo W' g bk rs := h.grown (grown_none hb) (by simp) (by simp)
/-- One sector written. -/
theorem P4.set (h : P4 lo W g bk rs) (k : Nat) (hk : k < rs.length) {b : List UInt8} (ho : OwB 5 W' lo (.slice (some ⟨bk k, 0, none⟩) 32 32) b) (hb : b.length = 32) (hg : W.grownBy W' (some (bk k))) : P4 lo W' g bk (rs.set k b) := by
  have hgt : ∀ j, j < rs.length → (rs.set k b).getD j [] = if k = j then b else rs.getD j [] := fun j hj => by
    simp only [List.getD_eq_getElem?_getD, List.getElem?_set]
    split
    · subst_vars; simp [hk]
    · rfl
  refine ⟨by simpa using h.n, h.gl, fun j hj => ?_, fun j => (hg.frozen_far ⟨g, j, none⟩ h.lt (fun e => h.ne k hk (by injection e with e; exact e.symm))).trans (h.fz j), fun j hj => ?_, fun j hj => ?_, fun j hj => h.ne j (by simpa using hj), fun i j hi hj => h.inj i j (by simpa using hi) (by simpa using hj)⟩
  · rw [List.length_set]
    exact (hg.cell_far ⟨g, j, none⟩ h.lt (fun e => h.ne k hk (by injection e with e; exact e.symm))).trans (h.row j hj)
  · rw [List.length_set] at hj
    rw [hgt j hj]
    split
    · exact hb
    · exact h.len j hj
  · rw [List.length_set] at hj
    rw [hgt j hj]
    split
    · subst_vars; exact ho
    · next hne => exact (h.own j hj).grown hg (.inr fun e => hne (by
        have e2 : bk j = bk k := by injection e
        exact (h.inj j k hj hk e2).symm))
theorem P4.rd (h : P4 lo W g bk rs) (k : Nat) (hk : k < rs.length) : RdB W W.heap.size (some ⟨bk k, 0, none⟩) (rs.getD k []) := (h.own k hk).rdS.1
theorem P4.rdr1 (h : P4 lo W g bk rs) : RdR W W.heap.size (some ⟨g, 1, none⟩) (rs.drop 1) :=
  ⟨by have := h.n; simp; omega, fun _ => ⟨g, 1, rfl, h.lt, fun k hk => by
    have := h.n
    have hk' : 1 + k < rs.length := by simp at hk; omega
    have hc := h.row (1 + k) (by omega)
    rw [slv_yes hk'] at hc
    have e : (rs.drop 1).getD k [] = rs.getD (1 + k) [] := by simp [List.getD_eq_getElem?_getD, Nat.add_comm]
    rw [e]
    exact ⟨_, 32, by rw [h.len _ hk']; exact hc, h.rd _ hk'⟩⟩⟩
/-- A row with no sector yet. -/
theorem p4_new (W : World) : P4 W.heap.size (W.alloc (.cells (madeCells #[.slice none 0 0] 4) 35)) W.heap.size bk [] :=
  ⟨by simp, Nat.le_refl _, fun k hk => by
    rw [cell_of_row _ _ k _ _ _ (heap_alloc_new W _), ← Array.getElem?_toList, toList_madeCells_one, List.getElem?_replicate, if_pos hk]
    rfl, fun k => World.frozen?_alloc_new _ _ _ _, fun k hk => by simp at hk, fun k hk => by simp at hk, fun k hk => by simp at hk, fun j k hj => by simp at hj⟩
/-- The next sector: of zeros. -/
theorem P4.push (h : P4 lo W g bk rs) (hl : lo ≤ W.heap.size) (k : Nat) (hk : rs.length = k) (hk4 : k < 4) :
    P4 lo ((W.alloc (.cells (zcells 32) 5)).setCell ⟨g, k, none⟩ (.slice (some ⟨W.heap.size, 0, none⟩) 32 32)) g (fun j => if j = k then W.heap.size else bk j) (rs ++ [List.replicate 32 0]) := by
  subst hk
  have hlt := h.lt
  have h1 := h.below (below1 W (.cells (zcells 32) 5))
  have ho := (own_make 5 W 32 (by omega)).le hl
  generalize hV : W.alloc (.cells (zcells 32) 5) = V at h1 ho
  have hgr : V.grownBy (V.setCell ⟨g, rs.length, none⟩ (.slice (some ⟨W.heap.size, 0, none⟩) 32 32)) (some g) := ⟨rfl, rfl, rfl, by simp, fun k _ hne => Below.heap_setCell V _ _ k (fun e => hne (by rw [e]))⟩
  have hgl : ∀ j, j < rs.length → (rs ++ [List.replicate 32 (0 : UInt8)]).getD j [] = rs.getD j [] := fun j hj => by
    simp [List.getD_eq_getElem?_getD, List.getElem?_append_left hj]
  have hge : (rs ++ [List.replicate 32 (0 : UInt8)]).getD rs.length [] = List.replicate 32 0 := by simp [List.getD_eq_getElem?_getD]
  refine ⟨by simp; omega, h.gl, fun j hj => ?_, fun j => ?_, fun j hj => ?_, fun j hj => ?_, fun j hj => ?_, fun i j hi hj => ?_⟩
  · by_cases e : j = rs.length
    · subst e
      rw [World.cell?_setCell_same _ _ _ (h1.row _ hj), slv_yes (by simp)]
      simp
    · rw [World.cell?_setCell_other _ _ _ _ (by intro q; injection q with _ q; exact e q.symm), h1.row j hj]
      congr 1
      unfold slv
      by_cases e2 : j < rs.length
      · rw [if_pos e2, if_pos (by simp; omega)]; dsimp only; rw [if_neg e]
      · rw [if_neg e2, if_neg (by simp; omega)]
  · rw [World.frozen?_setCell]; exact h1.fz j
  · by_cases e : j = rs.length
    · subst e; rw [hge]; simp
    · have hj' : j < rs.length := by simp at hj; omega
      rw [hgl j hj']; exact h.len j hj'
  · by_cases e : j = rs.length
    · subst e
      rw [hge, if_pos rfl]
      exact ho.grown hgr (.inr fun e => by have : W.heap.size = g := by injection e
                                           omega)
    · have hj' : j < rs.length := by simp at hj; omega
      rw [hgl j hj', if_neg e]
      exact (h1.own j hj').grown hgr (.inr fun e => h.ne j hj' (by injection e))
  · by_cases e : j = rs.length
    · rw [if_pos e]; omega
    · have hj' : j < rs.length := by simp at hj; omega
      rw [if_neg e]; exact h.ne j hj'
  · intro e
    by_cases ei : i = rs.length
    · by_cases ej : j = rs.length
      · omega
      · have hj' : j < rs.length := by simp at hj; omega
        rw [if_pos ei, if_neg ej] at e
        have := (h.blt j hj').2
        omega
    · have hi' : i < rs.length := by simp at hi; omega
      by_cases ej : j = rs.length
      · rw [if_neg ei, if_pos ej] at e
        have := (h.blt i hi').2
        omega
      · have hj' : j < rs.length := by simp at hj; omega
        rw [if_neg ei, if_neg ej] at e
        exact h.inj i j hi' hj' e
end
end Go.Proofs.YtenkkdnepmoihaaGreatDoor
end
section
namespace Go.Proofs.YtenkkdnepmoihaaGreatDoor
open Go.RowKit

theorem stampByte_any (x k : Nat) (hx : x < 4294967296) (hk : k < 4) (w : World) :
    Calls Tryz.prog 124 #[.int .u32 (x : Int), .int .i64 (k : Int)] w fun e w' => e = .returned (.int .u8 ((beB x k).toNat : Int)) ∧ w' = w := by
  match k, hk with
  | 0, _ =>
    go_enter Tryz.func124, Tryz.ntmps124
    go_wp2
    go_ret
    exact ⟨congrArg (fun z => Ending.returned (.int .u8 z)) (by simp only [beB, UInt8.toNat_ofNat']; omega), rfl⟩
  | 1, _ =>
    go_enter Tryz.func124, Tryz.ntmps124
    go_wp2
    go_ret
    exact ⟨congrArg (fun z => Ending.returned (.int .u8 z)) (by simp only [beB, UInt8.toNat_ofNat']; omega), rfl⟩
  | 2, _ =>
    go_enter Tryz.func124, Tryz.ntmps124
    go_wp2
    go_ret
    exact ⟨congrArg (fun z => Ending.returned (.int .u8 z)) (by simp only [beB, UInt8.toNat_ofNat']; omega), rfl⟩
  | 3, _ =>
    go_enter Tryz.func124, Tryz.ntmps124
    go_wp2
    go_ret
    exact ⟨congrArg (fun z => Ending.returned (.int .u8 z)) (by simp only [beB, UInt8.toNat_ofNat']; omega), rfl⟩
theorem stampOf_any (A Ap : Option Addr) (c cp : Nat) (bs : List UInt8) (rs : List (List UInt8)) (n : Nat) (w : World) (hn : rs.length = n) (hbs : bs.length = 32) (hc : 32 ≤ c) (hr : RdB w w.heap.size A bs) (hp : RdR w w.heap.size Ap rs) (ht : TabOk w) :
    Calls Tryz.prog 123 #[.slice A 32 c, .slice Ap n cp] w fun e w' => e = .returned (.int .u32 ((sumR (bs.take 28 :: rs) : Nat) : Int)) ∧ Below w.heap.size w w' := by
  subst hn
  have hpos := ht.pos
  have hl1 := feedR_lt (x := 4294967295) [bs.take 28] (by decide)
  have hl2 := feedR_lt rs hl1
  have C1 : Hid (∀ W, W.heap[w.heap.size]? = some (.cells #[.slice A 28 c] 35) → Below w.heap.size w W → Calls Tryz.prog 141 #[.int .u32 4294967295, .slice (some ⟨w.heap.size, 0, none⟩) 1 1] W
      fun e w' => e = .returned (.int .u32 ((feedR 4294967295 [bs.take 28] : Nat) : Int)) ∧ w' = W) :=
    Lib.hid fun W hg hb => feed_any _ [bs.take 28] 1 4294967295 (by decide) W (rdr_cells hg (by have := (Array.getElem?_eq_some_iff.1 hg).1; omega) (by simp) fun k hk => by
      obtain rfl : k = 0 := by simp at hk; omega
      exact ⟨A, c, by simp [hbs], ((hr.below hb (Nat.le_refl _)).more hb.size).take 28⟩) (ht.below hb hpos)
  have C2 : Hid (∀ W, Below w.heap.size w W → Calls Tryz.prog 141 #[.int .u32 ((feedR 4294967295 [bs.take 28] : Nat) : Int), .slice Ap rs.length cp] W
      fun e w' => e = .returned (.int .u32 ((feedR (feedR 4294967295 [bs.take 28]) rs : Nat) : Int)) ∧ w' = W) :=
    Lib.hid fun W hb => feed_any Ap rs cp _ hl1 W ((hp.below hb (Nat.le_refl _)).more hb.size) (ht.below hb hpos)
  have e0 : bits .xor .u32 ((feedR (feedR 4294967295 [bs.take 28]) rs : Nat) : Int) 4294967295 = ((sumR (bs.take 28 :: rs) : Nat) : Int) := u32_xor_nat _ 4294967295 hl2 (by decide)
  generalize sumR (bs.take 28 :: rs) = z at e0
  generalize feedR (feedR 4294967295 [bs.take 28]) rs = y2 at C2 e0
  generalize feedR 4294967295 [bs.take 28] = y1 at C1 C2
  have i0 : (28 : Int) ≤ (c : Int) := by omega
  go_enter Tryz.func123, Tryz.ntmps123
  go_wp2_with (first
    | (go_at_call_of 141 (Value.slice (some ⟨w.heap.size, 0, none⟩) 1 1); refine (C1.out _ (hp_new _ _ _ rfl) (below1 _ _)).mono ?_; rintro e w' ⟨rfl, rfl⟩)
    | (go_at_call 141; refine (C2.out _ (below1 _ _)).mono ?_; rintro e w' ⟨rfl, rfl⟩))
  go_ret
  exact ⟨rfl, below1 _ _⟩
set_option maxHeartbeats 400000 in
theorem stamp_any (g cap B : Nat) (Ap : Option Addr) (cp : Nat) (bs : List UInt8) (rs : List (List UInt8)) (n : Nat) (w : World) (hn : rs.length = n) (h : OwB 5 w B (.slice (some ⟨g, 0, none⟩) 32 cap) bs) (hbs : bs.length = 32)
    (hp : RdR w w.heap.size Ap rs) (ht : TabOk w) :
    Calls Tryz.prog 93 #[.slice (some ⟨g, 0, none⟩) 32 cap, .slice Ap n cp] w fun e w' => e = .returned (.bool true) ∧ OwB 5 w' B (.slice (some ⟨g, 0, none⟩) 32 cap) (stamped bs rs) ∧ w.grownBy w' (some g) := by
  obtain ⟨A', cap', hv, hcap, hrd⟩ := h.rd
  injection hv with hA hbl hcc
  clear hbl
  subst hA hcc
  have C1 := Lib.hid (stampOf_any (some ⟨g, 0, none⟩) Ap cap cp bs rs n w hn hbs (by omega) hrd hp ht)
  have hx := sumR_lt (bs.take 28 :: rs)
  have Hf := Lib.hid (stampK_four bs (sumR (bs.take 28 :: rs)) hbs)
  rw [show bs.take 28 ++ be4 (sumR (bs.take 28 :: rs)) = stamped bs rs from rfl] at Hf
  generalize sumR (bs.take 28 :: rs) = x at C1 hx Hf
  have hg : g < w.heap.size := (h.lt g rfl).2
  have hc0 : (28 : Int) ≤ (cap : Int) := by omega
  have hc1 : 32 ≤ cap := by omega
  clear hrd
  go_enter Tryz.func93, Tryz.ntmps93
  go_wp2_with (go_at_call 123; refine C1.out.mono ?_; rintro e w1 ⟨rfl, hb1⟩)
  go_loopw [16] (fun i wr => ∃ k : Nat, k ≤ 4 ∧ i = .int .i64 k ∧ OwB 5 wr B (.slice (some ⟨g, 0, none⟩) 32 cap) (stampK bs x k) ∧ w.grownBy wr (some g)) (fun i _ => 4 - (intOf i).toNat)
  case atStart => exact ⟨0, by omega, rfl, h.below hb1, grown_of_below hb1 _⟩
  case round =>
    obtain ⟨k, hk, rfl, hown, hgr⟩ := hrel
    by_cases hlt : k < 4
    · obtain ⟨hc, hf⟩ := hown.cell ((stampK_len bs x k).trans hbs) (28 + k) (by omega)
      have Hset := Lib.hid (hown.set ((stampK_len bs x k).trans hbs) (28 + k) (beB x k))
      rw [← stampK_succ] at Hset
      go_wp2_with (go_at_call 124; refine (stampByte_any x k hx hlt _).mono ?_; rintro e w' ⟨rfl, rfl⟩)
      go_roundw
      case rel => exact ⟨k + 1, by omega, by go_num, Hset.out.1, hgr.trans Hset.out.2⟩
      case measure => simp [intOf]; omega
    · obtain rfl : k = 4 := by omega
      rw [Hf.out] at hown
      go_wp2
      go_ret
      exact ⟨rfl, hown, hgr⟩
end Go.Proofs.YtenkkdnepmoihaaGreatDoor
end
