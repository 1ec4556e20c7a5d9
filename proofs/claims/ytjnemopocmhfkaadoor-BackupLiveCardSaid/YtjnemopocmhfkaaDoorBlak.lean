/- Texts put together: DskWrite, DskRow. -/
import Derived.Test.YtjnemopocmhfkaaDoorBlaj
import Derived.Deep.DrawnRows
import Derived.Test.YtjnemopocmhfkaaDoorBlad
section
set_option maxRecDepth 8000
namespace Go.Proofs.YtjnemopocmhfkaaDoor
open Go.RowKit

theorem size_pw : (Tryd.prog.info? 92).map (fun i => (i.zero, i.size, i.bytes)) = some (some (.agg (Value.int .i64 0 :: List.replicate 32 (Value.int .u8 0)).toArray), 33, 40) := by kernel_rfl
theorem dsk_write_end {w0 w1 w2 w3 w4 : World} {B b : Nat} {pv : Value} {D : Dsk} {k : Nat} {x : List UInt8} {o : Obj} {g cap : Nat} (h0 : DskAt w0 B b pv D) (hk : k < 52) (hx : x.length = 32) (hB1 : Below w0.heap.size w0 w1) (hg2 : w1.grownBy w2 (some b))
    (hg3 : (w2.drew.alloc o).grownBy w3 pv.ownBlock) (hat : pv.ownBlock = some g ∨ g = w2.heap.size + 1)
    (hown3 : w3.ownsRow B 92 33 (.slice (some ⟨g, 0, none⟩) (D.ps.length + 1) cap) (D.ps.length + 1) (wcells D.ps ++ wcell (k, x)))
    (hb4 : w4.heap[b]? = some (.cells (dcells D.S (putAt D.now k x) (.slice (some ⟨g, 0, none⟩) (D.ps.length + 1) cap) D.f).toArray 78 (0, 0))) (hg4 : w3.grownBy w4 (some b)) :
    DskAt w4 B b (.slice (some ⟨g, 0, none⟩) (D.ps.length + 1) cap) (D.write k x) ∧ Chg (DF b pv) w0 w4 ∧ NewOr w0 pv (.slice (some ⟨g, 0, none⟩) (D.ps.length + 1) cap) := by
  have hblt := h0.lt
  have hs1 := hB1.size
  have hs2 := hg2.size
  have hgb : g ≠ b := by
    rcases hat with h | h
    · intro e; subst e; exact h0.ne h
    · omega
  generalize hpv : Value.slice (some ⟨g, 0, none⟩) (D.ps.length + 1) cap = pv' at hown3 hb4 ⊢
  have hob : pv'.ownBlock = some g := by rw [← hpv]; rfl
  refine ⟨⟨?_, ?_, h0.le, ?_, h0.ok.write hk hx⟩, ?_, ?_⟩
  · rw [Dsk.write_now]; exact hb4
  · have : (D.write k x).ps.length = D.ps.length + 1 := by simp [Dsk.write]
    rw [this, show wcells (D.write k x).ps = wcells D.ps ++ wcell (k, x) from wcells_snoc _ _]
    exact own_heap hown3 fun j hj => by
      rw [hob] at hj; injection hj with hj; subst hj
      exact hg4.block _ (hown3.lt _ hob).2 (by intro e; injection e with e; exact hgb e)
  · rw [hob]; intro e; injection e with e; exact hgb e
  · have c1 : Chg (DF b pv) w0 w2 := (chg_below _ hB1).trans (chg_grown hg2) fun i _ e => .inl (by injection e with e; exact e.symm)
    have c2 : Chg (DF b pv) w0 w3 := ((c1.drewN 1).alloc o).trans (chg_grown hg3) fun i _ e => .inr e
    exact c2.trans (chg_grown hg4) fun i _ e => .inl (by injection e with e; exact e.symm)
  · intro j hj
    rw [hob] at hj; injection hj with hj; subst hj
    rcases hat with h | h
    · exact .inl h
    · exact .inr (by omega)
section
attribute [local go_sem ↓] wp_build_write exec_build_write wp_built_slice
set_option maxHeartbeats 800000 in
theorem dsk_write_ok (B b : Nat) (pv : Value) (D : Dsk) (k : Nat) (x : List UInt8) (A : Option Addr) (c : Nat) (w : World) (h : DskAt w B b pv D) (hf : D.f = false) (hk : k < 52) (hx : x.length = 32) (hr : RdB w w.heap.size A x) (hps : D.ps.length ≤ 2000000) :
    Calls Tryd.prog 54 #[.pointer (some ⟨b, 0, none⟩), .int .i64 (k : Int), .slice A 32 c] w fun e w' => ∃ pv', e = .returned (.int .i64 0) ∧ DskAt w' B b pv' (D.write k x) ∧ Chg (DF b pv) w w' ∧ NewOr w pv pv' := by
  have C := Lib.hid (dsk_take_any B b pv D w h (k : Int) A 32 c (by omega) (by omega))
  have hE : takeE D.f (k : Int) 32 = 0 := by
    have : reachE D.f (k : Int) = 0 := by unfold reachE; rw [hf, if_neg (by simp), if_neg (by omega)]
    unfold takeE; rw [this]; rfl
  rw [hE] at C
  obtain ⟨g, off, rfl, hg, hcells⟩ := hr.2 (by omega)
  have hra : w.rangeAt g off (x.map bv) := fun j v hj => by
    obtain ⟨hj1, rfl⟩ := List.getElem?_eq_some_iff.1 hj
    have hj2 : j < x.length := by simpa using hj1
    rw [hcells j hj2]
    simp [bv, hj2]
  have Hx := Lib.hid hx
  have Hra := Lib.hid hra
  clear hcells hra hr hE hx
  have Hh := Lib.hid h
  have harr := arr_at (some ⟨g, off, none⟩) 32 c (Nat.le_refl _)
  have k0 : (0 : Int) ≤ (k : Int) := by omega
  have k1 : (k : Int) < 52 := by omega
  clear h
  go_enter Tryd.func54, Tryd.ntmps54
  go_wp2_with fail
  refine C.out.mono ?_
  rintro e w' ⟨rfl, rfl⟩
  go_wp2_with (first
    | (refine wpList_load_mid rfl 74 _ (by rfl) g off (by rfl) (x.map bv) _ Hra.out Tryd.underlying74 rfl (by rw [List.length_map, Hx.out]; exact size_sec) ?_)
    | (refine wpList_store_blk rfl 74 _ _ (by rfl) w'.heap.size 0 (.agg (x.map bv).toArray) (by rfl) (by rfl) (List.replicate 32 (.int .u8 0)) 74 (heap_alloc_new _ _) (x.map bv) (by rfl) 32 (by rw [List.length_map, Hx.out]) size_sec (by decide) map_bv_one (x.map bv) (spl_all (by rw [List.length_map, Hx.out]; rfl)) ?_; intro w1 h1 hg1)
    | fail)
  have hB1 : Below w'.heap.size w' w1 := (below1 w' _).grown hg1 (by simp) (fun j hj => by injection hj with hj; omega)
  clear hg1
  have HD := Lib.hid (Hh.out.below hB1)
  have hG : w'.heap.size < w1.heap.size := (Array.getElem?_eq_some_iff.1 h1).1
  have hbG := Hh.out.lt
  have Hp := Lib.hid (Hh.out.plt)
  generalize hGe : w'.heap.size = G at h1 hG hbG Hp ⊢
  have HG := Lib.hid hGe
  clear hGe
  refine wp_region_still_tail 6 (by kernel_rfl) (by kernel_rfl) ?_
  simp only [List.take_succ_cons, List.take_zero, List.drop_succ_cons, List.drop_zero]
  change wpStill _ _ w1.drew _ _ _
  have hra1 : w1.drew.rangeAt G 0 (x.map bv) := fun j v hj => by rw [Nat.zero_add, cell_of_row _ _ _ _ _ _ (show w1.drew.heap[G]? = _ from h1)]; simpa using hj
  have Hra1 := Lib.hid hra1
  clear hra1
  still_step
  still_step
  refine wpStill_load_mid rfl 74 _ (by rfl) G 0 (by rfl) (x.map bv) _ Hra1.out Tryd.underlying74 rfl (by rw [List.length_map, Hx.out]; exact size_sec) ?_
  repeat still_step
  refine wpStill_nil ?_
  change wpList _ _ _ _ _ w1.drew
  have HS := Lib.hid Hh.out.ok.S
  have HN := Lib.hid Hh.out.ok.now
  refine wpList_store_blk rfl 74 _ _ (by rfl) b (1664 + k * 32) (.agg (x.map bv).toArray) (by rfl) (by rfl) (dcells D.S D.now pv D.f) 78 HD.out.blk (x.map bv) (by rfl) 32 (by rw [List.length_map, Hx.out]) size_sec (by rw [dcells_len HS.out HN.out]; omega) map_bv_one (dcells D.S (putAt D.now k x) pv D.f) (spl_Nsec HS.out HN.out hk Hx.out) ?_
  intro w2 hb2 hg2
  have hN' : (putAt D.now k x).length = 1664 := putAt_len HN.out (by omega) Hx.out
  have hc2 := cell_dpv hb2 HS.out hN'
  have hG2 : w2.heap[G]? = some (.cells (x.map bv).toArray 74 (0, 0)) := (hg2.block G hG (by intro e; injection e with e; omega)).trans h1
  have hra2 : w2.drew.rangeAt G 0 (x.map bv) := fun j v hj => by rw [Nat.zero_add, cell_of_row _ _ _ _ _ _ (show w2.drew.heap[G]? = _ from hG2)]; simpa using hj
  have hown2 : w2.ownsRow B 92 33 pv D.ps.length (wcells D.ps) := own_chg HD.out.own (chg_grown hg2).ofDrew (fun j hj e => HD.out.ne (hj.trans e.symm))
  have hsz2 := hg2.size
  have Hhb2 := Lib.hid hb2
  have Hg2 := Lib.hid (show w1.grownBy w2 (some b) from ⟨hg2.os, hg2.tape, hg2.output, hg2.size, hg2.block⟩)
  have Hown2 := Lib.hid hown2
  have Hra2 := Lib.hid hra2
  have hb2lt : b < w2.heap.size := (Array.getElem?_eq_some_iff.1 hb2).1
  clear hg2 hb2 hG2 hra2 hown2 h1
  go_wp2
  rw [show ∀ (a : Act) (v : Value), a.put none v = a from fun _ _ => rfl]
  have hu := Tryd.underlying74
  have hi : (Tryd.prog.info? 74).map (·.size) = some (x.map bv).length := by rw [List.length_map, Hx.out]; exact size_sec
  have hx32 := Hx.out
  have HO := Lib.hid (show ∀ o : Obj, (w2.drew.alloc o).ownsRow B 92 33 pv D.ps.length (wcells D.ps) from fun o => own_heap Hown2.out fun j hj => heap_alloc_old w2.drew o (Hown2.out.lt j hj).2)
  obtain ⟨iw, hiw, hzz⟩ := Option.map_eq_some_iff.1 size_pw
  simp only [Prod.mk.injEq] at hzz
  have Hzw := Lib.hid hzz.1
  have Hsw := Lib.hid hzz.2.1
  have Hbw := Lib.hid hzz.2.2
  have Hiw := Lib.hid hiw
  have HBw := Lib.hid (show B ≤ w2.heap.size by have := Hh.out.le; omega)
  have HbD := Lib.hid (show ∀ o : Obj, (w2.drew.alloc o).heap[b]? = w2.heap[b]? from fun o => heap_alloc_old w2.drew o hb2lt)
  have Hbs := Lib.hid (show ∀ o : Obj, b < (w2.drew.alloc o).heap.size from fun o => by simp; omega)
  have Hbn := Lib.hid (show some b ≠ pv.ownBlock from fun e => Hh.out.ne e.symm)
  have HGn := Lib.hid (show some G ≠ pv.ownBlock from fun e => by have := (Hp.out _ e.symm).2; omega)
  have hG2 : G < w2.heap.size := by have : w1.heap.size ≤ w2.heap.size := hsz2; omega
  have HGD := Lib.hid (show ∀ o : Obj, (w2.drew.alloc o).heap[G]? = w2.heap[G]? from fun o => heap_alloc_old w2.drew o hG2)
  have HGs := Lib.hid (show ∀ o : Obj, G < (w2.drew.alloc o).heap.size from fun o => by simp; omega)
  have Hne1 := Lib.hid (show ∀ u ∈ (Value.int .i64 (k : Int) :: x.map bv), u.oneCell' = true from fun u hu => by
    rcases List.mem_cons.1 hu with rfl | hu
    · rfl
    · exact map_bv_one u hu)
  have Hnl := Lib.hid (show (Value.int .i64 (k : Int) :: x.map bv).length = 1 * 33 by simp [Hx.out])
  have hdl := dcells_len HS.out hN' pv D.f
  have Hdl := Lib.hid hdl
  clear hzz hiw hdl hc2
  refine wp_region_noPanic (region_take 8 (fun W => W.heap[b]? = w2.heap[b]? ∧ W.heap[G]? = w2.heap[G]?) (by kernel_rfl) (by kernel_rfl) (fun _ _ _ _ _ h => h) ⟨rfl, rfl⟩ ?_)
  simp only [List.take_succ_cons, List.take_zero, List.drop_succ_cons, List.drop_zero]
  refine take_of (v := .pointer (some ⟨b, 0, none⟩)) (by rfl) (fun W hW => by go_simp) ?_
  refine take_of (v := .pointer (some ⟨b, 0, none⟩)) (by rfl) (fun W hW => by go_simp) ?_
  simp only [Act.put, List.setIfInBounds_toArray, List.set_cons_zero, List.set_cons_succ]
  refine take_of (v := .pointer (some ⟨b, 0, none⟩)) (by rfl) (fun W hW => by go_simp) ?_
  simp only [Act.put, List.setIfInBounds_toArray, List.set_cons_zero, List.set_cons_succ]
  refine take_of (v := .pointer (some ⟨b, 3328, none⟩)) (by rfl) (fun W hW => by go_simp) ?_
  simp only [Act.put, List.setIfInBounds_toArray, List.set_cons_zero, List.set_cons_succ]
  refine take_of (v := pv) (by rfl) (fun W hW => by have hc := cell_dpv (hW.1.trans Hhb2.out) HS.out hN'; go_simp) ?_
  refine take_of (v := .int .i64 (k : Int)) (by rfl) (fun W hW => by go_simp) ?_
  simp only [Act.put, List.setIfInBounds_toArray, List.set_cons_zero, List.set_cons_succ]
  refine take_mid (by rfl) 74 _ (by rfl) G 0 (by rfl) (x.map bv) _ (fun W hW => range_heap Hra2.out hW.2) hu rfl hi ?_
  simp only [Act.put, List.setIfInBounds_toArray, List.set_cons_zero, List.set_cons_succ]
  refine take_of (v := .agg (Value.int .i64 (k : Int) :: x.map bv).toArray) (by rfl) (fun W hW => by go_simp) ?_
  simp only [Act.put, List.setIfInBounds_toArray, List.set_cons_zero, List.set_cons_succ, takesE]
  refine listE_step fun K hK => ?_
  rw [if_pos (by rfl), wp_built_slice (by simp [Act.eval, Value.cells, hx32])]
  refine hK _ _ ⟨HbD.out _, HGD.out _⟩ ?_
  clear hK K
  simp only [Act.put, List.setIfInBounds_toArray, List.set_cons_zero, List.set_cons_succ]
  refine listE_step fun K hK => ?_
  refine step_append_lies _ (by rfl) _ _ _ (by rfl) B 92 iw _ 33 40 Tryd.underlying76 Hiw.out Hzw.out Hsw.out Hbw.out (by rfl) (by omega) pv D.ps.length (wcells D.ps) (by rfl) (HO.out _) ⟨w2.heap.size, 0, none⟩ 1 1 (Value.int .i64 (k : Int) :: x.map bv) (by rfl) Hnl.out (World.news_of_block (heap_alloc_new w2.drew _)) Hne1.out (by omega) (by unfold maxLen; omega) (by omega) (by simp; have := HBw.out; omega) (w2.heap.size + 1) (by simp) ?_
  intro g3 cap3 w3 hown3 hgrow3 hat3 hlt3
  have hb3 := (hgrow3.block b (Hbs.out _) Hbn.out).trans (HbD.out _)
  have hG3 := (hgrow3.block G (HGs.out _) HGn.out).trans (HGD.out _)
  refine hK _ _ ⟨hb3, hG3⟩ ?_
  clear hK K
  have Hown3 := Lib.hid hown3
  have Hgrow3 := Lib.hid hgrow3
  have Hat3 := Lib.hid hat3
  have Hb3 := Lib.hid hb3
  have HG3 := Lib.hid hG3
  clear hown3 hgrow3 hat3 hb3 hG3
  simp only [Act.put, List.setIfInBounds_toArray, List.set_cons_zero, List.set_cons_succ]
  refine listE_step fun K hK => ?_
  go_simp
  refine hK _ _ ⟨Hb3.out, HG3.out⟩ ?_
  clear hK K
  refine listE_step fun K hK => ?_
  go_simp
  refine hK _ _ ⟨Hb3.out, HG3.out⟩ ?_
  clear hK K
  refine listE_last ?_
  refine wpList_store_blk rfl 76 _ _ (by rfl) b 3328 (.slice (some ⟨g3, 0, none⟩) (D.ps.length + 1) cap3) (by rfl) (by rfl) (dcells D.S (putAt D.now k x) pv D.f) 78 (Hb3.out.trans Hhb2.out) [.slice (some ⟨g3, 0, none⟩) (D.ps.length + 1) cap3] (by rfl) 1 (by rfl) size_pend (by have := Hdl.out; omega) (by intro u hu; simp at hu; subst hu; rfl) (dcells D.S (putAt D.now k x) (.slice (some ⟨g3, 0, none⟩) (D.ps.length + 1) cap3) D.f) (spl_pv HS.out hN') ?_
  intro w4 hb4 hg4
  refine wpList_nil (NoPanic.normal ?_)
  have Hb4 := Lib.hid hb4
  have Hg4 := Lib.hid hg4
  clear hb4 hg4
  go_wp2
  go_ret
  exact ⟨_, rfl, dsk_write_end Hh.out hk Hx.out hB1 Hg2.out Hgrow3.out Hat3.out Hown3.out Hb4.out Hg4.out⟩
end
end Go.Proofs.YtjnemopocmhfkaaDoor
end
section
namespace Go.Proofs.YtjnemopocmhfkaaDoor
open Go.RowKit

theorem own_cell_at {w : World} {B g n cap : Nat} {e : TypeId} {size : Nat} {xs : List Value} (h : w.ownsRow B e size (.slice (some ⟨g, 0, none⟩) n cap) n xs) (j : Nat) (hj : j < xs.length) : w.cell? ⟨g, j, none⟩ = xs[j]? := by
  rcases h.2 with ⟨h1, _⟩ | ⟨g', cap', cur, h1, h2, h3, h4, h5, h6, h7⟩
  · cases h1
  · injection h1 with h8 _ h9
    injection h8 with h8
    injection h8 with h8 _ _
    subst h8 h9
    have hx := h.1
    rw [cell_of_row w g j cur e (0, 0) h3, ← h7, List.getElem?_take, if_pos (by omega), Array.getElem?_toList]
end Go.Proofs.YtjnemopocmhfkaaDoor
end
