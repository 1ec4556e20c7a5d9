/- What the model's Write computes. -/
import Derived.Test.YtcgajfjlkojnlaaMdlTo
import Derived.Test.YtcgajfjlkojnlaaTwoRows
set_option linter.unusedSimpArgs false
namespace Go.Proofs.Ytcgajfjlkojnlaa
open Go.RowKit

theorem RdB.stays {w w' : World} {B : Nat} {A : Option Addr} {x : List UInt8} (h : RdB w B A x) (hk : ∀ a, A = some a → w'.heap[a.block]? = w.heap[a.block]?) : RdB w' B A x :=
  ⟨h.1, fun hn => by
    obtain ⟨b, off, rfl, hb, hc⟩ := h.2 hn
    exact ⟨b, off, rfl, hb, fun k hk' => (World.cell?_of_block (a := ⟨b, off + k, none⟩) (hk ⟨b, off, none⟩ rfl)).trans (hc k hk')⟩⟩
theorem own_cell1 {w : World} {B n : Nat} {e : TypeId} {v : Value} {xs : List Value} (h : w.ownsRow B e 1 v n xs) : v.cells = [v].toArray := by
  obtain ⟨A, c, rfl, _, _⟩ := own_form h; rfl
theorem own_one1 {w : World} {B n : Nat} {e : TypeId} {v : Value} {xs : List Value} (h : w.ownsRow B e 1 v n xs) : ∀ u ∈ [v], u.oneCell' = true := by
  obtain ⟨A, c, rfl, _, _⟩ := own_form h
  intro u hu; simp at hu; subst hu; rfl
theorem mdl_write_end {w w5 w6 w7 : World} {B mb mm n : Nat} {av xv va vx : Value} {D : Dsk} {F : Int → Option (List UInt8)} (h : MdlAt w B mb mm n av xv D F) {k : Nat} (hk : k < 52) {x : List UInt8} (hx : x.length = 32)
    (hG : Grow 3 9 w w5 B av xv va vx (D.ps.length + 1) (D.ps.length + 1) ((D.ps.map fun p => Value.int .i64 (p.1 : Int)) ++ [.int .i64 (k : Int)]) ((D.ps.map fun p => str p.2) ++ [str x]))
    (hb7 : w7.heap[mb]? = some (.cells (mcells mm va vx D.f).toArray 50 (0, 0))) (hg6 : w5.grownBy w6 (some mb)) (hg7 : w6.grownBy w7 (some mb)) : MdlTo w w7 B mb mm n av xv 0 (D.write k x) := by
  have hc7 : Chg (fun x => x = mb) w5 w7 := ((chg_grown hg6).trans (chg_grown hg7) fun _ _ e => e).mono fun _ _ e => by injection e with e; exact e.symm
  have hc : Chg (MF mb mm av xv) w w7 := (hG.c.mono fun _ _ e => .inr (.inr e)).trans (G := fun x => x = mb) hc7 fun _ _ e => .inl e
  have lmb := (h.lt (.inl rfl)).2
  have lmm := (h.lt (.inr (.inl rfl))).2
  have hne : ∀ (v v0 : Value), (∀ k, v.ownBlock = some k → v0.ownBlock = some k ∨ w.heap.size ≤ k) → ∀ b, b < w.heap.size → v0.ownBlock ≠ some b → v.ownBlock ≠ some b := fun v v0 hv b hb h0 e => by
    rcases hv b e with e | e
    · exact h0 e
    · omega
  have nb := hne va av hG.ea mb lmb h.n2
  have nbx := hne vx xv hG.ex mb lmb h.n4
  refine ⟨mm, n, va, vx, F, ⟨hb7, h.map.heap ((hc7.block mm (Nat.lt_of_lt_of_le lmm hG.c.size) h.n1).trans (hG.stays lmm h.n3 h.n5)), ?_, ?_, h.le, h.n1, nb, hne va av hG.ea mm lmm h.n3, nbx, hne vx xv hG.ex mm lmm h.n5, hG.d, h.sec, h.len, h.ok.write hk hx⟩, by omega, hc, fun j hj => ?_⟩
  · have := own_chg hG.a hc7 fun j hj e => nb (by rw [hj, e])
    simpa [Dsk.write] using this
  · have := own_chg hG.x hc7 fun j hj e => nbx (by rw [hj, e])
    simpa [Dsk.write] using this
  · rcases hj with e | e | e | e
    · exact .inl (.inl e)
    · exact .inl (.inr (.inl e))
    · exact (hG.ea j e).imp (fun e => .inr (.inr (.inl e))) id
    · exact (hG.ex j e).imp (fun e => .inr (.inr (.inr e))) id
set_option maxRecDepth 100000 in
set_option maxHeartbeats 1600000 in
theorem mdl_write_any (B mb mm n : Nat) (av xv : Value) (D : Dsk) (F : Int → Option (List UInt8)) (w : World) (h : MdlAt w B mb mm n av xv D F) (hps : D.ps.length ≤ 1000000) (hB : B ≤ w.heap.size)
    (k : Nat) (hk : k < 52) (x : List UInt8) (hx : x.length = 32) (A : Option Addr) (c : Nat) (hr : RdB w w.heap.size A x) (hA : ∀ a, A = some a → a.block < w.heap.size ∧ av.ownBlock ≠ some a.block ∧ xv.ownBlock ≠ some a.block) :
    Calls Try.prog 25 #[.pointer (some ⟨mb, 0, none⟩), .int .i64 (k : Int), .slice A 32 c] w fun e w' => e = .returned (.tuple #[]) ∧ MdlTo w w' B mb mm n av xv 0 (D.write k x) := by
  have Hh := Lib.hid h
  obtain ⟨S, hS⟩ : ∃ S : World → Prop, S = Chg (fun k => av.ownBlock = some k ∨ xv.ownBlock = some k) w := ⟨_, rfl⟩
  have HS := Lib.hid hS
  have hblk : ∀ W, S W → W.heap[mb]? = some (.cells (mcells mm av xv D.f).toArray 50 (0, 0)) := fun W hW => by
    rw [hS] at hW
    exact (hW.block mb (h.lt (.inl rfl)).2 fun e => e.elim h.n2 h.n4).trans h.blk
  have HL1 := Lib.hid (fun W hW => (cell_of_row W mb 1 _ _ _ (hblk W hW)).trans rfl : ∀ W, S W → W.cell? ⟨mb, 1, none⟩ = some av)
  have HL2 := Lib.hid (fun W hW => (cell_of_row W mb 2 _ _ _ (hblk W hW)).trans rfl : ∀ W, S W → W.cell? ⟨mb, 2, none⟩ = some xv)
  have HCV := Lib.hid (fun W hW => conv_str A x 32 c w.heap.size W hx.symm (hr.stays fun a ha => by
    rw [hS] at hW
    exact hW.block a.block (hA a ha).1 fun e => e.elim (hA a ha).2.1 (hA a ha).2.2) : ∀ W, S W → (convert 25 9 (.slice A 32 c)).run Try.prog W = .ok (str x) W)
  have HS0 : Hid (S w.drew) := Lib.hid (by rw [hS]; exact (Chg.refl _ w).drewN 1)
  have HG0 := Lib.hid ((Grow.start h.ats h.xs h.n6).drew : Grow 3 9 w w.drew B av xv av xv D.ps.length D.ps.length _ _)
  have Hlt := Lib.hid (fun j hj => h.lt (k := j) hj)
  clear h hblk hS hr hA
  go_enter Try.func25, Try.ntmps25
  go_wp2
  refine wp_region_noPanic (region_ord 17 [1] S (by kernel_rfl) (by kernel_rfl) (fun _ _ _ _ _ h => h) fun R => ?_)
  change anyI _ _ _ _ _ _ 23 _ _ w.drew
  refine anyI_free R 1 rfl (v := (.pointer (some ⟨mb, 0, none⟩))) (by kernel_rfl) (by rfl) (fun W => by go_simp) ?_
  simp only [Act.put, List.getElem_toArray, List.getElem_cons_succ, List.getElem_cons_zero, List.setIfInBounds_toArray, List.set_cons_zero, List.set_cons_succ]
  refine anyI_take R 0 rfl (v := (.pointer (some ⟨mb, 0, none⟩))) (by kernel_rfl) (by rfl) (fun W hW => by go_simp) HS0.out ?_
  simp only [Act.put, List.getElem_toArray, List.getElem_cons_succ, List.getElem_cons_zero, List.setIfInBounds_toArray, List.set_cons_zero, List.set_cons_succ]
  refine anyI_take R 2 rfl (v := (.pointer (some ⟨mb, 0, none⟩))) (by kernel_rfl) (by rfl) (fun W hW => by go_simp) HS0.out ?_
  simp only [Act.put, List.getElem_toArray, List.getElem_cons_succ, List.getElem_cons_zero, List.setIfInBounds_toArray, List.set_cons_zero, List.set_cons_succ]
  refine anyI_take R 3 rfl (v := (.pointer (some ⟨mb, 0, none⟩))) (by kernel_rfl) (by rfl) (fun W hW => by go_simp) HS0.out ?_
  simp only [Act.put, List.getElem_toArray, List.getElem_cons_succ, List.getElem_cons_zero, List.setIfInBounds_toArray, List.set_cons_zero, List.set_cons_succ]
  refine anyI_take R 4 rfl (v := (.pointer (some ⟨mb, 1, none⟩))) (by kernel_rfl) (by rfl) (fun W hW => by go_simp) HS0.out ?_
  simp only [Act.put, List.getElem_toArray, List.getElem_cons_succ, List.getElem_cons_zero, List.setIfInBounds_toArray, List.set_cons_zero, List.set_cons_succ]
  refine anyI_take R 5 rfl (v := av) (by kernel_rfl) (by rfl) (fun W hW => by have hc := HL1.out W hW; go_simp) HS0.out ?_
  simp only [Act.put, List.getElem_toArray, List.getElem_cons_succ, List.getElem_cons_zero, List.setIfInBounds_toArray, List.set_cons_zero, List.set_cons_succ]
  refine anyI_take R 6 rfl (v := (.int .i64 (k : Int))) (by kernel_rfl) (by rfl) (fun W hW => by go_simp) HS0.out ?_
  simp only [Act.put, List.getElem_toArray, List.getElem_cons_succ, List.getElem_cons_zero, List.setIfInBounds_toArray, List.set_cons_zero, List.set_cons_succ]
  refine anyI_take R 9 rfl (v := (.pointer (some ⟨mb, 0, none⟩))) (by kernel_rfl) (by rfl) (fun W hW => by go_simp) HS0.out ?_
  simp only [Act.put, List.getElem_toArray, List.getElem_cons_succ, List.getElem_cons_zero, List.setIfInBounds_toArray, List.set_cons_zero, List.set_cons_succ]
  refine anyI_take R 10 rfl (v := (.pointer (some ⟨mb, 0, none⟩))) (by kernel_rfl) (by rfl) (fun W hW => by go_simp) HS0.out ?_
  simp only [Act.put, List.getElem_toArray, List.getElem_cons_succ, List.getElem_cons_zero, List.setIfInBounds_toArray, List.set_cons_zero, List.set_cons_succ]
  refine anyI_take R 11 rfl (v := (.pointer (some ⟨mb, 2, none⟩))) (by kernel_rfl) (by rfl) (fun W hW => by go_simp) HS0.out ?_
  simp only [Act.put, List.getElem_toArray, List.getElem_cons_succ, List.getElem_cons_zero, List.setIfInBounds_toArray, List.set_cons_zero, List.set_cons_succ]
  refine anyI_take R 12 rfl (v := xv) (by kernel_rfl) (by rfl) (fun W hW => by have hc := HL2.out W hW; go_simp) HS0.out ?_
  simp only [Act.put, List.getElem_toArray, List.getElem_cons_succ, List.getElem_cons_zero, List.setIfInBounds_toArray, List.set_cons_zero, List.set_cons_succ]
  refine anyI_take R 13 rfl (v := (.slice A 32 c)) (by kernel_rfl) (by rfl) (fun W hW => by go_simp) HS0.out ?_
  simp only [Act.put, List.getElem_toArray, List.getElem_cons_succ, List.getElem_cons_zero, List.setIfInBounds_toArray, List.set_cons_zero, List.set_cons_succ]
  refine anyI_take R 14 rfl (v := (str x)) (by kernel_rfl) (by rfl) (fun W hW => by have hc := HCV.out W hW; go_simp) HS0.out ?_
  simp only [Act.put, List.getElem_toArray, List.getElem_cons_succ, List.getElem_cons_zero, List.setIfInBounds_toArray, List.set_cons_zero, List.set_cons_succ]
  have G0 := HG0.out
  refine anyI_two 7 15 (by kernel_rfl) rfl rfl ?_ ?_
  · simp only [List.getElem_toArray, List.getElem_cons_succ, List.getElem_cons_zero]
    refine opE_run (by rfl) (exec_build 39 _ (by rfl) (by rfl) (build_int (k : Int) _)) ?_
    have G1 := G0.alloc (.cells #[.int .i64 (k : Int)] 3)
    refine ⟨by rw [HS.out]; exact G1.c, ?_⟩
    simp only [Act.put, List.getElem_toArray, List.getElem_cons_succ, List.getElem_cons_zero, List.setIfInBounds_toArray, List.set_cons_zero, List.set_cons_succ]
    refine anyI_two 8 15 (by kernel_rfl) rfl rfl ?_ ?_
    · obtain ⟨va, wa, hra, Ga, hga⟩ := G1.pushA 39 39 _ 8 Try.underlying39 info_int rfl w.drew.heap.size (.int .i64 (k : Int)) (hp_new _ _ _ rfl) rfl (by omega) (by omega) hB
      simp only [List.getElem_toArray, List.getElem_cons_succ, List.getElem_cons_zero]
      refine opE_run (by rfl) (exec_append 39 _ _ (by rfl) (by rfl) (by rfl) hra) ?_
      refine ⟨by rw [HS.out]; exact Ga.c, ?_⟩
      simp only [Act.put, List.getElem_toArray, List.getElem_cons_succ, List.getElem_cons_zero, List.setIfInBounds_toArray, List.set_cons_zero, List.set_cons_succ]
      refine anyI_one 15 (by kernel_rfl) rfl ?_
      simp only [List.getElem_toArray, List.getElem_cons_succ, List.getElem_cons_zero]
      refine opE_run (by rfl) (exec_build 48 _ (by rfl) (by rfl) (build_str x _)) ?_
      have G2 := Ga.alloc (.cells #[str x] 9)
      refine ⟨by rw [HS.out]; exact G2.c, ?_⟩
      simp only [Act.put, List.getElem_toArray, List.getElem_cons_succ, List.getElem_cons_zero, List.setIfInBounds_toArray, List.set_cons_zero, List.set_cons_succ]
      refine anyI_one 16 (by kernel_rfl) rfl ?_
      obtain ⟨vx, wx, hrx, Gx, hgx⟩ := G2.pushX 48 48 _ 16 Try.underlying48 info_str rfl wa.heap.size (str x) (hp_new _ _ _ rfl) rfl (by omega) (by omega) hB
      simp only [List.getElem_toArray, List.getElem_cons_succ, List.getElem_cons_zero]
      refine opE_run (by rfl) (exec_append 48 _ _ (by rfl) (by rfl) (by rfl) hrx) ?_
      refine ⟨by rw [HS.out]; exact Gx.c, ?_⟩
      simp only [Act.put, List.getElem_toArray, List.getElem_cons_succ, List.getElem_cons_zero, List.setIfInBounds_toArray, List.set_cons_zero, List.set_cons_succ]
      clear hra hrx hga hgx
      have HG := Lib.hid Gx
      generalize wx = w5 at HG ⊢
      clear Gx
      refine anyI_tail (by kernel_rfl) ?_
      simp only [List.drop_succ_cons, List.drop_zero]
      have Hb0 := Lib.hid (show w5.heap[mb]? = some (.cells (mcells mm av xv D.f).toArray 50 (0, 0)) from (HG.out.stays (Hlt.out _ (.inl rfl)).2 Hh.out.n2 Hh.out.n4).trans Hh.out.blk)
      go_wp2_with (first
        | (refine wpList_store_blk rfl 39 _ _ (by rfl) mb 1 va (by rfl) (by rfl) (mcells mm av xv D.f) 50 Hb0.out [va] (own_cell1 HG.out.a) 1 rfl size_ints (by show 1 + 1 ≤ 4; omega) (own_one1 HG.out.a) (mcells mm va xv D.f) rfl ?_
           intro w6 hb6 hg6
           have Hb6 := Lib.hid hb6
           have Hg6 := Lib.hid hg6
           clear hb6 hg6)
        | (refine wpList_store_blk rfl 48 _ _ (by rfl) mb 2 vx (by rfl) (by rfl) (mcells mm va xv D.f) 50 Hb6.out [vx] (own_cell1 HG.out.x) 1 rfl size_strs (by show 2 + 1 ≤ 4; omega) (own_one1 HG.out.x) (mcells mm va vx D.f) rfl ?_
           intro w7 hb7 hg7
           have Hb7 := Lib.hid hb7
           have Hg7 := Lib.hid hg7
           clear hb7 hg7))
      refine NoPanic.normal ?_
      go_wp2
      go_end0
      exact ⟨rfl, mdl_write_end Hh.out hk hx HG.out Hb7.out Hg6.out Hg7.out⟩
    · simp only [List.getElem_toArray, List.getElem_cons_succ, List.getElem_cons_zero]
      refine opE_run (by rfl) (exec_build 48 _ (by rfl) (by rfl) (build_str x _)) ?_
      have G2 := G1.alloc (.cells #[str x] 9)
      refine ⟨by rw [HS.out]; exact G2.c, ?_⟩
      simp only [Act.put, List.getElem_toArray, List.getElem_cons_succ, List.getElem_cons_zero, List.setIfInBounds_toArray, List.set_cons_zero, List.set_cons_succ]
      refine anyI_one 8 (by kernel_rfl) rfl ?_
      obtain ⟨va, wa, hra, Ga, hga⟩ := G2.pushA 39 39 _ 8 Try.underlying39 info_int rfl w.drew.heap.size (.int .i64 (k : Int)) ((hp_old _ _ _ (by simp)).trans (hp_new _ _ _ rfl)) rfl (by omega) (by omega) hB
      simp only [List.getElem_toArray, List.getElem_cons_succ, List.getElem_cons_zero]
      refine opE_run (by rfl) (exec_append 39 _ _ (by rfl) (by rfl) (by rfl) hra) ?_
      refine ⟨by rw [HS.out]; exact Ga.c, ?_⟩
      simp only [Act.put, List.getElem_toArray, List.getElem_cons_succ, List.getElem_cons_zero, List.setIfInBounds_toArray, List.set_cons_zero, List.set_cons_succ]
      have hq : wa.heap[(w.drew.alloc (.cells #[.int .i64 (k : Int)] 3)).heap.size]? = some (.cells #[str x] 9 (0, 0)) := (hga.block _ (by simp) fun e => by have := (Hlt.out _ (.inr (.inr (.inl e.symm)))).2; exact absurd this (by simp)).trans (hp_new _ _ _ rfl)
      refine anyI_one 16 (by kernel_rfl) rfl ?_
      obtain ⟨vx, wx, hrx, Gx, hgx⟩ := Ga.pushX 48 48 _ 16 Try.underlying48 info_str rfl (w.drew.alloc (.cells #[.int .i64 (k : Int)] 3)).heap.size (str x) hq rfl (by omega) (by omega) hB
      simp only [List.getElem_toArray, List.getElem_cons_succ, List.getElem_cons_zero]
      refine opE_run (by rfl) (exec_append 48 _ _ (by rfl) (by rfl) (by rfl) hrx) ?_
      refine ⟨by rw [HS.out]; exact Gx.c, ?_⟩
      simp only [Act.put, List.getElem_toArray, List.getElem_cons_succ, List.getElem_cons_zero, List.setIfInBounds_toArray, List.set_cons_zero, List.set_cons_succ]
      clear hq
      clear hra hrx hga hgx
      have HG := Lib.hid Gx
      generalize wx = w5 at HG ⊢
      clear Gx
      refine anyI_tail (by kernel_rfl) ?_
      simp only [List.drop_succ_cons, List.drop_zero]
      have Hb0 := Lib.hid (show w5.heap[mb]? = some (.cells (mcells mm av xv D.f).toArray 50 (0, 0)) from (HG.out.stays (Hlt.out _ (.inl rfl)).2 Hh.out.n2 Hh.out.n4).trans Hh.out.blk)
      go_wp2_with (first
        | (refine wpList_store_blk rfl 39 _ _ (by rfl) mb 1 va (by rfl) (by rfl) (mcells mm av xv D.f) 50 Hb0.out [va] (own_cell1 HG.out.a) 1 rfl size_ints (by show 1 + 1 ≤ 4; omega) (own_one1 HG.out.a) (mcells mm va xv D.f) rfl ?_
           intro w6 hb6 hg6
           have Hb6 := Lib.hid hb6
           have Hg6 := Lib.hid hg6
           clear hb6 hg6)
        | (refine wpList_store_blk rfl 48 _ _ (by rfl) mb 2 vx (by rfl) (by rfl) (mcells mm va xv D.f) 50 Hb6.out [vx] (own_cell1 HG.out.x) 1 rfl size_strs (by show 2 + 1 ≤ 4; omega) (own_one1 HG.out.x) (mcells mm va vx D.f) rfl ?_
           intro w7 hb7 hg7
           have Hb7 := Lib.hid hb7
           have Hg7 := Lib.hid hg7
           clear hb7 hg7))
      refine NoPanic.normal ?_
      go_wp2
      go_end0
      exact ⟨rfl, mdl_write_end Hh.out hk hx HG.out Hb7.out Hg6.out Hg7.out⟩
  · simp only [List.getElem_toArray, List.getElem_cons_succ, List.getElem_cons_zero]
    refine opE_run (by rfl) (exec_build 48 _ (by rfl) (by rfl) (build_str x _)) ?_
    have G1 := G0.alloc (.cells #[str x] 9)
    refine ⟨by rw [HS.out]; exact G1.c, ?_⟩
    simp only [Act.put, List.getElem_toArray, List.getElem_cons_succ, List.getElem_cons_zero, List.setIfInBounds_toArray, List.set_cons_zero, List.set_cons_succ]
    refine anyI_one 7 (by kernel_rfl) rfl ?_
    simp only [List.getElem_toArray, List.getElem_cons_succ, List.getElem_cons_zero]
    refine opE_run (by rfl) (exec_build 39 _ (by rfl) (by rfl) (build_int (k : Int) _)) ?_
    have G2 := G1.alloc (.cells #[.int .i64 (k : Int)] 3)
    refine ⟨by rw [HS.out]; exact G2.c, ?_⟩
    simp only [Act.put, List.getElem_toArray, List.getElem_cons_succ, List.getElem_cons_zero, List.setIfInBounds_toArray, List.set_cons_zero, List.set_cons_succ]
    refine anyI_one 8 (by kernel_rfl) rfl ?_
    obtain ⟨va, wa, hra, Ga, hga⟩ := G2.pushA 39 39 _ 8 Try.underlying39 info_int rfl (w.drew.alloc (.cells #[str x] 9)).heap.size (.int .i64 (k : Int)) (hp_new _ _ _ rfl) rfl (by omega) (by omega) hB
    simp only [List.getElem_toArray, List.getElem_cons_succ, List.getElem_cons_zero]
    refine opE_run (by rfl) (exec_append 39 _ _ (by rfl) (by rfl) (by rfl) hra) ?_
    refine ⟨by rw [HS.out]; exact Ga.c, ?_⟩
    simp only [Act.put, List.getElem_toArray, List.getElem_cons_succ, List.getElem_cons_zero, List.setIfInBounds_toArray, List.set_cons_zero, List.set_cons_succ]
    have hq : wa.heap[w.drew.heap.size]? = some (.cells #[str x] 9 (0, 0)) := (hga.block _ (by simp; omega) fun e => by have := (Hlt.out _ (.inr (.inr (.inl e.symm)))).2; exact absurd this (by simp)).trans ((hp_old _ _ _ (by simp)).trans (hp_new _ _ _ rfl))
    refine anyI_one 16 (by kernel_rfl) rfl ?_
    obtain ⟨vx, wx, hrx, Gx, hgx⟩ := Ga.pushX 48 48 _ 16 Try.underlying48 info_str rfl w.drew.heap.size (str x) hq rfl (by omega) (by omega) hB
    simp only [List.getElem_toArray, List.getElem_cons_succ, List.getElem_cons_zero]
    refine opE_run (by rfl) (exec_append 48 _ _ (by rfl) (by rfl) (by rfl) hrx) ?_
    refine ⟨by rw [HS.out]; exact Gx.c, ?_⟩
    simp only [Act.put, List.getElem_toArray, List.getElem_cons_succ, List.getElem_cons_zero, List.setIfInBounds_toArray, List.set_cons_zero, List.set_cons_succ]
    clear hq
    clear hra hrx hga hgx
    have HG := Lib.hid Gx
    generalize wx = w5 at HG ⊢
    clear Gx
    refine anyI_tail (by kernel_rfl) ?_
    simp only [List.drop_succ_cons, List.drop_zero]
    have Hb0 := Lib.hid (show w5.heap[mb]? = some (.cells (mcells mm av xv D.f).toArray 50 (0, 0)) from (HG.out.stays (Hlt.out _ (.inl rfl)).2 Hh.out.n2 Hh.out.n4).trans Hh.out.blk)
    go_wp2_with (first
      | (refine wpList_store_blk rfl 39 _ _ (by rfl) mb 1 va (by rfl) (by rfl) (mcells mm av xv D.f) 50 Hb0.out [va] (own_cell1 HG.out.a) 1 rfl size_ints (by show 1 + 1 ≤ 4; omega) (own_one1 HG.out.a) (mcells mm va xv D.f) rfl ?_
         intro w6 hb6 hg6
         have Hb6 := Lib.hid hb6
         have Hg6 := Lib.hid hg6
         clear hb6 hg6)
      | (refine wpList_store_blk rfl 48 _ _ (by rfl) mb 2 vx (by rfl) (by rfl) (mcells mm va xv D.f) 50 Hb6.out [vx] (own_cell1 HG.out.x) 1 rfl size_strs (by show 2 + 1 ≤ 4; omega) (own_one1 HG.out.x) (mcells mm va vx D.f) rfl ?_
         intro w7 hb7 hg7
         have Hb7 := Lib.hid hb7
         have Hg7 := Lib.hid hg7
         clear hb7 hg7))
    refine NoPanic.normal ?_
    go_wp2
    go_end0
    exact ⟨rfl, mdl_write_end Hh.out hk hx HG.out Hb7.out Hg6.out Hg7.out⟩
end Go.Proofs.Ytcgajfjlkojnlaa
