/- What the model's Damage computes. -/
import Derived.Test.YtcgajfjlkojnlaaMdlWrite
import Derived.Test.YtcgajfjlkojnlaaDskLeft
set_option linter.unusedSimpArgs false
namespace Go.Proofs.Ytcgajfjlkojnlaa
open Go.RowKit

theorem Grow.trans {e1 e2 : TypeId} {w0 w w' : World} {B : Nat} {a0 x0 a1 x1 a2 x2 : Value} {n1 m1 n2 m2 : Nat} {xs ys xs2 ys2 : List Value} (h : Grow e1 e2 w0 w B a0 x0 a1 x1 n1 m1 xs ys) (k : Grow e1 e2 w w' B a1 x1 a2 x2 n2 m2 xs2 ys2) :
    Grow e1 e2 w0 w' B a0 x0 a2 x2 n2 m2 xs2 ys2 :=
  ⟨k.a, k.x, k.d, h.c.trans k.c fun i hi e => (by
    rcases e with e | e
    · exact (h.ea i e).elim .inl fun h => by omega
    · exact (h.ex i e).elim .inr fun h => by omega), fun j e => (k.ea j e).elim (h.ea j) fun h1 => .inr (Nat.le_trans h.c.size h1), fun j e => (k.ex j e).elim (h.ex j) fun h1 => .inr (Nat.le_trans h.c.size h1)⟩
/-- The pending writes that stay. -/
def stayW (k : Nat) (ps : List (Nat × List UInt8)) : List (Nat × List UInt8) := ps.filter fun p => decide (p.1 ≠ k)
theorem stayW_yes {k : Nat} {ps : List (Nat × List UInt8)} {p : Nat × List UInt8} (h : p.1 ≠ k) : stayW k (ps ++ [p]) = stayW k ps ++ [p] := by
  unfold stayW; rw [List.filter_append, List.filter_cons_of_pos (by simpa using h)]; rfl
theorem stayW_no {k : Nat} {ps : List (Nat × List UInt8)} {p : Nat × List UInt8} (h : p.1 = k) : stayW k (ps ++ [p]) = stayW k ps := by
  unfold stayW; rw [List.filter_append, List.filter_cons_of_neg (by simpa using h)]; simp
theorem stayW_len (k : Nat) (ps : List (Nat × List UInt8)) (i : Nat) : (stayW k (ps.take i)).length ≤ ps.length :=
  Nat.le_trans (List.length_filter_le _ _) (by rw [List.length_take]; omega)
def atsV (ps : List (Nat × List UInt8)) : List Value := ps.map fun p => Value.int .i64 (p.1 : Int)
def xsV (ps : List (Nat × List UInt8)) : List Value := ps.map fun p => str p.2
theorem atsV_snoc (ps : List (Nat × List UInt8)) (p : Nat × List UInt8) : atsV (ps ++ [p]) = atsV ps ++ [.int .i64 (p.1 : Int)] := by unfold atsV; simp
theorem xsV_snoc (ps : List (Nat × List UInt8)) (p : Nat × List UInt8) : xsV (ps ++ [p]) = xsV ps ++ [str p.2] := by unfold xsV; simp
abbrev nilV : Value := .slice none 0 0
theorem mdl_damage_end {w wr w6 w7 w8 : World} {B mb mm n : Nat} {av xv va vx : Value} {D : Dsk} {F : Int → Option (List UInt8)} (h : MdlAt w B mb mm n av xv D F) {k : Nat} (hk : k < 52) {x : List UInt8} (hx : x.length = 32)
    (hG : Grow 3 9 w wr B nilV nilV va vx (stayW k D.ps).length (stayW k D.ps).length (atsV (stayW k D.ps)) (xsV (stayW k D.ps)))
    (hb7 : w7.heap[mb]? = some (.cells (mcells mm va vx D.f).toArray 50 (0, 0))) (hg6 : wr.grownBy w6 (some mb)) (hg7 : w6.grownBy w7 (some mb)) (hm8 : MapS w8 mm (n + 1) (putF F (k : Int) x)) (hg8 : w7.grownBy w8 (some mm)) : MdlTo w w8 B mb mm n av xv 1 (D.damage k x) := by
  have hc7 : Chg (fun x => x = mb) wr w7 := ((chg_grown hg6).trans (chg_grown hg7) fun _ _ e => e).mono fun _ _ e => by injection e with e; exact e.symm
  have hc8 : Chg (fun x => x = mm) w7 w8 := (chg_grown hg8).mono fun _ _ e => by injection e with e; exact e.symm
  have h78 : Chg (fun x => x = mb ∨ x = mm) wr w8 := (hc7.mono fun _ _ e => .inl e).trans hc8 fun _ _ e => .inr e
  have hcw : Chg (MF mb mm av xv) w wr := hG.c.mono fun _ _ e => e.elim (fun e => by simp [Value.ownBlock] at e) (fun e => by simp [Value.ownBlock] at e)
  have hc : Chg (MF mb mm av xv) w w8 := hcw.trans h78 fun _ _ e => e.elim .inl fun e => .inr (.inl e)
  have lmb := (h.lt (.inl rfl)).2
  have lmm := (h.lt (.inr (.inl rfl))).2
  have hna : ∀ j, va.ownBlock = some j → w.heap.size ≤ j := fun j e => (hG.ea j e).elim (fun e => by simp [Value.ownBlock] at e) id
  have hnx : ∀ j, vx.ownBlock = some j → w.heap.size ≤ j := fun j e => (hG.ex j e).elim (fun e => by simp [Value.ownBlock] at e) id
  refine ⟨mm, n + 1, va, vx, _, ⟨(hc8.block mb (Array.getElem?_eq_some_iff.1 hb7).1 fun e => h.n1 e.symm).trans hb7, hm8, ?_, ?_, h.le, h.n1, fun e => by have := hna _ e; omega, fun e => by have := hna _ e; omega, fun e => by have := hnx _ e; omega, fun e => by have := hnx _ e; omega, hG.d, fun j hj => ?_, fun j y hy => ?_, h.ok.damage hk hx⟩, Nat.le_refl _, hc, fun j hj => ?_⟩
  · exact own_chg hG.a h78 fun j hj e => by have := hna j hj; omega
  · exact own_chg hG.x h78 fun j hj e => by have := hnx j hj; omega
  · show secAt (putAt D.S k x) j = _
    unfold putF
    by_cases e : j = k
    · subst e
      rw [if_pos rfl, sec_put_same h.ok.S hj hx]
      rfl
    · rw [if_neg (by omega), sec_put_other h.ok.S hk hx e]
      exact h.sec j hj
  · unfold putF at hy
    split at hy
    · injection hy with hy; subst hy; exact hx
    · exact h.len j y hy
  · rcases hj with e | e | e | e
    · exact .inl (.inl e)
    · exact .inl (.inr (.inl e))
    · exact .inr (hna j e)
    · exact .inr (hnx j e)
set_option maxRecDepth 100000 in
set_option maxHeartbeats 1600000 in
theorem mdl_damage_any (B mb mm n : Nat) (av xv : Value) (D : Dsk) (F : Int → Option (List UInt8)) (w : World) (h : MdlAt w B mb mm n av xv D F) (hps : D.ps.length ≤ 1000000) (hn : n < 1000000) (hB : B ≤ w.heap.size)
    (k : Nat) (hk : k < 52) (x : List UInt8) (hx : x.length = 32) (A : Option Addr) (c : Nat) (hr : RdB w w.heap.size A x) (hA : ∀ a, A = some a → a.block < w.heap.size ∧ a.block ≠ mb) :
    Calls Try.prog 26 #[.pointer (some ⟨mb, 0, none⟩), .int .i64 (k : Int), .slice A 32 c] w fun e w' => e = .returned (.tuple #[]) ∧ MdlTo w w' B mb mm n av xv 1 (D.damage k x) := by
  have Hh := Lib.hid h
  have hc1 := h.cell 1 av rfl
  obtain ⟨Aa, ca, rfl, hca, Hga⟩ := own_form h.ats
  obtain ⟨Ax, cx, rfl, hcx, Hgx⟩ := own_form h.xs
  have Hr := Lib.hid hr
  have HA := Lib.hid hA
  clear h hr hA
  go_enter Try.func26, Try.ntmps26
  go_wp2
  go_loopw [6, 7, 15] (fun sa sx si wr => ∃ (i : Nat) (va vx : Value), i ≤ D.ps.length ∧ si = .int .i64 i ∧ va = sa ∧ vx = sx ∧ Grow 3 9 w wr B nilV nilV va vx (stayW k (D.ps.take i)).length (stayW k (D.ps.take i)).length (atsV (stayW k (D.ps.take i))) (xsV (stayW k (D.ps.take i)))) (fun _ _ si _ => D.ps.length - (intOf si).toNat)
  case atStart => exact ⟨0, _, _, Nat.zero_le _, rfl, rfl, rfl, Grow.start (World.ownsRow_nil _ _ _ _) (World.ownsRow_nil _ _ _ _) fun k h => by simp [Value.ownBlock] at h⟩
  case round =>
    obtain ⟨i, va, vx, hi, rfl, rfl, rfl, hG⟩ := hrel
    have HG := Lib.hid hG
    have hM : MdlAt wr B mb mm n (.slice Aa D.ps.length ca) (.slice Ax D.ps.length cx) D F := Hh.out.chg hG.c fun j _ e => e.elim (fun e => by simp [Value.ownBlock] at e) (fun e => by simp [Value.ownBlock] at e)
    have HM := Lib.hid hM
    clear hc1
    by_cases hlt : i < D.ps.length
    · obtain ⟨ga, rfl, _⟩ := Hga (by omega)
      obtain ⟨gx, rfl, _⟩ := Hgx (by omega)
      have h1 := own_cell_at hM.ats i (by simpa using hlt)
      have h2 := own_cell_at hM.xs i (by simpa using hlt)
      have hpm : D.ps.getD i (0, []) ∈ D.ps := by simp [hlt]
      have hok := Hh.out.ok.ps _ hpm
      have hp : D.ps[i]? = some (D.ps.getD i (0, [])) := by simp [hlt]
      have hs := take_getD_succ hlt
      have hls := stayW_len k D.ps i
      rw [List.getElem?_map, hp] at h1 h2
      generalize D.ps.getD i (0, []) = p at h1 h2 hs hok
      simp only [Option.map_some] at h1 h2
      have i0 : (0 : Int) ≤ (i : Int) := by omega
      have i1 : (i : Int) < (D.ps.length : Int) := by omega
      have hn2 : IntKind.i64.wrap ((i : Int) + 1) = (i : Int) + 1 := by rw [IntKind.wrap_i64]; omega
      have Hs := Lib.hid hs
      clear hpm hp hs hM hG
      by_cases he : p.1 = k
      · have e1 : ((p.1 : Int) != (k : Int)) = false := by rw [he]; simp
        have e2 : ((p.1 : Int) == (k : Int)) = true := by rw [he]; simp
        have Hk := Lib.hid (show stayW k (D.ps.take (i + 1)) = stayW k (D.ps.take i) by rw [Hs.out, stayW_no he])
        clear he Hs h2 hok
        go_wp2
        go_roundw
        case rel => exact ⟨i + 1, _, _, by omega, by go_num, rfl, rfl, by rw [Hk.out]; exact HG.out⟩
        case measure => simp [intOf]; omega
      · have e1 : ((p.1 : Int) != (k : Int)) = true := by rw [bne_iff_ne]; omega
        have e2 : ((p.1 : Int) == (k : Int)) = false := by rw [beq_eq_false_iff_ne]; omega
        have Hk := Lib.hid (show stayW k (D.ps.take (i + 1)) = stayW k (D.ps.take i) ++ [p] by rw [Hs.out, stayW_yes he])
        have hNa : ∀ j, va.ownBlock = some j → w.heap.size ≤ j := fun j e => (HG.out.ea j e).elim (fun e => by simp [Value.ownBlock] at e) id
        have hNx : ∀ j, vx.ownBlock = some j → w.heap.size ≤ j := fun j e => (HG.out.ex j e).elim (fun e => by simp [Value.ownBlock] at e) id
        obtain ⟨S, hS⟩ : ∃ S : World → Prop, S = Chg (fun k => va.ownBlock = some k ∨ vx.ownBlock = some k) wr := ⟨_, rfl⟩
        have HS := Lib.hid hS
        have hst : ∀ W, S W → ∀ j, j < w.heap.size → W.heap[j]? = wr.heap[j]? := fun W hW j hj => by
          rw [hS] at hW
          exact hW.block j (Nat.lt_of_lt_of_le hj HG.out.c.size) fun e => e.elim (fun e => by have := hNa j e; omega) fun e => by have := hNx j e; omega
        have HL2 := Lib.hid (fun W hW => (World.cell?_of_block (a := ⟨mb, 2, none⟩) (hst W hW mb (Hh.out.lt (.inl rfl)).2)).trans (HM.out.cell 2 _ rfl) : ∀ W, S W → W.cell? ⟨mb, 2, none⟩ = some (.slice (some ⟨gx, 0, none⟩) D.ps.length cx))
        have HLx := Lib.hid (fun W hW => (World.cell?_of_block (a := ⟨gx, i, none⟩) (hst W hW gx (Hh.out.lt (.inr (.inr (.inr rfl)))).2)).trans h2 : ∀ W, S W → W.cell? ⟨gx, i, none⟩ = some (str p.2))
        have HS0 : Hid (S wr.drew) := Lib.hid (by rw [hS]; exact (Chg.refl _ wr).drewN 1)
        have HG0 := Lib.hid ((Grow.start HG.out.a HG.out.x HG.out.d).drew : Grow 3 9 wr wr.drew B va vx va vx _ _ _ _)
        have HBr := Lib.hid (Nat.le_trans hB HG.out.c.size)
        have Hlta := Lib.hid (fun j hj => (HG.out.a.lt j hj).2)
        have Hltx := Lib.hid (fun j hj => (HG.out.x.lt j hj).2)
        clear he Hs hst hS hNa hNx h2
        go_wp2
        refine wp_region_noPanic (region_ord 14 [] S (by kernel_rfl) (by kernel_rfl) (fun _ _ _ _ _ h => h) fun R => ?_)
        change anyI _ _ _ _ _ _ 16 _ _ wr.drew
        refine anyI_take R 0 rfl (v := va) (by kernel_rfl) (by rfl) (fun W hW => by go_simp) HS0.out ?_
        simp only [Act.put, List.getElem_toArray, List.getElem_cons_succ, List.getElem_cons_zero, List.setIfInBounds_toArray, List.set_cons_zero, List.set_cons_succ]
        refine anyI_take R 1 rfl (v := (.int .i64 (p.1 : Int))) (by kernel_rfl) (by rfl) (fun W hW => by go_simp) HS0.out ?_
        simp only [Act.put, List.getElem_toArray, List.getElem_cons_succ, List.getElem_cons_zero, List.setIfInBounds_toArray, List.set_cons_zero, List.set_cons_succ]
        refine anyI_take R 4 rfl (v := vx) (by kernel_rfl) (by rfl) (fun W hW => by go_simp) HS0.out ?_
        simp only [Act.put, List.getElem_toArray, List.getElem_cons_succ, List.getElem_cons_zero, List.setIfInBounds_toArray, List.set_cons_zero, List.set_cons_succ]
        refine anyI_take R 5 rfl (v := (.pointer (some ⟨mb, 0, none⟩))) (by kernel_rfl) (by rfl) (fun W hW => by go_simp) HS0.out ?_
        simp only [Act.put, List.getElem_toArray, List.getElem_cons_succ, List.getElem_cons_zero, List.setIfInBounds_toArray, List.set_cons_zero, List.set_cons_succ]
        refine anyI_take R 6 rfl (v := (.pointer (some ⟨mb, 0, none⟩))) (by kernel_rfl) (by rfl) (fun W hW => by go_simp) HS0.out ?_
        simp only [Act.put, List.getElem_toArray, List.getElem_cons_succ, List.getElem_cons_zero, List.setIfInBounds_toArray, List.set_cons_zero, List.set_cons_succ]
        refine anyI_take R 7 rfl (v := (.pointer (some ⟨mb, 2, none⟩))) (by kernel_rfl) (by rfl) (fun W hW => by go_simp) HS0.out ?_
        simp only [Act.put, List.getElem_toArray, List.getElem_cons_succ, List.getElem_cons_zero, List.setIfInBounds_toArray, List.set_cons_zero, List.set_cons_succ]
        refine anyI_take R 8 rfl (v := (.slice (some ⟨gx, 0, none⟩) D.ps.length cx)) (by kernel_rfl) (by rfl) (fun W hW => by have hc := HL2.out W hW; go_simp) HS0.out ?_
        simp only [Act.put, List.getElem_toArray, List.getElem_cons_succ, List.getElem_cons_zero, List.setIfInBounds_toArray, List.set_cons_zero, List.set_cons_succ]
        refine anyI_take R 9 rfl (v := (.int .i64 (i : Int))) (by kernel_rfl) (by rfl) (fun W hW => by go_simp) HS0.out ?_
        simp only [Act.put, List.getElem_toArray, List.getElem_cons_succ, List.getElem_cons_zero, List.setIfInBounds_toArray, List.set_cons_zero, List.set_cons_succ]
        refine anyI_take R 10 rfl (v := (.pointer (some ⟨gx, i, none⟩))) (by kernel_rfl) (by rfl) (fun W hW => by go_simp) HS0.out ?_
        simp only [Act.put, List.getElem_toArray, List.getElem_cons_succ, List.getElem_cons_zero, List.setIfInBounds_toArray, List.set_cons_zero, List.set_cons_succ]
        refine anyI_take R 11 rfl (v := (str p.2)) (by kernel_rfl) (by rfl) (fun W hW => by have hc := HLx.out W hW; go_simp) HS0.out ?_
        simp only [Act.put, List.getElem_toArray, List.getElem_cons_succ, List.getElem_cons_zero, List.setIfInBounds_toArray, List.set_cons_zero, List.set_cons_succ]
        have G0 := HG0.out
        refine anyI_two 2 12 (by kernel_rfl) rfl rfl ?_ ?_
        · simp only [List.getElem_toArray, List.getElem_cons_succ, List.getElem_cons_zero]
          refine opE_run (by rfl) (exec_build 39 _ (by rfl) (by rfl) (build_int (p.1 : Int) _)) ?_
          have G1 := G0.alloc (.cells #[.int .i64 (p.1 : Int)] 3)
          refine ⟨by rw [HS.out]; exact G1.c, ?_⟩
          simp only [Act.put, List.getElem_toArray, List.getElem_cons_succ, List.getElem_cons_zero, List.setIfInBounds_toArray, List.set_cons_zero, List.set_cons_succ]
          refine anyI_two 3 12 (by kernel_rfl) rfl rfl ?_ ?_
          · obtain ⟨va2, wa, hra, Ga, hga⟩ := G1.pushA 39 39 _ 8 Try.underlying39 info_int rfl wr.drew.heap.size (.int .i64 (p.1 : Int)) (hp_new _ _ _ rfl) rfl (by omega) (by omega) HBr.out
            simp only [List.getElem_toArray, List.getElem_cons_succ, List.getElem_cons_zero]
            refine opE_run (by rfl) (exec_append 39 _ _ (by rfl) (by rfl) (by rfl) hra) ?_
            refine ⟨by rw [HS.out]; exact Ga.c, ?_⟩
            simp only [Act.put, List.getElem_toArray, List.getElem_cons_succ, List.getElem_cons_zero, List.setIfInBounds_toArray, List.set_cons_zero, List.set_cons_succ]
            refine anyI_one 12 (by kernel_rfl) rfl ?_
            simp only [List.getElem_toArray, List.getElem_cons_succ, List.getElem_cons_zero]
            refine opE_run (by rfl) (exec_build 48 _ (by rfl) (by rfl) (build_str p.2 _)) ?_
            have G2 := Ga.alloc (.cells #[str p.2] 9)
            refine ⟨by rw [HS.out]; exact G2.c, ?_⟩
            simp only [Act.put, List.getElem_toArray, List.getElem_cons_succ, List.getElem_cons_zero, List.setIfInBounds_toArray, List.set_cons_zero, List.set_cons_succ]
            refine anyI_one 13 (by kernel_rfl) rfl ?_
            obtain ⟨vx2, wx, hrx, Gx, hgx⟩ := G2.pushX 48 48 _ 16 Try.underlying48 info_str rfl wa.heap.size (str p.2) (hp_new _ _ _ rfl) rfl (by omega) (by omega) HBr.out
            simp only [List.getElem_toArray, List.getElem_cons_succ, List.getElem_cons_zero]
            refine opE_run (by rfl) (exec_append 48 _ _ (by rfl) (by rfl) (by rfl) hrx) ?_
            refine ⟨by rw [HS.out]; exact Gx.c, ?_⟩
            simp only [Act.put, List.getElem_toArray, List.getElem_cons_succ, List.getElem_cons_zero, List.setIfInBounds_toArray, List.set_cons_zero, List.set_cons_succ]
            clear hra hrx hga hgx
            have HG5 := Lib.hid Gx
            generalize wx = w5 at HG5 ⊢
            clear Gx
            refine anyI_tail (by kernel_rfl) ?_
            simp only [List.drop_succ_cons, List.drop_zero]
            go_wp2
            refine NoPanic.normal ?_
            go_wp2
            go_roundw
            case rel => exact ⟨i + 1, _, _, by omega, by go_num, rfl, rfl, by rw [Hk.out, atsV_snoc, xsV_snoc, List.length_append]; exact HG.out.trans HG5.out⟩
            case measure => simp [intOf]; omega
          · simp only [List.getElem_toArray, List.getElem_cons_succ, List.getElem_cons_zero]
            refine opE_run (by rfl) (exec_build 48 _ (by rfl) (by rfl) (build_str p.2 _)) ?_
            have G2 := G1.alloc (.cells #[str p.2] 9)
            refine ⟨by rw [HS.out]; exact G2.c, ?_⟩
            simp only [Act.put, List.getElem_toArray, List.getElem_cons_succ, List.getElem_cons_zero, List.setIfInBounds_toArray, List.set_cons_zero, List.set_cons_succ]
            refine anyI_one 3 (by kernel_rfl) rfl ?_
            obtain ⟨va2, wa, hra, Ga, hga⟩ := G2.pushA 39 39 _ 8 Try.underlying39 info_int rfl wr.drew.heap.size (.int .i64 (p.1 : Int)) ((hp_old _ _ _ (by simp)).trans (hp_new _ _ _ rfl)) rfl (by omega) (by omega) HBr.out
            simp only [List.getElem_toArray, List.getElem_cons_succ, List.getElem_cons_zero]
            refine opE_run (by rfl) (exec_append 39 _ _ (by rfl) (by rfl) (by rfl) hra) ?_
            refine ⟨by rw [HS.out]; exact Ga.c, ?_⟩
            simp only [Act.put, List.getElem_toArray, List.getElem_cons_succ, List.getElem_cons_zero, List.setIfInBounds_toArray, List.set_cons_zero, List.set_cons_succ]
            have hq : wa.heap[(wr.drew.alloc (.cells #[.int .i64 (p.1 : Int)] 3)).heap.size]? = some (.cells #[str p.2] 9 (0, 0)) := (hga.block _ (by simp) fun e => by have := Hlta.out _ e.symm; exact absurd this (by simp)).trans (hp_new _ _ _ rfl)
            refine anyI_one 13 (by kernel_rfl) rfl ?_
            obtain ⟨vx2, wx, hrx, Gx, hgx⟩ := Ga.pushX 48 48 _ 16 Try.underlying48 info_str rfl (wr.drew.alloc (.cells #[.int .i64 (p.1 : Int)] 3)).heap.size (str p.2) hq rfl (by omega) (by omega) HBr.out
            simp only [List.getElem_toArray, List.getElem_cons_succ, List.getElem_cons_zero]
            refine opE_run (by rfl) (exec_append 48 _ _ (by rfl) (by rfl) (by rfl) hrx) ?_
            refine ⟨by rw [HS.out]; exact Gx.c, ?_⟩
            simp only [Act.put, List.getElem_toArray, List.getElem_cons_succ, List.getElem_cons_zero, List.setIfInBounds_toArray, List.set_cons_zero, List.set_cons_succ]
            clear hq
            clear hra hrx hga hgx
            have HG5 := Lib.hid Gx
            generalize wx = w5 at HG5 ⊢
            clear Gx
            refine anyI_tail (by kernel_rfl) ?_
            simp only [List.drop_succ_cons, List.drop_zero]
            go_wp2
            refine NoPanic.normal ?_
            go_wp2
            go_roundw
            case rel => exact ⟨i + 1, _, _, by omega, by go_num, rfl, rfl, by rw [Hk.out, atsV_snoc, xsV_snoc, List.length_append]; exact HG.out.trans HG5.out⟩
            case measure => simp [intOf]; omega
        · simp only [List.getElem_toArray, List.getElem_cons_succ, List.getElem_cons_zero]
          refine opE_run (by rfl) (exec_build 48 _ (by rfl) (by rfl) (build_str p.2 _)) ?_
          have G1 := G0.alloc (.cells #[str p.2] 9)
          refine ⟨by rw [HS.out]; exact G1.c, ?_⟩
          simp only [Act.put, List.getElem_toArray, List.getElem_cons_succ, List.getElem_cons_zero, List.setIfInBounds_toArray, List.set_cons_zero, List.set_cons_succ]
          refine anyI_one 2 (by kernel_rfl) rfl ?_
          simp only [List.getElem_toArray, List.getElem_cons_succ, List.getElem_cons_zero]
          refine opE_run (by rfl) (exec_build 39 _ (by rfl) (by rfl) (build_int (p.1 : Int) _)) ?_
          have G2 := G1.alloc (.cells #[.int .i64 (p.1 : Int)] 3)
          refine ⟨by rw [HS.out]; exact G2.c, ?_⟩
          simp only [Act.put, List.getElem_toArray, List.getElem_cons_succ, List.getElem_cons_zero, List.setIfInBounds_toArray, List.set_cons_zero, List.set_cons_succ]
          refine anyI_one 3 (by kernel_rfl) rfl ?_
          obtain ⟨va2, wa, hra, Ga, hga⟩ := G2.pushA 39 39 _ 8 Try.underlying39 info_int rfl (wr.drew.alloc (.cells #[str p.2] 9)).heap.size (.int .i64 (p.1 : Int)) (hp_new _ _ _ rfl) rfl (by omega) (by omega) HBr.out
          simp only [List.getElem_toArray, List.getElem_cons_succ, List.getElem_cons_zero]
          refine opE_run (by rfl) (exec_append 39 _ _ (by rfl) (by rfl) (by rfl) hra) ?_
          refine ⟨by rw [HS.out]; exact Ga.c, ?_⟩
          simp only [Act.put, List.getElem_toArray, List.getElem_cons_succ, List.getElem_cons_zero, List.setIfInBounds_toArray, List.set_cons_zero, List.set_cons_succ]
          have hq : wa.heap[wr.drew.heap.size]? = some (.cells #[str p.2] 9 (0, 0)) := (hga.block _ (by simp; omega) fun e => by have := Hlta.out _ e.symm; exact absurd this (by simp)).trans ((hp_old _ _ _ (by simp)).trans (hp_new _ _ _ rfl))
          refine anyI_one 13 (by kernel_rfl) rfl ?_
          obtain ⟨vx2, wx, hrx, Gx, hgx⟩ := Ga.pushX 48 48 _ 16 Try.underlying48 info_str rfl wr.drew.heap.size (str p.2) hq rfl (by omega) (by omega) HBr.out
          simp only [List.getElem_toArray, List.getElem_cons_succ, List.getElem_cons_zero]
          refine opE_run (by rfl) (exec_append 48 _ _ (by rfl) (by rfl) (by rfl) hrx) ?_
          refine ⟨by rw [HS.out]; exact Gx.c, ?_⟩
          simp only [Act.put, List.getElem_toArray, List.getElem_cons_succ, List.getElem_cons_zero, List.setIfInBounds_toArray, List.set_cons_zero, List.set_cons_succ]
          clear hq
          clear hra hrx hga hgx
          have HG5 := Lib.hid Gx
          generalize wx = w5 at HG5 ⊢
          clear Gx
          refine anyI_tail (by kernel_rfl) ?_
          simp only [List.drop_succ_cons, List.drop_zero]
          go_wp2
          refine NoPanic.normal ?_
          go_wp2
          go_roundw
          case rel => exact ⟨i + 1, _, _, by omega, by go_num, rfl, rfl, by rw [Hk.out, atsV_snoc, xsV_snoc, List.length_append]; exact HG.out.trans HG5.out⟩
          case measure => simp [intOf]; omega
    · obtain rfl : i = D.ps.length := by omega
      rw [List.take_length] at HG
      have Hb0 := Lib.hid HM.out.blk
      clear hG hM
      go_wp2_with (first
        | (refine wpList_store_blk rfl 39 _ _ (by rfl) mb 1 va (by rfl) (by rfl) (mcells mm (.slice Aa D.ps.length ca) (.slice Ax D.ps.length cx) D.f) 50 Hb0.out [va] (own_cell1 HG.out.a) 1 rfl size_ints (by show 1 + 1 ≤ 4; omega) (own_one1 HG.out.a) (mcells mm va (.slice Ax D.ps.length cx) D.f) rfl ?_
           intro w6 hb6 hg6
           have Hb6 := Lib.hid hb6
           have Hg6 := Lib.hid hg6
           clear hb6 hg6)
        | (refine wpList_store_blk rfl 48 _ _ (by rfl) mb 2 vx (by rfl) (by rfl) (mcells mm va (.slice Ax D.ps.length cx) D.f) 50 Hb6.out [vx] (own_cell1 HG.out.x) 1 rfl size_strs (by show 2 + 1 ≤ 4; omega) (own_one1 HG.out.x) (mcells mm va vx D.f) rfl ?_
           intro w7 hb7 hg7
           have Hb7 := Lib.hid hb7
           have Hg7 := Lib.hid hg7
           clear hb7 hg7))
      have hc7 : Chg (fun x => x = mb) wr w7 := ((chg_grown Hg6.out).trans (chg_grown Hg7.out) fun _ _ e => e).mono fun _ _ e => by injection e with e; exact e.symm
      have hc0 : w7.drew.cell? ⟨mb, 0, none⟩ = some (.map (some mm)) := by rw [cell_of_row w7.drew mb 0 _ _ _ Hb7.out]; rfl
      have hm7 : MapS w7.drew mm n F := HM.out.map.heap (hc7.block mm HM.out.map.lt Hh.out.n1)
      obtain ⟨w8, hst, hm8, hg8⟩ := hm7.store hn (k : Int) x (by omega) (by omega)
      have hcv := conv_str A x 32 c w.heap.size w7.drew hx.symm (Hr.out.stays fun a ha => (hc7.block a.block (Nat.lt_of_lt_of_le (HA.out a ha).1 HG.out.c.size) (HA.out a ha).2).trans (HG.out.stays (HA.out a ha).1 (by simp [Value.ownBlock]) (by simp [Value.ownBlock])))
      have Hend := Lib.hid (mdl_damage_end Hh.out hk hx HG.out Hb7.out Hg6.out Hg7.out hm8 ⟨hg8.os, hg8.tape, hg8.output, hg8.size, hg8.block⟩)
      clear hm7 hm8 hg8 hc7
      refine wp_region_still_tail 7 (by kernel_rfl) (by kernel_rfl) ?_
      simp only [List.take_succ_cons, List.take_zero, List.drop_succ_cons, List.drop_zero]
      change wpStill _ _ w7.drew _ _ _
      repeat still_step
      refine wpStill_nil ?_
      change wpList _ _ _ _ _ w7.drew
      go_wp2
      go_end0
      exact ⟨rfl, Hend.out⟩
end Go.Proofs.Ytcgajfjlkojnlaa
