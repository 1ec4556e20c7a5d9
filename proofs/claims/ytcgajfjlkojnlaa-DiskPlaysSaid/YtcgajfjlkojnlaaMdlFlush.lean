/- What the model's Flush computes. -/
import Derived.Test.YtcgajfjlkojnlaaMdlTo
namespace Go.Proofs.Ytcgajfjlkojnlaa
open Go.RowKit

set_option maxHeartbeats 800000 in
theorem mdl_flush_any (B mb mm n : Nat) (av xv : Value) (D : Dsk) (F : Int → Option (List UInt8)) (w : World) (h : MdlAt w B mb mm n av xv D F) (hps : D.ps.length ≤ 2000000) (hn : n + D.ps.length < 1000000) :
    Calls Try.prog 27 #[.pointer (some ⟨mb, 0, none⟩)] w fun e w' => e = .returned (.tuple #[]) ∧ MdlTo w w' B mb mm n av xv D.ps.length D.flush := by
  have Hh := Lib.hid h
  have hc1 := h.cell 1 av rfl
  obtain ⟨Aa, ca, rfl, hca, Hga⟩ := own_form h.ats
  obtain ⟨Ax, cx, rfl, hcx, Hgx⟩ := own_form h.xs
  have hm0 := h.map
  clear h
  go_enter Try.func27, Try.ntmps27
  go_wp2
  go_loopw [9] (fun si wr => ∃ i : Nat, i ≤ D.ps.length ∧ si = .int .i64 i ∧ MapS wr mm (n + i) (putAll F (D.ps.take i)) ∧ Chg (fun x => x = mm) w wr) (fun si _ => D.ps.length - (intOf si).toNat)
  case atStart => exact ⟨0, Nat.zero_le _, rfl, hm0, Chg.refl _ _⟩
  case round =>
    obtain ⟨i, hi, rfl, hm, hch⟩ := hrel
    have Hch := Lib.hid hch
    clear hc1 hm0
    have Hrest := Lib.hid (Hh.out.rest hch)
    by_cases hlt : i < D.ps.length
    · obtain ⟨ga, rfl, _⟩ := Hga (by omega)
      obtain ⟨gx, rfl, _⟩ := Hgx (by omega)
      have h1 := own_cell_at Hrest.out.2.1 i (by simpa using hlt)
      have h2 := own_cell_at Hrest.out.2.2 i (by simpa using hlt)
      have hpm : D.ps.getD i (0, []) ∈ D.ps := by simp [hlt]
      have hok := Hh.out.ok.ps _ hpm
      have hp : D.ps[i]? = some (D.ps.getD i (0, [])) := by simp [hlt]
      have hs := take_getD_succ hlt
      rw [List.getElem?_map, hp] at h1 h2
      generalize D.ps.getD i (0, []) = p at h1 h2 hs hok
      simp only [Option.map_some] at h1 h2
      obtain ⟨w1, hst, hm1, hg1⟩ := (hm.heap (w' := wr.drew) rfl).store (by omega) (p.1 : Int) p.2 (by have := hok.1; omega) (by have := hok.2; omega)
      have i0 : (0 : Int) ≤ (i : Int) := by omega
      have i1 : (i : Int) < (D.ps.length : Int) := by omega
      have hc0 : wr.drew.cell? ⟨mb, 0, none⟩ = some (.map (some mm)) := by rw [cell_of_row wr.drew mb 0 _ _ _ Hrest.out.1]; rfl
      have hc2 : wr.drew.cell? ⟨mb, 2, none⟩ = some (.slice (some ⟨gx, 0, none⟩) D.ps.length cx) := by rw [cell_of_row wr.drew mb 2 _ _ _ Hrest.out.1]; rfl
      have h2' : wr.drew.cell? ⟨gx, i, none⟩ = some (str p.2) := h2
      have hn2 : IntKind.i64.wrap ((i : Int) + 1) = (i : Int) + 1 := by rw [IntKind.wrap_i64]; omega
      have Hm1 := Lib.hid (show MapS w1 mm (n + (i + 1)) (putAll F (D.ps.take (i + 1))) by rw [hs, putAll_snoc]; exact hm1)
      have Hc1 := Lib.hid ((Hch.out.trans (chg_grown hg1).ofDrew fun _ _ e => by injection e with e; exact e.symm : Chg (fun x => x = mm) w w1))
      clear hpm hok hp hs hm hm1 hg1 hch h2
      go_wp2
      refine wp_region_still_tail 12 (by kernel_rfl) (by kernel_rfl) ?_
      simp only [List.take_succ_cons, List.take_zero, List.drop_succ_cons, List.drop_zero]
      change wpStill _ _ wr.drew _ _ _
      repeat still_step
      refine wpStill_nil ?_
      change wpList _ _ _ _ _ wr.drew
      go_wp2
      go_roundw
      case rel => exact ⟨i + 1, by omega, by go_num, Hm1.out, Hc1.out⟩
      case measure => simp [intOf]; omega
    · obtain rfl : i = D.ps.length := by omega
      rw [List.take_length] at hm
      have Hm := Lib.hid hm
      clear hm hch
      go_wp2_with (first
        | (refine wpList_store_blk rfl 39 _ _ (by rfl) mb 1 (.slice none 0 0) (by rfl) (by rfl) (mcells mm (.slice Aa D.ps.length ca) (.slice Ax D.ps.length cx) D.f) 50 Hrest.out.1 [.slice none 0 0] (by rfl) 1 rfl size_ints (by show 1 + 1 ≤ 4; omega) (by intro u hu; simp at hu; subst hu; rfl) (mcells mm (.slice none 0 0) (.slice Ax D.ps.length cx) D.f) rfl ?_
           intro w1 hb1 hg1
           have Hb1 := Lib.hid hb1
           have Hg1 := Lib.hid hg1
           clear hb1 hg1)
        | (refine wpList_store_blk rfl 48 _ _ (by rfl) mb 2 (.slice none 0 0) (by rfl) (by rfl) (mcells mm (.slice none 0 0) (.slice Ax D.ps.length cx) D.f) 50 Hb1.out [.slice none 0 0] (by rfl) 1 rfl size_strs (by show 2 + 1 ≤ 4; omega) (by intro u hu; simp at hu; subst hu; rfl) (mcells mm (.slice none 0 0) (.slice none 0 0) D.f) rfl ?_
           intro w2 hb2 hg2))
      go_end0
      have hc1 := chg_grown Hg1.out
      have hc2 := chg_grown hg2
      have hc : Chg (fun x => x = mm ∨ x = mb) w w2 := ((Hch.out.mono fun _ _ e => .inl e).trans hc1 fun _ _ e => .inr (by injection e with e; exact e.symm)).trans hc2 fun _ _ e => .inr (by injection e with e; exact e.symm)
      have hmm : w2.heap[mm]? = wr.heap[mm]? := ((hc2.block mm (Nat.lt_of_lt_of_le Hm.out.lt hc1.size) (by intro e; injection e with e; exact Hh.out.n1 e.symm))).trans (hc1.block mm Hm.out.lt (by intro e; injection e with e; exact Hh.out.n1 e.symm))
      exact ⟨rfl, Hh.out.gone hb2 (Hm.out.heap hmm) (Nat.le_refl _) rfl (putAll_sec Hh.out.ok.S Hh.out.ok.ps Hh.out.sec) (putAll_len Hh.out.len Hh.out.ok.ps) Hh.out.ok.flush (hc.mono fun i _ e => e.elim (fun e => .inr (.inl e)) .inl)⟩
end Go.Proofs.Ytcgajfjlkojnlaa
