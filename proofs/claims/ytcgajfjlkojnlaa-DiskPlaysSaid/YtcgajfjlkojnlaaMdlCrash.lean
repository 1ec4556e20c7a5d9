/- What the model's Crash and Fail compute. -/
import Derived.Test.YtcgajfjlkojnlaaMdlTo
import Derived.Test.YtcgajfjlkojnlaaDskLeft
namespace Go.Proofs.Ytcgajfjlkojnlaa
open Go.RowKit

set_option maxHeartbeats 800000 in
theorem mdl_crash_any (B mb mm n : Nat) (av xv : Value) (D : Dsk) (F : Int → Option (List UInt8)) (w : World) (h : MdlAt w B mb mm n av xv D F) (hps : D.ps.length ≤ 2000000) (hn : n + D.ps.length < 1000000)
    (A : Option Addr) (ks : List Bool) (l c : Nat) (hl : ks.length = l) (hr : RdO w B A ks) :
    Calls Try.prog 29 #[.pointer (some ⟨mb, 0, none⟩), .slice A l c] w fun e w' => e = .returned (.tuple #[]) ∧ MdlTo w w' B mb mm n av xv D.ps.length (D.crash ks) := by
  subst hl
  have Hh := Lib.hid h
  have hc1 := h.cell 1 av rfl
  obtain ⟨Aa, ca, rfl, hca, Hga⟩ := own_form h.ats
  obtain ⟨Ax, cx, rfl, hcx, Hgx⟩ := own_form h.xs
  have hm0 := h.map
  have hks := hr.1
  have Hr := Lib.hid hr
  clear h hr
  go_enter Try.func29, Try.ntmps29
  go_wp2
  go_loopw [11] (fun si wr => ∃ i m : Nat, i ≤ D.ps.length ∧ m ≤ i ∧ si = .int .i64 i ∧ MapS wr mm (n + m) (putAll F (keptOf (D.ps.take i) ks)) ∧ Chg (fun x => x = mm) w wr) (fun si _ => D.ps.length - (intOf si).toNat)
  case atStart => exact ⟨0, 0, Nat.zero_le _, Nat.le_refl _, rfl, hm0, Chg.refl _ _⟩
  case round =>
    obtain ⟨i, m, hi, hmi, rfl, hm, hch⟩ := hrel
    have Hch := Lib.hid hch
    clear hc1 hm0
    have Hrest := Lib.hid (Hh.out.rest hch)
    by_cases hlt : i < D.ps.length
    · obtain ⟨ga, rfl, _⟩ := Hga (by omega)
      obtain ⟨gx, rfl, _⟩ := Hgx (by omega)
      have h1 := own_cell_at Hrest.out.2.1 i (by simpa using hlt)
      have h2 := own_cell_at Hrest.out.2.2 i (by simpa using hlt)
      have hpm : D.ps.getD i (0, []) ∈ D.ps := by simp [hlt]
      have hok := Hh.out.ok.ps _ hpm
      have hp : D.ps[i]? = some (D.ps.getD i (0, [])) := by simp [hlt]
      have hs := take_getD_succ hlt
      have hkp : keptOf (D.ps.take (i + 1)) ks = keptOf (D.ps.take i) ks ++ (if ks.getD i false = true then [D.ps.getD i (0, [])] else []) := by
        rw [hs, keptOf_snoc, List.length_take, Nat.min_eq_left (by omega)]
      rw [List.getElem?_map, hp] at h1 h2
      generalize D.ps.getD i (0, []) = p at h1 h2 hkp hok
      simp only [Option.map_some] at h1 h2
      have i0 : (0 : Int) ≤ (i : Int) := by omega
      have i1 : (i : Int) < (D.ps.length : Int) := by omega
      have hn2 : IntKind.i64.wrap ((i : Int) + 1) = (i : Int) + 1 := by rw [IntKind.wrap_i64]; omega
      have Hkp := Lib.hid hkp
      have Hm := Lib.hid hm
      have hkm := Hh.out.map.lt
      have hkB := Hh.out.le.2
      clear hpm hp hs hm hkp hch
      by_cases hik : i < ks.length
      · obtain ⟨kb, off, rfl, hkb, hkc⟩ := Hr.out.2 (by omega)
        have hk1 := hkc i hik
        rw [← World.cell?_of_block (a := ⟨kb, off + i, none⟩) (Hch.out.block kb (by omega) (show kb ≠ mm by omega))] at hk1
        have i2 : (i : Int) < (ks.length : Int) := by omega
        clear hkc hkb hkm
        generalize ks.getD i false = kd at hk1 Hkp
        cases kd
        · have Hk := Lib.hid (show keptOf (D.ps.take (i + 1)) ks = keptOf (D.ps.take i) ks by rw [Hkp.out, if_neg (by simp), List.append_nil])
          clear Hkp hok h2
          go_wp2
          go_roundw
          case rel => exact ⟨i + 1, m, by omega, by omega, by go_num, by rw [Hk.out]; exact Hm.out, Hch.out⟩
          case measure => simp [intOf]; omega
        · obtain ⟨w1, hst, hm1, hg1⟩ := (Hm.out.heap (w' := wr.drew) rfl).store (by omega) (p.1 : Int) p.2 (by have := hok.1; omega) (by have := hok.2; omega)
          have hc0 : wr.drew.cell? ⟨mb, 0, none⟩ = some (.map (some mm)) := by rw [cell_of_row wr.drew mb 0 _ _ _ Hrest.out.1]; rfl
          have hc2 : wr.drew.cell? ⟨mb, 2, none⟩ = some (.slice (some ⟨gx, 0, none⟩) D.ps.length cx) := by rw [cell_of_row wr.drew mb 2 _ _ _ Hrest.out.1]; rfl
          have h2' : wr.drew.cell? ⟨gx, i, none⟩ = some (str p.2) := h2
          have Hm1 := Lib.hid (show MapS w1 mm (n + (m + 1)) (putAll F (keptOf (D.ps.take (i + 1)) ks)) by rw [Hkp.out, if_pos rfl, putAll_snoc]; exact hm1)
          have Hc1 := Lib.hid ((Hch.out.trans (chg_grown hg1).ofDrew fun _ _ e => by injection e with e; exact e.symm : Chg (fun x => x = mm) w w1))
          clear hok hm1 hg1 h2 Hkp
          go_wp2
          refine wp_region_still_tail 12 (by kernel_rfl) (by kernel_rfl) ?_
          simp only [List.take_succ_cons, List.take_zero, List.drop_succ_cons, List.drop_zero]
          change wpStill _ _ wr.drew _ _ _
          repeat still_step
          refine wpStill_nil ?_
          change wpList _ _ _ _ _ wr.drew
          go_wp2
          go_roundw
          case rel => exact ⟨i + 1, m + 1, by omega, by omega, by go_num, Hm1.out, Hc1.out⟩
          case measure => simp [intOf]; omega
      · have i2 : ¬ (i : Int) < (ks.length : Int) := by omega
        have Hk := Lib.hid (show keptOf (D.ps.take (i + 1)) ks = keptOf (D.ps.take i) ks by
          rw [Hkp.out, List.getD_eq_getElem?_getD, List.getElem?_eq_none (by omega), if_neg (by simp), List.append_nil])
        clear Hkp hok h2 hkm
        go_wp2
        go_roundw
        case rel => exact ⟨i + 1, m, by omega, by omega, by go_num, by rw [Hk.out]; exact Hm.out, Hch.out⟩
        case measure => simp [intOf]; omega
    · obtain rfl : i = D.ps.length := by omega
      rw [List.take_length] at hm
      have Hm := Lib.hid hm
      clear hm hch
      go_wp2_with (first
        | (refine wpList_store_blk rfl 39 _ _ (by rfl) mb 1 (.slice none 0 0) (by rfl) (by rfl) (mcells mm (.slice Aa D.ps.length ca) (.slice Ax D.ps.length cx) D.f) 50 Hrest.out.1 [.slice none 0 0] (by rfl) 1 rfl size_ints (by show 1 + 1 ≤ 4; omega) (by intro u hu; simp at hu; subst hu; rfl) (mcells mm (.slice none 0 0) (.slice Ax D.ps.length cx) D.f) rfl ?_
           intro w1 hb1 hg1
           have Hb1 := Lib.hid hb1
           have Hg1 := Lib.hid hg1
           clear hb1 hg1)
        | (refine wpList_store_blk rfl 48 _ _ (by rfl) mb 2 (.slice none 0 0) (by rfl) (by rfl) (mcells mm (.slice none 0 0) (.slice Ax D.ps.length cx) D.f) 50 Hb1.out [.slice none 0 0] (by rfl) 1 rfl size_strs (by show 2 + 1 ≤ 4; omega) (by intro u hu; simp at hu; subst hu; rfl) (mcells mm (.slice none 0 0) (.slice none 0 0) D.f) rfl ?_
           intro w2 hb2 hg2))
      go_end0
      have hc1 := chg_grown Hg1.out
      have hc2 := chg_grown hg2
      have hc : Chg (fun x => x = mm ∨ x = mb) w w2 := ((Hch.out.mono fun _ _ e => .inl e).trans hc1 fun _ _ e => .inr (by injection e with e; exact e.symm)).trans hc2 fun _ _ e => .inr (by injection e with e; exact e.symm)
      have hmm : w2.heap[mm]? = wr.heap[mm]? := ((hc2.block mm (Nat.lt_of_lt_of_le Hm.out.lt hc1.size) (by intro e; injection e with e; exact Hh.out.n1 e.symm))).trans (hc1.block mm Hm.out.lt (by intro e; injection e with e; exact Hh.out.n1 e.symm))
      exact ⟨rfl, Hh.out.gone hb2 (Hm.out.heap hmm) (by omega) rfl (putAll_sec Hh.out.ok.S Hh.out.ok.ps.kept Hh.out.sec) (putAll_len Hh.out.len Hh.out.ok.ps.kept) (Hh.out.ok.crash ks) (hc.mono fun i _ e => e.elim (fun e => .inr (.inl e)) .inl)⟩
theorem mdl_fail_any (B mb mm n : Nat) (av xv : Value) (D : Dsk) (F : Int → Option (List UInt8)) (w : World) (h : MdlAt w B mb mm n av xv D F) :
    Calls Try.prog 30 #[.pointer (some ⟨mb, 0, none⟩)] w fun e w' => e = .returned (.tuple #[]) ∧ MdlTo w w' B mb mm n av xv 0 Dsk.failed := by
  have Hh := Lib.hid h
  have hmb := (h.lt (.inl rfl)).2
  have hBm := (h.lt (.inl rfl)).1
  have hmm := @run_makeMap Try.prog
  have H0 := Lib.hid (show (w.alloc (.map #[] 0)).heap[mb]? = some (.cells (mcells mm av xv D.f).toArray 50 (0, 0)) from (hp_old _ _ _ hmb).trans h.blk)
  clear h
  go_enter Try.func30, Try.ntmps30
  go_wp2_with (first
    | (refine wpList_store_blk rfl 47 _ _ (by rfl) mb 0 (.map (some w.heap.size)) (by rfl) (by rfl) (mcells mm av xv D.f) 50 H0.out [.map (some w.heap.size)] (by rfl) 1 rfl size_map (by show 0 + 1 ≤ 4; omega) (by intro u hu; simp at hu; subst hu; rfl) (mcells w.heap.size av xv D.f) rfl ?_
       intro w1 hb1 hg1
       have Hb1 := Lib.hid hb1
       have Hg1 := Lib.hid hg1
       clear hb1 hg1)
    | (refine wpList_store_blk rfl 39 _ _ (by rfl) mb 1 (.slice none 0 0) (by rfl) (by rfl) (mcells w.heap.size av xv D.f) 50 Hb1.out [.slice none 0 0] (by rfl) 1 rfl size_ints (by show 1 + 1 ≤ 4; omega) (by intro u hu; simp at hu; subst hu; rfl) (mcells w.heap.size (.slice none 0 0) xv D.f) rfl ?_
       intro w2 hb2 hg2
       have Hb2 := Lib.hid hb2
       have Hg2 := Lib.hid hg2
       clear hb2 hg2)
    | (refine wpList_store_blk rfl 48 _ _ (by rfl) mb 2 (.slice none 0 0) (by rfl) (by rfl) (mcells w.heap.size (.slice none 0 0) xv D.f) 50 Hb2.out [.slice none 0 0] (by rfl) 1 rfl size_strs (by show 2 + 1 ≤ 4; omega) (by intro u hu; simp at hu; subst hu; rfl) (mcells w.heap.size (.slice none 0 0) (.slice none 0 0) D.f) rfl ?_
       intro w3 hb3 hg3
       have Hb3 := Lib.hid hb3
       have Hg3 := Lib.hid hg3
       clear hb3 hg3)
    | (refine wpList_store_blk rfl 4 _ _ (by rfl) mb 3 (.bool true) (by rfl) (by rfl) (mcells w.heap.size (.slice none 0 0) (.slice none 0 0) D.f) 50 Hb3.out [.bool true] (by rfl) 1 rfl size_bool (by show 3 + 1 ≤ 4; omega) (by intro u hu; simp at hu; subst hu; rfl) (mcells w.heap.size (.slice none 0 0) (.slice none 0 0) true) rfl ?_
       intro w4 hb4 hg4))
  go_end0
  have hm0 := mapS_new w
  have hc : Chg (fun x => x = mb) (w.alloc (.map #[] 0)) w4 := (((chg_grown Hg1.out).trans (chg_grown Hg2.out) fun _ _ e => e).trans (chg_grown Hg3.out) fun _ _ e => e).trans (chg_grown hg4) (fun _ _ e => e) |>.mono fun _ _ e => by injection e with e; exact e.symm
  have hcw : Chg (fun x => x = mb) w w4 := ((chg_below (fun x => x = mb) (below1 w _)).trans hc fun _ _ e => e)
  exact ⟨rfl, w.heap.size, 0, _, _, _, ⟨hb4, hm0.heap (hc.block _ hm0.lt (by omega)), World.ownsRow_nil _ _ _ _, World.ownsRow_nil _ _ _ _, ⟨hBm, by omega⟩, by omega, by simp [Value.ownBlock], by simp [Value.ownBlock], by simp [Value.ownBlock], by simp [Value.ownBlock], fun k h => by simp [Value.ownBlock] at h,
    fun k hk => sec_zero hk, fun k x h => by simp at h, Dsk.failed_ok⟩, Nat.zero_le _, hcw.mono fun _ _ e => .inl e, fun j hj => by
      rcases hj with e | e | e | e
      · exact .inl (.inl e)
      · exact .inr (by omega)
      · simp [Value.ownBlock] at e
      · simp [Value.ownBlock] at e⟩
end Go.Proofs.Ytcgajfjlkojnlaa
