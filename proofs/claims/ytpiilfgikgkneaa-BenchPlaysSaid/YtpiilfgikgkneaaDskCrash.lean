/- What disk.Crash computes. -/
import Derived.Test.YtpiilfgikgkneaaDskOps
import Derived.Test.YtpiilfgikgkneaaBools
namespace Go.Proofs.Ytpiilfgikgkneaa
open Go.RowKit

/-- One of the pending writes, out of their row. -/
theorem wcells_get {ps : List (Nat × List UInt8)} (h : WOk ps) {i : Nat} (hi : i < ps.length) (j : Nat) (hj : j < 33) : (wcells ps)[i * 33 + j]? = (wcell (ps.getD i (0, [])))[j]? := by
  induction ps generalizing i with
  | nil => simp at hi
  | cons p ps ih =>
    have hl : (wcell p).length = 33 := wcell_len (h p (List.mem_cons_self ..)).2
    have e : wcells (p :: ps) = wcell p ++ wcells ps := by simp [wcells]
    rw [e]
    cases i with
    | zero => rw [Nat.zero_mul, Nat.zero_add, List.getElem?_append_left (by omega)]; rfl
    | succ i =>
      rw [List.getElem?_append_right (by omega), hl, show (i + 1) * 33 + j - 33 = i * 33 + j by omega, ih h.cons (by simpa using hi)]
      rfl
theorem own_cell_at {w : World} {B g n cap : Nat} {e : TypeId} {size : Nat} {xs : List Value} (h : w.ownsRow B e size (.slice (some ⟨g, 0, none⟩) n cap) n xs) (j : Nat) (hj : j < xs.length) : w.cell? ⟨g, j, none⟩ = xs[j]? := by
  rcases h.2 with ⟨h1, _⟩ | ⟨g', cap', cur, h1, h2, h3, h4, h5, h6, h7⟩
  · cases h1
  · injection h1 with h8 _ h9
    injection h8 with h8
    injection h8 with h8 _ _
    subst h8 h9
    have hx := h.1
    rw [cell_of_row w g j cur e (0, 0) h3, ← h7, List.getElem?_take, if_pos (by omega), Array.getElem?_toList]
theorem range_pend {w : World} {B g n cap : Nat} {ps : List (Nat × List UInt8)} (h : w.ownsRow B 79 33 (.slice (some ⟨g, 0, none⟩) n cap) n (wcells ps)) (hok : WOk ps) {i : Nat} (hi : i < ps.length) : w.rangeAt g (i * 33) (wcell (ps.getD i (0, []))) := fun j v hj => by
  have hm : ps.getD i (0, []) ∈ ps := by simp [hi]
  have hl := wcell_len (hok _ hm).2
  have hj33 : j < 33 := by have := (List.getElem?_eq_some_iff.1 hj).1; omega
  have hx : (wcells ps)[i * 33 + j]? = some v := (wcells_get hok hi j hj33).trans hj
  rw [own_cell_at h _ (List.getElem?_eq_some_iff.1 hx).1]
  exact hx

theorem own_form {w : World} {B n : Nat} {e : TypeId} {size : Nat} {v : Value} {xs : List Value} (h : w.ownsRow B e size v n xs) : ∃ A c, v = .slice A n c ∧ n ≤ c ∧ (0 < n → ∃ g, A = some ⟨g, 0, none⟩ ∧ B ≤ g) := by
  rcases h.2 with ⟨rfl, rfl⟩ | ⟨g, cap, cur, rfl, hB, _, hc, _⟩
  · exact ⟨none, 0, rfl, Nat.le_refl _, fun h => by omega⟩
  · exact ⟨_, cap, rfl, hc, fun _ => ⟨g, rfl, hB⟩⟩
set_option maxHeartbeats 800000 in
theorem dsk_crash_any (B b : Nat) (pv : Value) (D : Dsk) (A : Option Addr) (ks : List Bool) (n c : Nat) (w : World) (h : DskAt w B b pv D) (hn : ks.length = n) (hr : RdO w w.heap.size A ks) (hnb : ∀ a, 0 < ks.length → A = some a → a.block ≠ b) (hps : D.ps.length ≤ 2000000) :
    Calls Try.prog 43 #[.pointer (some ⟨b, 0, none⟩), .slice A n c] w fun e w' => e = .returned (.tuple #[]) ∧ DskAt w' B b (.slice none 0 0) (D.crash ks) ∧ Chg (DF b pv) w w' := by
  subst hn
  have Hh := Lib.hid h
  have HS := Lib.hid h.ok.S
  have HN := Lib.hid h.ok.now
  have Hps := Lib.hid h.ok.ps
  have hcp := cell_dpv h.blk h.ok.S h.ok.now
  obtain ⟨P, pc, rfl, hpc, Hpg⟩ := own_form h.own
  have Hmin := Lib.hid (keptOf_min D.ps ks)
  have hks := hr.1
  obtain ⟨m, hm⟩ : ∃ m, min ks.length D.ps.length = m := ⟨_, rfl⟩
  rw [hm] at Hmin
  have i0 : (0 : Int) ≤ (m : Int) := by omega
  have i1 : (m : Int) ≤ (pc : Int) := by omega
  have hmif : (if D.ps.length < ks.length then (D.ps.length : Int) else (ks.length : Int)) = (m : Int) := by split <;> omega
  have hmx : max (m : Int) 0 = (m : Int) := by omega
  have hm1 : m ≤ ks.length := by omega
  have hm2 : m ≤ D.ps.length := by omega
  clear h
  go_enter Try.func43, Try.ntmps43
  go_wp2_with fail
  go_quiet (fail)
  clear hmif hmx hm hcp
  go_wp2
  go_loopw [20] (fun i wr => ∃ k : Nat, k ≤ m ∧ i = .int .i64 k ∧ wr.heap[b]? = some (.cells (dcells (nowOf D.S (keptOf (D.ps.take k) ks)) D.now (.slice P D.ps.length pc) D.f).toArray 76 (0, 0)) ∧ Chg (fun j => j = b) w wr) (fun i _ => m - (intOf i).toNat)
  case atStart => exact ⟨0, Nat.zero_le _, rfl, Hh.out.blk, (Chg.refl _ _).drewN nq⟩
  case round =>
    obtain ⟨k, hk, rfl, hbk, hch⟩ := hrel
    have HSk := Lib.hid (show (nowOf D.S (keptOf (D.ps.take k) ks)).length = 1664 from nowOf_len HS.out (WOk.kept (fun q hq => Hps.out q (List.mem_of_mem_take hq))))
    by_cases hlt : k < m
    · obtain ⟨g, rfl, hBg⟩ := Hpg (by omega)
      have hgb : g ≠ b := fun e => Hh.out.ne (by rw [← e]; rfl)
      have hownr : wr.ownsRow B 79 33 (.slice (some ⟨g, 0, none⟩) D.ps.length pc) D.ps.length (wcells D.ps) := own_chg Hh.out.own hch fun j hj e => hgb (by injection hj with hj; exact hj.trans e)
      have hrp := range_pend hownr Hps.out (i := k) (by omega)
      have hpm : D.ps.getD k (0, []) ∈ D.ps := by simp [show k < D.ps.length by omega]
      obtain ⟨hp1, hp2⟩ := Hps.out _ hpm
      obtain ⟨kb, off, rfl, hkb, hkc⟩ := hr.2 (by omega)
      have hkb2 : kb ≠ b := hnb _ (by omega) rfl
      have hk1 := hkc k (by omega)
      rw [← World.cell?_of_block (a := ⟨kb, off + k, none⟩) (hch.block kb hkb hkb2)] at hk1
      have hkblt : kb < wr.heap.size := Nat.lt_of_lt_of_le hkb hch.size
      have hblt : b < wr.heap.size := (Array.getElem?_eq_some_iff.1 hbk).1
      have Hsn := Lib.hid (show keptOf (D.ps.take (k + 1)) ks = keptOf (D.ps.take k) ks ++ (if ks.getD k false = true then [D.ps.getD k (0, [])] else []) from keptOf_succ (by omega) (by omega))
      have hHwc := wcell_len hp2
      generalize D.ps.getD k (0, []) = p at hrp hp1 hp2 Hsn hHwc
      obtain ⟨at1, x⟩ := p
      have hwc : wcell (at1, x) = Value.int .i64 (at1 : Int) :: x.map bv := rfl
      have Hrp := Lib.hid hrp
      have Hbk := Lib.hid hbk
      have Hch := Lib.hid hch
      have Hwc := Lib.hid hwc
      have Hwl := Lib.hid hHwc
      have Hx := Lib.hid (show x.length = 32 from hp2)
      have Hone := Lib.hid (show ∀ u ∈ wcell (at1, x), u.oneCell' = true from fun u hu => by
        rcases List.mem_cons.1 hu with rfl | hu
        · rfl
        · exact map_bv_one u hu)
      have k0 : (0 : Int) ≤ (k : Int) := by omega
      have k1 : (k : Int) < (m : Int) := by omega
      have k2 : (k : Int) < (ks.length : Int) := by omega
      have a0 : (0 : Int) ≤ (at1 : Int) := by omega
      have a1 : (at1 : Int) < 52 := by have : at1 < 52 := hp1; omega
      clear hbk hch hrp hownr hkc hpm hwc hHwc hp2 hpc
      generalize ks.getD k false = kd at hk1 Hsn
      cases kd
      · have Hk := Lib.hid (show keptOf (D.ps.take (k + 1)) ks = keptOf (D.ps.take k) ks by rw [Hsn.out, if_neg (by simp), List.append_nil])
        clear Hsn
        go_wp2_with (first
          | (refine wpList_load_mid rfl 79 _ (by rfl) g (k * 33) (by rfl) (wcell (at1, x)) _ Hrp.out Try.underlying79 rfl (by rw [Hwl.out]; exact (by kernel_rfl : (Try.prog.info? 79).map (·.size) = some 33)) ?_)
          | (refine wpList_store_blk rfl 79 _ _ (by rfl) wr.heap.size 0 (.agg (wcell (at1, x)).toArray) (by rfl) (by rfl) (Value.int .i64 0 :: List.replicate 32 (Value.int .u8 0)) 79 (heap_alloc_new _ _) (wcell (at1, x)) (by rfl) 33 Hwl.out (by kernel_rfl) (by decide) Hone.out (wcell (at1, x)) (spl_all (by rw [Hwl.out]; rfl)) ?_
             intro w1 h1 hg1
             have hB1 : Below wr.heap.size wr w1 := (below1 wr _).grown hg1 (by simp) (fun j hj => by injection hj with hj; omega)
             have hk3 := (hB1.cell (p := ⟨kb, off + k, none⟩) hkblt).trans hk1
             have Hb1 := Lib.hid ((hB1.block b hblt).trans Hbk.out)
             have HB1 := Lib.hid hB1
             have H1 := Lib.hid h1
             have Hbne := Lib.hid (show wr.heap.size ≠ b by omega)
             clear h1 hg1 hB1))
        go_roundw
        case rel => exact ⟨k + 1, by omega, by go_num, by rw [Hk.out]; exact Hb1.out, Hch.out.trans (chg_below (fun j => j = b) HB1.out) fun _ _ e => e⟩
        case measure => simp [intOf]; omega
      · have Hk := Lib.hid (show nowOf D.S (keptOf (D.ps.take (k + 1)) ks) = putAt (nowOf D.S (keptOf (D.ps.take k) ks)) at1 x by rw [Hsn.out, if_pos rfl, nowOf_snoc])
        clear Hsn
        go_wp2_with (first
          | (refine wpList_load_mid rfl 79 _ (by rfl) g (k * 33) (by rfl) (wcell (at1, x)) _ Hrp.out Try.underlying79 rfl (by rw [Hwl.out]; exact (by kernel_rfl : (Try.prog.info? 79).map (·.size) = some 33)) ?_)
          | (refine wpList_store_blk rfl 79 _ _ (by rfl) wr.heap.size 0 (.agg (wcell (at1, x)).toArray) (by rfl) (by rfl) (Value.int .i64 0 :: List.replicate 32 (Value.int .u8 0)) 79 (heap_alloc_new _ _) (wcell (at1, x)) (by rfl) 33 Hwl.out (by kernel_rfl) (by decide) Hone.out (wcell (at1, x)) (spl_all (by rw [Hwl.out]; rfl)) ?_
             intro w1 h1 hg1
             have hB1 : Below wr.heap.size wr w1 := (below1 wr _).grown hg1 (by simp) (fun j hj => by injection hj with hj; omega)
             have hk3 := (hB1.cell (p := ⟨kb, off + k, none⟩) hkblt).trans hk1
             have Hb1 := Lib.hid ((hB1.block b hblt).trans Hbk.out)
             have HB1 := Lib.hid hB1
             have H1 := Lib.hid h1
             have Hbne := Lib.hid (show wr.heap.size ≠ b by omega)
             clear h1 hg1 hB1))
        have Hh1 := Lib.hid (show w1.drew.heap[wr.heap.size]? = some (.cells (wcell (at1, x)).toArray 79 (0, 0)) from H1.out)
        generalize wr.heap.size = G at Hh1 Hbne ⊢
        refine wp_region_still_tail 8 (by kernel_rfl) (by kernel_rfl) ?_
        simp only [List.take_succ_cons, List.take_zero, List.drop_succ_cons, List.drop_zero]
        change wpStill _ _ w1.drew _ _ _
        have hc0 : w1.drew.cell? ⟨G, 0, none⟩ = some (.int .i64 (at1 : Int)) := by rw [cell_of_row _ _ _ _ _ _ Hh1.out]; rfl
        have hr1 : w1.drew.rangeAt G 1 (x.map bv) := fun j v hj => by rw [cell_of_row _ _ _ _ _ _ Hh1.out, Nat.add_comm]; simpa [wcell] using hj
        have Hr1 := Lib.hid hr1
        clear hr1
        still_step
        still_step
        still_step
        still_step
        refine wpStill_load_mid rfl 72 _ (by rfl) G 1 (by rfl) (x.map bv) _ Hr1.out Try.underlying72 rfl (by rw [List.length_map, Hx.out]; exact size_sec) ?_
        repeat still_step
        refine wpStill_nil ?_
        change wpList _ _ _ _ _ w1.drew
        refine wpList_store_blk rfl 72 _ _ (by rfl) b (at1 * 32) (.agg (x.map bv).toArray) (by rfl) (by rfl) (dcells (nowOf D.S (keptOf (D.ps.take k) ks)) D.now (.slice (some ⟨g, 0, none⟩) D.ps.length pc) D.f) 76 Hb1.out (x.map bv) (by rfl) 32 (by rw [List.length_map, Hx.out]) size_sec (by rw [dcells_len HSk.out HN.out]; omega) map_bv_one
          (dcells (putAt (nowOf D.S (keptOf (D.ps.take k) ks)) at1 x) D.now (.slice (some ⟨g, 0, none⟩) D.ps.length pc) D.f) (spl_Ssec HSk.out hp1 Hx.out) ?_
        intro w2 hb2 hg2
        have Hb2 := Lib.hid hb2
        have Hg2 := Lib.hid hg2
        clear hb2 hg2 hc0
        go_wp2
        go_roundw
        case rel => exact ⟨k + 1, by omega, by go_num, by rw [Hk.out]; exact Hb2.out, (Hch.out.trans (chg_below (fun j => j = b) HB1.out) fun _ _ e => e).trans (chg_grown Hg2.out).ofDrew fun i _ e => by injection e with e; exact e.symm⟩
        case measure => simp [intOf]; omega
    · obtain rfl : k = m := by omega
      rw [Hmin.out] at hbk HSk
      have Hbk := Lib.hid hbk
      have Hra := Lib.hid (range_S hbk)
      have Hl := Lib.hid (dcells_len HSk.out HN.out (.slice P D.ps.length pc) D.f)
      have Hl2 := Lib.hid (dcells_len HSk.out HSk.out (.slice P D.ps.length pc) D.f)
      have Hch := Lib.hid hch
      have HE : Hid (nowOf D.S (keptOf D.ps ks) = (D.crash ks).S) := rfl
      generalize nowOf D.S (keptOf D.ps ks) = S' at HSk Hbk Hra Hl Hl2 HE
      clear hbk hch
      go_wp2_with (first
        | (refine wpList_load_mid rfl 73 _ (by rfl) b 0 (by rfl) (S'.map bv) _ Hra.out Try.underlying73 rfl (by rw [List.length_map, HSk.out]; exact size_arr) ?_)
        | (refine wpList_store_blk rfl 73 _ _ (by rfl) b 1664 (.agg (S'.map bv).toArray) (by rfl) (by rfl) (dcells S' D.now (.slice P D.ps.length pc) D.f) 76 Hbk.out (S'.map bv) (by rfl) 1664 (by rw [List.length_map, HSk.out]) size_arr (by rw [Hl.out]; omega) map_bv_one (dcells S' S' (.slice P D.ps.length pc) D.f) (spl_N HSk.out (by rw [HSk.out, HN.out])) ?_
           intro w1 hb1 hg1
           have Hb1 := Lib.hid hb1
           have Hg1 := Lib.hid hg1
           clear hb1 hg1)
        | (refine wpList_store_blk rfl 74 _ _ (by rfl) b 3328 (.slice none 0 0) (by rfl) (by rfl) (dcells S' S' (.slice P D.ps.length pc) D.f) 76 Hb1.out [.slice none 0 0] (by rfl) 1 (by rfl) size_pend (by rw [Hl2.out]; omega) (by intro u hu; simp at hu; subst hu; rfl) (dcells S' S' (.slice none 0 0) D.f) (spl_pv HSk.out HSk.out) ?_; intro w2 hb2 hg2))
      go_end0
      have hc2 : Chg (fun j => j = b) w w2 := ((Hch.out.trans (chg_grown Hg1.out) fun i _ e => by injection e with e; exact e.symm).trans (chg_grown hg2) fun i _ e => by injection e with e; exact e.symm)
      exact ⟨rfl, ⟨by rw [Dsk.crash_now, ← HE.out]; exact hb2, World.ownsRow_nil _ _ _ _, Hh.out.le, by simp [Value.ownBlock], Hh.out.ok.crash ks⟩, hc2.mono fun i _ e => .inl e⟩
end Go.Proofs.Ytpiilfgikgkneaa
