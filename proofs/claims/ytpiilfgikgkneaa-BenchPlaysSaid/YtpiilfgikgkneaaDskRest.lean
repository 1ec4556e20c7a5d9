/- What disk.Read, Flush, Fail and a Write that may not be compute. -/
import Derived.Test.YtpiilfgikgkneaaDskOps
import Derived.Test.YtpiilfgikgkneaaCloneB
namespace Go.Proofs.Ytpiilfgikgkneaa
open Go.RowKit

section
variable (B b : Nat) (pv : Value) (D : Dsk) (w : World) (h : DskAt w B b pv D)
include h
theorem dsk_write_no (k : Int) (A : Option Addr) (n c : Nat) (hk : -9223372036854775808 ≤ k ∧ k ≤ 9223372036854775807) (hn : n ≤ 140737488355328) (hE : takeE D.f k n ≠ 0) :
    Calls Try.prog 40 #[.pointer (some ⟨b, 0, none⟩), .int .i64 k, .slice A n c] w fun e w' => e = .returned (.int .i64 (takeE D.f k n)) ∧ w' = w := by
  have C := Lib.hid (dsk_take_any B b pv D w h k A n c hk hn)
  clear h
  generalize takeE D.f k n = E at C hE ⊢
  have e2 : (E != 0) = true := by rw [bne_iff_ne]; exact hE
  clear hE
  go_enter Try.func40, Try.ntmps40
  go_wp2_with fail
  refine C.out.mono ?_
  rintro e w' ⟨rfl, rfl⟩
  go_wp2
  go_ret
  exact ⟨rfl, rfl⟩
theorem dsk_flush_no (hf : D.f = true) : Calls Try.prog 48 #[.pointer (some ⟨b, 0, none⟩)] w fun e w' => e = .returned (.int .i64 5) ∧ w' = w := by
  have hc := cell_df h.blk h.ok.S h.ok.now
  rw [hf] at hc
  clear h
  go_enter Try.func48, Try.ntmps48
  go_wp2
  go_ret
  exact ⟨rfl, rfl⟩
theorem dsk_flush_ok (hf : D.f = false) : Calls Try.prog 48 #[.pointer (some ⟨b, 0, none⟩)] w fun e w' => e = .returned (.int .i64 0) ∧ DskAt w' B b (.slice none 0 0) D.flush ∧ Chg (DF b pv) w w' := by
  have Hh := Lib.hid h
  have HS := Lib.hid h.ok.S
  have HN := Lib.hid h.ok.now
  have Hc := Lib.hid (cell_df h.blk h.ok.S h.ok.now)
  have Hr := Lib.hid (range_N h.blk h.ok.S)
  have hcf := cell_df h.blk h.ok.S h.ok.now
  rw [hf] at hcf
  clear h
  go_enter Try.func48, Try.ntmps48
  go_wp2_with (first
    | (refine wpList_load_mid rfl 73 _ (by rfl) b 1664 (by rfl) (D.now.map bv) _ Hr.out Try.underlying73 rfl (by rw [List.length_map, HN.out]; exact size_arr) ?_)
    | (refine wpList_store_blk rfl 73 _ _ (by rfl) b 0 (.agg (D.now.map bv).toArray) (by rfl) (by rfl) (dcells D.S D.now pv D.f) 76 Hh.out.blk (D.now.map bv) (by rfl) 1664 (by rw [List.length_map, HN.out]) size_arr (by rw [dcells_len HS.out HN.out]; omega) map_bv_one (dcells D.now D.now pv D.f) (spl_S (by rw [HS.out, HN.out])) ?_; intro w1 hb1 hg1
       have Hb1 := Lib.hid hb1
       have Hg1 := Lib.hid hg1
       clear hb1 hg1 hcf)
    | (refine wpList_store_blk rfl 74 _ _ (by rfl) b 3328 (.slice none 0 0) (by rfl) (by rfl) (dcells D.now D.now pv D.f) 76 Hb1.out [.slice none 0 0] (by rfl) 1 (by rfl) size_pend (by rw [dcells_len HN.out HN.out]; omega) (by intro u hu; simp at hu; subst hu; rfl) (dcells D.now D.now (.slice none 0 0) D.f) (spl_pv HN.out HN.out) ?_; intro w2 hb2 hg2))
  go_ret
  exact ⟨rfl, ⟨hb2, World.ownsRow_nil _ _ _ _, Hh.out.le, by simp [Value.ownBlock], Hh.out.ok.flush⟩,
    ((chg_grown Hg1.out).trans (chg_grown hg2) fun _ _ e => e).mono fun i _ e => .inl (by injection e with e; exact e.symm)⟩
theorem dsk_fail_any : Calls Try.prog 46 #[.pointer (some ⟨b, 0, none⟩)] w fun e w' => e = .returned (.tuple #[]) ∧ DskAt w' B b (.slice none 0 0) Dsk.failed ∧ Chg (DF b pv) w w' := by
  have Hh := Lib.hid h
  have HS := Lib.hid h.ok.S
  have HN := Lib.hid h.ok.now
  clear h
  have H := Lib.hid (show ∀ w' : World, w'.heap[b]? = some (.cells (dcells (List.replicate 1664 0) (List.replicate 1664 0) (.slice none 0 0) true).toArray 76 (0, 0)) → DskAt w' B b (.slice none 0 0) Dsk.failed from
    fun w' hb => ⟨hb, World.ownsRow_nil _ _ _ _, Hh.out.le, by simp [Value.ownBlock], Dsk.failed_ok⟩)
  have hbuild := build_failed
  have Hl := Lib.hid (dcells_len (List.length_replicate (n := 1664) (a := (0 : UInt8))) (List.length_replicate (n := 1664) (a := (0 : UInt8))) (.slice none 0 0) true)
  have H1 := Lib.hid (show ∀ u ∈ dcells (List.replicate 1664 0) (List.replicate 1664 0) (.slice none 0 0) true, u.oneCell' = true from fun u hu => by
    unfold dcells at hu
    rcases List.mem_append.1 hu with h | h
    · rcases List.mem_append.1 h with h | h <;> exact map_bv_one u h
    · rcases List.mem_cons.1 h with rfl | h
      · rfl
      · rw [List.mem_singleton.1 h]; rfl)
  generalize hC : dcells (List.replicate 1664 0) (List.replicate 1664 0) (.slice none 0 0) true = C at H hbuild Hl H1
  clear hC
  go_enter Try.func46, Try.ntmps46
  go_wp2_with (first
    | ((refine wpList_build_run rfl 76 #[(3, .const (.bool true))] (by rfl) #[(3, .bool true)] (by simp [Act.eval]) (.agg C.toArray) (hbuild _) ?_))
    | (refine wpList_store_blk rfl 76 _ _ (by rfl) b 0 (.agg C.toArray) (by rfl) (by rfl) (dcells D.S D.now pv D.f) 76 Hh.out.blk C (by rfl) 3330 Hl.out size_dsk (by rw [dcells_len HS.out HN.out]; omega) H1.out C (spl_all (by rw [Hl.out, dcells_len HS.out HN.out])) ?_; intro w1 hb1 hg1))
  go_end0
  exact ⟨rfl, H.out _ hb1, (chg_grown hg1).mono fun i _ e => .inl (by injection e with e; exact e.symm)⟩
theorem dsk_read_no (k : Int) (hk : -9223372036854775808 ≤ k ∧ k ≤ 9223372036854775807) (hE : reachE D.f k ≠ 0) :
    Calls Try.prog 44 #[.pointer (some ⟨b, 0, none⟩), .int .i64 k] w fun e w' => e = .returned (.tuple #[.slice none 0 0, .int .i64 (reachE D.f k)]) ∧ w' = w := by
  have C := Lib.hid (dsk_reach_any B b pv D w h k hk)
  clear h
  generalize reachE D.f k = E at C hE ⊢
  have e2 : (E != 0) = true := by rw [bne_iff_ne]; exact hE
  clear hE
  go_enter Try.func44, Try.ntmps44
  go_wp2_with fail
  refine C.out.mono ?_
  rintro e w' ⟨rfl, rfl⟩
  go_wp2
  go_ret2
  exact ⟨rfl, rfl⟩
theorem dsk_read_ok (k : Nat) (hk : k < 52) (hf : D.f = false) :
    Calls Try.prog 44 #[.pointer (some ⟨b, 0, none⟩), .int .i64 (k : Int)] w fun e w' => ∃ v, e = .returned (.tuple #[v, .int .i64 0]) ∧ OwB 5 w' w.heap.size v (secAt D.now k) ∧ Below w.heap.size w w' := by
  have C := Lib.hid (dsk_reach_any B b pv D w h (k : Int) (by omega))
  have hE : reachE D.f (k : Int) = 0 := by unfold reachE; rw [hf, if_neg (by simp), if_neg (by omega)]
  rw [hE] at C
  have hlt := h.lt
  have hl : (secAt D.now k).length = 32 := secAt_len (by rw [h.ok.now]; omega)
  have Hr := Lib.hid (show RdB w w.heap.size (some ⟨b, 1664 + k * 32, none⟩) (secAt D.now k) from ⟨by omega, fun _ => ⟨b, _, rfl, h.lt, fun j hj => by
    have := range_sec (k := k) (range_N h.blk h.ok.S) j (bv ((secAt D.now k).getD j 0)) (by simp [hj])
    exact this⟩⟩)
  have CC := Lib.hid (fun c => clone_any (some ⟨b, 1664 + k * 32, none⟩) (secAt D.now k) 32 c w hl.symm (by omega) Hr.out)
  clear h hE hl Hr
  have k0 : (0 : Int) ≤ (k : Int) := by omega
  have k1 : (k : Int) < 52 := by omega
  go_enter Try.func44, Try.ntmps44
  go_wp2_with fail
  refine C.out.mono ?_
  rintro e w' ⟨rfl, rfl⟩
  go_wp2_with fail
  refine (CC.out _).mono ?_
  rintro e w1 ⟨v, rfl, ho, hb⟩
  go_wp2
  go_ret2
  exact ⟨v, rfl, ho, hb⟩
end
end Go.Proofs.Ytpiilfgikgkneaa
