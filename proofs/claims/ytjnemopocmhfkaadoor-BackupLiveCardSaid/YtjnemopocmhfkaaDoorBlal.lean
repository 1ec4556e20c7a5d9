/- Texts put together: DskRest, PartsOwn, RefCrc. -/
import Derived.Test.YtjnemopocmhfkaaDoorBlaj
import Derived.Test.YtjnemopocmhfkaaDoorBlaf
import Derived.Test.YtjnemopocmhfkaaDoorBlah
import Derived.Test.YtjnemopocmhfkaaDoorBlab
import Derived.Test.YtjnemopocmhfkaaDoorBlad
import Derived.Deep.DeepMust
section
namespace Go.Proofs.YtjnemopocmhfkaaDoor
open Go.RowKit

section
variable (B b : Nat) (pv : Value) (D : Dsk) (w : World) (h : DskAt w B b pv D)
include h
theorem dsk_write_no (k : Int) (A : Option Addr) (n c : Nat) (hk : -9223372036854775808 ≤ k ∧ k ≤ 9223372036854775807) (hn : n ≤ 140737488355328) (hE : takeE D.f k n ≠ 0) :
    Calls Tryd.prog 54 #[.pointer (some ⟨b, 0, none⟩), .int .i64 k, .slice A n c] w fun e w' => e = .returned (.int .i64 (takeE D.f k n)) ∧ w' = w := by
  have C := Lib.hid (dsk_take_any B b pv D w h k A n c hk hn)
  clear h
  generalize takeE D.f k n = E at C hE ⊢
  have e2 : (E != 0) = true := by rw [bne_iff_ne]; exact hE
  clear hE
  go_enter Tryd.func54, Tryd.ntmps54
  go_wp2_with fail
  refine C.out.mono ?_
  rintro e w' ⟨rfl, rfl⟩
  go_wp2
  go_ret
  exact ⟨rfl, rfl⟩
theorem dsk_flush_no (hf : D.f = true) : Calls Tryd.prog 46 #[.pointer (some ⟨b, 0, none⟩)] w fun e w' => e = .returned (.int .i64 5) ∧ w' = w := by
  have hc := cell_df h.blk h.ok.S h.ok.now
  rw [hf] at hc
  clear h
  go_enter Tryd.func46, Tryd.ntmps46
  go_wp2
  go_ret
  exact ⟨rfl, rfl⟩
theorem dsk_flush_ok (hf : D.f = false) : Calls Tryd.prog 46 #[.pointer (some ⟨b, 0, none⟩)] w fun e w' => e = .returned (.int .i64 0) ∧ DskAt w' B b (.slice none 0 0) D.flush ∧ Chg (DF b pv) w w' := by
  have Hh := Lib.hid h
  have HS := Lib.hid h.ok.S
  have HN := Lib.hid h.ok.now
  have Hc := Lib.hid (cell_df h.blk h.ok.S h.ok.now)
  have Hr := Lib.hid (range_N h.blk h.ok.S)
  have hcf := cell_df h.blk h.ok.S h.ok.now
  rw [hf] at hcf
  clear h
  go_enter Tryd.func46, Tryd.ntmps46
  go_wp2_with (first
    | (refine wpList_load_mid rfl 75 _ (by rfl) b 1664 (by rfl) (D.now.map bv) _ Hr.out Tryd.underlying75 rfl (by rw [List.length_map, HN.out]; exact size_arr) ?_)
    | (refine wpList_store_blk rfl 75 _ _ (by rfl) b 0 (.agg (D.now.map bv).toArray) (by rfl) (by rfl) (dcells D.S D.now pv D.f) 78 Hh.out.blk (D.now.map bv) (by rfl) 1664 (by rw [List.length_map, HN.out]) size_arr (by rw [dcells_len HS.out HN.out]; omega) map_bv_one (dcells D.now D.now pv D.f) (spl_S (by rw [HS.out, HN.out])) ?_; intro w1 hb1 hg1
       have Hb1 := Lib.hid hb1
       have Hg1 := Lib.hid hg1
       clear hb1 hg1 hcf)
    | (refine wpList_store_blk rfl 76 _ _ (by rfl) b 3328 (.slice none 0 0) (by rfl) (by rfl) (dcells D.now D.now pv D.f) 78 Hb1.out [.slice none 0 0] (by rfl) 1 (by rfl) size_pend (by rw [dcells_len HN.out HN.out]; omega) (by intro u hu; simp at hu; subst hu; rfl) (dcells D.now D.now (.slice none 0 0) D.f) (spl_pv HN.out HN.out) ?_; intro w2 hb2 hg2))
  go_ret
  exact ⟨rfl, ⟨hb2, World.ownsRow_nil _ _ _ _, Hh.out.le, by simp [Value.ownBlock], Hh.out.ok.flush⟩,
    ((chg_grown Hg1.out).trans (chg_grown hg2) fun _ _ e => e).mono fun i _ e => .inl (by injection e with e; exact e.symm)⟩
theorem dsk_fail_any : Calls Tryd.prog 37 #[.pointer (some ⟨b, 0, none⟩)] w fun e w' => e = .returned (.tuple #[]) ∧ DskAt w' B b (.slice none 0 0) Dsk.failed ∧ Chg (DF b pv) w w' := by
  have Hh := Lib.hid h
  have HS := Lib.hid h.ok.S
  have HN := Lib.hid h.ok.now
  clear h
  have H := Lib.hid (show ∀ w' : World, w'.heap[b]? = some (.cells (dcells (List.replicate 1664 0) (List.replicate 1664 0) (.slice none 0 0) true).toArray 78 (0, 0)) → DskAt w' B b (.slice none 0 0) Dsk.failed from
    fun w' hb => ⟨hb, World.ownsRow_nil _ _ _ _, Hh.out.le, by simp [Value.ownBlock], Dsk.failed_ok⟩)
  have hbuild := build_failed
  have Hl := Lib.hid (dcells_len (List.length_replicate (n := 1664) (a := (0 : UInt8))) (List.length_replicate (n := 1664) (a := (0 : UInt8))) (.slice none 0 0) true)
  have H1 := Lib.hid (show ∀ u ∈ dcells (List.replicate 1664 0) (List.replicate 1664 0) (.slice none 0 0) true, u.oneCell' = true from fun u hu => by
    unfold dcells at hu
    rcases List.mem_append.1 hu with h | h
    · rcases List.mem_append.1 h with h | h <;> exact map_bv_one u h
    · rcases List.mem_cons.1 h with rfl | h
      · rfl
      · rw [List.mem_singleton.1 h]; rfl)
  generalize hC : dcells (List.replicate 1664 0) (List.replicate 1664 0) (.slice none 0 0) true = C at H hbuild Hl H1
  clear hC
  go_enter Tryd.func37, Tryd.ntmps37
  go_wp2_with (first
    | ((refine wpList_build_run rfl 78 #[(3, .const (.bool true))] (by rfl) #[(3, .bool true)] (by simp [Act.eval]) (.agg C.toArray) (hbuild _) ?_))
    | (refine wpList_store_blk rfl 78 _ _ (by rfl) b 0 (.agg C.toArray) (by rfl) (by rfl) (dcells D.S D.now pv D.f) 78 Hh.out.blk C (by rfl) 3330 Hl.out size_dsk (by rw [dcells_len HS.out HN.out]; omega) H1.out C (spl_all (by rw [Hl.out, dcells_len HS.out HN.out])) ?_; intro w1 hb1 hg1))
  go_end0
  exact ⟨rfl, H.out _ hb1, (chg_grown hg1).mono fun i _ e => .inl (by injection e with e; exact e.symm)⟩
theorem dsk_read_no (k : Int) (hk : -9223372036854775808 ≤ k ∧ k ≤ 9223372036854775807) (hE : reachE D.f k ≠ 0) :
    Calls Tryd.prog 41 #[.pointer (some ⟨b, 0, none⟩), .int .i64 k] w fun e w' => e = .returned (.tuple #[.slice none 0 0, .int .i64 (reachE D.f k)]) ∧ w' = w := by
  have C := Lib.hid (dsk_reach_any B b pv D w h k hk)
  clear h
  generalize reachE D.f k = E at C hE ⊢
  have e2 : (E != 0) = true := by rw [bne_iff_ne]; exact hE
  clear hE
  go_enter Tryd.func41, Tryd.ntmps41
  go_wp2_with fail
  refine C.out.mono ?_
  rintro e w' ⟨rfl, rfl⟩
  go_wp2
  go_ret2
  exact ⟨rfl, rfl⟩
theorem dsk_read_ok (k : Nat) (hk : k < 52) (hf : D.f = false) :
    Calls Tryd.prog 41 #[.pointer (some ⟨b, 0, none⟩), .int .i64 (k : Int)] w fun e w' => ∃ v, e = .returned (.tuple #[v, .int .i64 0]) ∧ OwB 5 w' w.heap.size v (secAt D.now k) ∧ Below w.heap.size w w' := by
  have C := Lib.hid (dsk_reach_any B b pv D w h (k : Int) (by omega))
  have hE : reachE D.f (k : Int) = 0 := by unfold reachE; rw [hf, if_neg (by simp), if_neg (by omega)]
  rw [hE] at C
  have hlt := h.lt
  have hl : (secAt D.now k).length = 32 := secAt_len (by rw [h.ok.now]; omega)
  have Hr := Lib.hid (show RdB w w.heap.size (some ⟨b, 1664 + k * 32, none⟩) (secAt D.now k) from ⟨by omega, fun _ => ⟨b, _, rfl, h.lt, fun j hj => by
    have := range_sec (k := k) (range_N h.blk h.ok.S) j (bv ((secAt D.now k).getD j 0)) (by simp [hj])
    exact this⟩⟩)
  have CC := Lib.hid (fun c => clone_any (some ⟨b, 1664 + k * 32, none⟩) (secAt D.now k) 32 c w hl.symm (by omega) Hr.out)
  clear h hE hl Hr
  have k0 : (0 : Int) ≤ (k : Int) := by omega
  have k1 : (k : Int) < 52 := by omega
  go_enter Tryd.func41, Tryd.ntmps41
  go_wp2_with fail
  refine C.out.mono ?_
  rintro e w' ⟨rfl, rfl⟩
  go_wp2_with fail
  refine (CC.out _).mono ?_
  rintro e w1 ⟨v, rfl, ho, hb⟩
  go_wp2
  go_ret2
  exact ⟨v, rfl, ho, hb⟩
end
end Go.Proofs.YtjnemopocmhfkaaDoor
end
section
namespace Go.Proofs.YtjnemopocmhfkaaDoor
open Go.RowKit

/-- A slice of bytes in a block from lo on. -/
def RdBF (lo : Nat) (w : World) (A : Option Addr) (bs : List UInt8) : Prop :=
  bs.length ≤ 140737488355328 ∧ (0 < bs.length → ∃ b off, A = some ⟨b, off, none⟩ ∧ b < w.heap.size ∧ lo ≤ b ∧ ∀ k, k < bs.length → w.cell? ⟨b, off + k, none⟩ = some (.int .u8 ((bs.getD k 0).toNat : Int)))
def RdF (lo : Nat) (w : World) (A : Option Addr) (rs : List (List UInt8)) : Prop :=
  rs.length ≤ 140737488355328 ∧ (0 < rs.length → ∃ b off, A = some ⟨b, off, none⟩ ∧ b < w.heap.size ∧ lo ≤ b ∧ ∀ k, k < rs.length → ∃ A' c, w.cell? ⟨b, off + k, none⟩ = some (.slice A' (rs.getD k []).length c) ∧ RdBF lo w A' (rs.getD k []))
theorem RdBF.rdb {lo : Nat} {w : World} {A : Option Addr} {bs : List UInt8} (h : RdBF lo w A bs) : RdB w w.heap.size A bs :=
  ⟨h.1, fun h0 => by
    obtain ⟨b, off, e, hb, _, hc⟩ := h.2 h0
    exact ⟨b, off, e, hb, hc⟩⟩
theorem RdF.rdr {lo : Nat} {w : World} {A : Option Addr} {rs : List (List UInt8)} (h : RdF lo w A rs) : RdR w w.heap.size A rs :=
  ⟨h.1, fun h0 => by
    obtain ⟨b, off, e, hb, _, hc⟩ := h.2 h0
    refine ⟨b, off, e, hb, fun k hk => ?_⟩
    obtain ⟨A', c, h1, h2⟩ := hc k hk
    exact ⟨A', c, h1, h2.rdb⟩⟩
theorem RdBF.keep {lo : Nat} {w w' : World} {A : Option Addr} {bs : List UInt8} (h : RdBF lo w A bs) (hz : w.heap.size ≤ w'.heap.size) (hk : ∀ p : Addr, lo ≤ p.block → p.block < w.heap.size → w'.cell? p = w.cell? p) : RdBF lo w' A bs :=
  ⟨h.1, fun h0 => by
    obtain ⟨b, off, e, hb, hl, hc⟩ := h.2 h0
    exact ⟨b, off, e, by omega, hl, fun k hk' => (hk ⟨b, off + k, none⟩ hl hb).trans (hc k hk')⟩⟩
theorem RdBF.le {lo lo' : Nat} {w : World} {A : Option Addr} {bs : List UInt8} (h : RdBF lo w A bs) (hl : lo' ≤ lo) : RdBF lo' w A bs :=
  ⟨h.1, fun h0 => by
    obtain ⟨b, off, e, hb, hl2, hc⟩ := h.2 h0
    exact ⟨b, off, e, hb, by omega, hc⟩⟩
/-- Values that read as rows, none of them in block ob, all from lo on. -/
def RowsY (w : World) (lo : Nat) (ob : Option Nat) (xs : List Value) (rs : List (List UInt8)) : Prop :=
  xs.length = rs.length ∧ ∀ k, k < rs.length → ∃ A c, xs[k]? = some (.slice A (rs.getD k []).length c) ∧ RdBF lo w A (rs.getD k []) ∧ (0 < (rs.getD k []).length → ∀ a, A = some a → some a.block ≠ ob)
theorem RowsY.nil (w : World) (lo : Nat) (ob : Option Nat) : RowsY w lo ob [] [] := ⟨rfl, fun k hk => by simp at hk⟩
theorem RowsY.below {w w' : World} {lo : Nat} {ob : Option Nat} {xs : List Value} {rs : List (List UInt8)} (h : RowsY w lo ob xs rs) (hb : Below w.heap.size w w') : RowsY w' lo ob xs rs :=
  ⟨h.1, fun k hk => by
    obtain ⟨A, c, h1, h2, h3⟩ := h.2 k hk
    exact ⟨A, c, h1, h2.keep hb.size fun _ _ hp => hb.cell hp, h3⟩⟩
theorem RowsY.grown {w w' : World} {lo : Nat} {ob ob' : Option Nat} {xs : List Value} {rs : List (List UInt8)} (h : RowsY w lo ob xs rs) (hg : w.grownBy w' ob) (ho : ob' = ob ∨ ob' = some w.heap.size) : RowsY w' lo ob' xs rs :=
  ⟨h.1, fun k hk => by
    obtain ⟨A, c, h1, h2, h3⟩ := h.2 k hk
    refine ⟨A, c, h1, ⟨h2.1, fun h0 => ?_⟩, fun h0 a ha => ?_⟩
    · obtain ⟨b, off, e, hb, hl, hc⟩ := h2.2 h0
      have hne := h3 h0 _ e
      refine ⟨b, off, e, by have := hg.size; omega, hl, fun j hj => ?_⟩
      rw [← hc j hj]
      exact World.cell?_of_block (w := w) (hg.block b hb hne)
    · rcases ho with rfl | rfl
      · exact h3 h0 a ha
      · obtain ⟨b, off, e, hb, hl, hc⟩ := h2.2 h0
        rw [ha] at e
        injection e with e
        subst e
        intro e
        injection e with e
        simp at e
        omega⟩
theorem RowsY.snoc {w : World} {lo : Nat} {ob : Option Nat} {xs : List Value} {rs : List (List UInt8)} (h : RowsY w lo ob xs rs) {A : Option Addr} {c : Nat} {bs : List UInt8} (hr : RdBF lo w A bs) (hne : 0 < bs.length → ∀ a, A = some a → some a.block ≠ ob) : RowsY w lo ob (xs ++ [.slice A bs.length c]) (rs ++ [bs]) :=
  ⟨by simp [h.1], fun k hk => by
    by_cases hk2 : k < rs.length
    · obtain ⟨A', c', h1, h2, h3⟩ := h.2 k hk2
      have e : (rs ++ [bs]).getD k [] = rs.getD k [] := by simp [List.getElem?_append_left hk2]
      rw [e]
      exact ⟨A', c', by rw [List.getElem?_append_left (by rw [h.1]; exact hk2)]; exact h1, h2, h3⟩
    · have hk3 : k = rs.length := by simp at hk; omega
      subst hk3
      have e : (rs ++ [bs]).getD rs.length [] = bs := by simp
      rw [e]
      exact ⟨A, c, by rw [← h.1]; simp, hr, hne⟩⟩
/-- An own row of slices, read as rows, with its room. -/
theorem rdf_own {w : World} {base : Nat} {e : TypeId} {v : Value} {n : Nat} {xs : List Value} {rs : List (List UInt8)} {ob : Option Nat} (h : w.ownsRow base e 1 v n xs) (hl : rs.length ≤ 140737488355328) (hx : RowsY w base ob xs rs) :
    ∃ A cap, v = .slice A rs.length cap ∧ rs.length ≤ cap ∧ RdF base w A rs := by
  have hn : n = rs.length := by have := h.1; have := hx.1; omega
  subst hn
  rcases h.2 with ⟨rfl, h0⟩ | ⟨g, cap, cur, rfl, hb, hg, h3, _, _, htk⟩
  · exact ⟨none, 0, by rw [h0], by omega, hl, fun h => by omega⟩
  · refine ⟨_, cap, rfl, h3, hl, fun _ => ⟨g, 0, rfl, (Array.getElem?_eq_some_iff.1 hg).1, hb, fun k hk => ?_⟩⟩
    obtain ⟨A, c, h1, h2, _⟩ := hx.2 k hk
    refine ⟨A, c, ?_, h2⟩
    rw [← htk, List.getElem?_take, if_pos (by omega), Array.getElem?_toList] at h1
    rw [Nat.zero_add, cell_of_row w g k cur e (0, 0) hg]
    exact h1
theorem OwB.rdbf {e : TypeId} {w : World} {B : Nat} {A : Option Addr} {n c : Nat} {bs : List UInt8} (h : OwB e w B (.slice A n c) bs) : RdBF B w A bs :=
  ⟨h.2, fun h0 => by
    obtain ⟨b, off, e, hb, hc⟩ := h.rdS.1.2 h0
    exact ⟨b, off, e, hb, by have := h.addr_ob h0 _ e; simpa using this, hc⟩⟩
end Go.Proofs.YtjnemopocmhfkaaDoor
end
section
set_option maxRecDepth 8000
namespace Go.Proofs.YtjnemopocmhfkaaDoor
open Go.RowKit

end Go.Proofs.YtjnemopocmhfkaaDoor
end
