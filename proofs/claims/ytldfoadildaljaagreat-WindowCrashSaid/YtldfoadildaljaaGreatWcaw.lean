/- Texts put together: BchPend, BchPart, BchCrash. -/
import Derived.Test.YtldfoadildaljaaGreatWcau
import Derived.Test.YtldfoadildaljaaGreatWcaa
import Derived.Test.YtldfoadildaljaaGreatWcag
import Derived.Test.YtldfoadildaljaaGreatWcak
section
namespace Go.Proofs.YtldfoadildaljaaGreat
open Go.RowKit

theorem offs_succ (D : Nat → Dsk) (i : Nat) : offs D (i + 1) = offs D i + (D i).ps.length := rfl
end Go.Proofs.YtldfoadildaljaaGreat
end
section
namespace Go.Proofs.YtldfoadildaljaaGreat
open Go.RowKit

def rowk (n k : Nat) (bk : Nat → Nat) : List Value := (List.range n).map fun i => if i < k then ptr (bk i) else .pointer none
theorem rowk_len (n k : Nat) (bk : Nat → Nat) : (rowk n k bk).length = n := by unfold rowk; simp
theorem rowk_get {n i : Nat} (k : Nat) (bk : Nat → Nat) (h : i < n) : (rowk n k bk)[i]? = some (if i < k then ptr (bk i) else .pointer none) := by unfold rowk; simp [h]
theorem rowk_all (n : Nat) (bk : Nat → Nat) : rowk n n bk = prow n bk := List.map_congr_left fun i hi => by rw [if_pos (List.mem_range.1 hi)]
theorem rowk_set {n k : Nat} (bk : Nat → Nat) (b : Nat) (h : k < n) : spl (rowk n k bk) k [ptr b] = rowk n (k + 1) (upd bk k b) := by
  apply List.ext_getElem?
  intro j
  have hl : ((rowk n k bk).take k).length = k := by rw [List.length_take, rowk_len]; omega
  unfold spl
  rw [List.append_assoc]
  by_cases hj : j < k
  · rw [List.getElem?_append_left (by omega), List.getElem?_take, if_pos hj, rowk_get _ _ (by omega), rowk_get _ _ (by omega), upd_other _ _ (by omega), if_pos hj, if_pos (by omega)]
  · rw [List.getElem?_append_right (by omega), hl]
    by_cases e : j = k
    · subst e; rw [Nat.sub_self, rowk_get _ _ h, upd_same, if_pos (by omega)]; rfl
    · obtain ⟨m, hm⟩ : ∃ m, j - k = m + 1 := ⟨j - k - 1, by omega⟩
      rw [hm, List.cons_append, List.getElem?_cons_succ, List.nil_append, List.getElem?_drop]
      rw [show k + [ptr b].length + m = j by simp; omega]
      by_cases hjn : j < n
      · rw [rowk_get _ _ hjn, rowk_get _ _ hjn, if_neg (by omega), if_neg (by omega)]
      · rw [List.getElem?_eq_none (by rw [rowk_len]; omega), List.getElem?_eq_none (by rw [rowk_len]; omega)]
structure PAt (w : World) (B b : Nat) (H : BH) (N : Bch) (k : Nat) : Prop where
  blk : w.heap[b]? = some (.cells (bcells H.g N.n N.done N.left N.down).toArray 43 (0, 0))
  row : w.heap[H.g]? = some (.cells (rowk N.n k H.bk).toArray 76 (0, 0))
  dsk : ∀ i, i < k → DskAt w B (H.bk i) (H.pv i) (N.D i)
  le : B ≤ b ∧ B ≤ H.g
  ne : b ≠ H.g
  off : ∀ i, i < k → ∀ j, DF (H.bk i) (H.pv i) j → j ≠ b ∧ j ≠ H.g
  ap : ∀ i j, i < k → j < k → i ≠ j → Apart (H.bk i) (H.pv i) (H.bk j) (H.pv j)
theorem PAt.full {w : World} {B b : Nat} {H : BH} {N : Bch} (h : PAt w B b H N N.n) (hok : N.Ok) : BAt w B b H N :=
  ⟨h.blk, by rw [← rowk_all]; exact h.row, h.dsk, h.le, h.ne, h.off, h.ap, hok⟩
section
variable {w : World} {B b : Nat} {H : BH} {N : Bch} {k : Nat}
theorem PAt.lt (h : PAt w B b H N k) : b < w.heap.size ∧ H.g < w.heap.size := ⟨(Array.getElem?_eq_some_iff.1 h.blk).1, (Array.getElem?_eq_some_iff.1 h.row).1⟩
theorem PAt.below {w1 : World} (h : PAt w B b H N k) (hb : Below w.heap.size w w1) : PAt w1 B b H N k :=
  ⟨(hb.block b h.lt.1).trans h.blk, (hb.block H.g h.lt.2).trans h.row, fun i hi => (h.dsk i hi).below hb, h.le, h.ne, h.off, h.ap⟩
theorem PAt.next {w1 w2 : World} {b' : Nat} {pv' : Value} (h : PAt w B b H N k) (hkn : k < N.n) (hB : B ≤ w.heap.size) (hb : Below w.heap.size w w1) (hd : DskAt w1 w.heap.size b' pv' (N.D k)) (hr : w2.heap[H.g]? = some (.cells (spl (rowk N.n k H.bk) k [ptr b']).toArray 76 (0, 0))) (hc : Chg (fun j => j = H.g) w1 w2) :
    PAt w2 B b { H with bk := upd H.bk k b', pv := upd H.pv k pv' } N (k + 1) := by
  have h1 := h.below hb
  have hnew : ∀ j, DF b' pv' j → w.heap.size ≤ j := fun j hj => DF.le hd hj
  have hl := h.lt
  have hup : ∀ i, i < k + 1 → i ≠ k → i < k := fun i a b => by omega
  refine ⟨?_, ?_, ?_, h.le, h.ne, ?_, ?_⟩
  · exact (hc.block b h1.lt.1 h.ne).trans h1.blk
  · show w2.heap[H.g]? = _
    rw [hr, rowk_set _ _ hkn]
  · intro i hi
    show DskAt w2 B (upd H.bk k b' i) (upd H.pv k pv' i) (N.D i)
    by_cases e : i = k
    · subst e
      rw [upd_same, upd_same]
      exact (hd.mono hB).chg hc (fun e => by have := hnew b' (.inl rfl); omega) fun j hj e => by have := hnew j (.inr hj); omega
    · rw [upd_other _ _ e, upd_other _ _ e]
      exact (h1.dsk i (hup i hi e)).chg hc (fun e2 => (h.off i (hup i hi e) _ (.inl rfl)).2 e2) fun j hj e2 => (h.off i (hup i hi e) j (.inr hj)).2 e2
  · intro i hi j
    show DF (upd H.bk k b' i) (upd H.pv k pv' i) j → _ ∧ j ≠ H.g
    by_cases e : i = k
    · subst e
      rw [upd_same, upd_same]
      intro hj
      have := hnew j hj
      omega
    · rw [upd_other _ _ e, upd_other _ _ e]; exact h.off i (hup i hi e) j
  · intro i j hi hj hij
    show Apart (upd H.bk k b' i) (upd H.pv k pv' i) (upd H.bk k b' j) (upd H.pv k pv' j)
    by_cases e : i = k
    · subst e
      rw [upd_same, upd_same, upd_other _ _ (fun e => hij e.symm), upd_other _ _ (fun e => hij e.symm)]
      intro m h2 h3
      have := hnew m h2
      have := ((h.dsk j (hup j hj (fun e => hij e.symm))).flt h3).2
      omega
    · rw [upd_other _ _ e, upd_other _ _ e]
      by_cases e2 : j = k
      · subst e2
        rw [upd_same, upd_same]
        intro m h2 h3
        have := hnew m h3
        have := ((h.dsk i (hup i hi e)).flt h2).2
        omega
      · rw [upd_other _ _ e2, upd_other _ _ e2]
        exact h.ap i j (hup i hi e) (hup j hj e2) hij
end
theorem info_pdisk : (Tryz.prog.info? 76).map (fun i => (i.zero, i.size, i.bytes)) = some (some (.pointer none), 1, 8) := by kernel_rfl
theorem rowk_zero (n : Nat) (bk : Nat → Nat) : madeCells #[.pointer none] n = (rowk n 0 bk).toArray := by
  apply Array.toList_inj.1
  apply List.ext_getElem?
  intro j
  rw [toList_madeCells_one, List.getElem?_replicate]
  by_cases h : j < n
  · rw [if_pos h]
    show _ = (rowk n 0 bk)[j]?
    rw [rowk_get _ _ h, if_neg (by omega)]
  · rw [if_neg h]
    show _ = (rowk n 0 bk)[j]?
    rw [List.getElem?_eq_none (by rw [rowk_len]; omega)]
theorem make_pdisks (n : Nat) (hn : n ≤ 1000000) (bk : Nat → Nat) (w : World) :
    (Instr.makeSlice 41 (.int .i64 (n : Int)) (.int .i64 (n : Int))).run Tryz.prog w = .ok (.slice (some ⟨w.heap.size, 0, none⟩) n n) (w.alloc (.cells (rowk n 0 bk).toArray 76)) := by
  rw [← rowk_zero n bk]
  exact run_make_row' _ _ _ 8 Tryz.underlying41 info_pdisk rfl _ _ n (by omega) (by omega) w
end Go.Proofs.YtldfoadildaljaaGreat
end
section
set_option maxRecDepth 20000
namespace Go.Proofs.YtldfoadildaljaaGreat
open Go.RowKit

theorem Bch.crTo_at (N : Bch) (ks : List Bool) (k : Nat) : (N.crTo ks k).D k = N.D k := if_neg (Nat.lt_irrefl k)
theorem Bch.crTo_succ (N : Bch) (ks : List Bool) (k : Nat) : (N.crTo ks k).set k ((N.D k).crash (ks.drop (offs N.D k))) = N.crTo ks (k + 1) := by
  unfold Bch.set Bch.crTo
  congr 1
  funext j
  show upd (fun i => if i < k then (N.D i).crash (ks.drop (offs N.D i)) else N.D i) k _ j = if j < k + 1 then _ else _
  by_cases e : j = k
  · subst e; rw [upd_same, if_pos (by omega)]
  · rw [upd_other _ _ e]
    show (if j < k then _ else _) = _
    by_cases c : j < k
    · rw [if_pos c, if_pos (by omega)]
    · rw [if_neg c, if_neg (by omega)]
theorem RdO.chg {F : Nat → Prop} {w w' : World} {B : Nat} {A : Option Addr} {ks : List Bool} (h : RdO w B A ks) (hc : Chg F w w') (hB : B ≤ w.heap.size) (hn : ∀ a, 0 < ks.length → A = some a → ¬ F a.block) : RdO w' B A ks :=
  ⟨h.1, fun h0 => by
    obtain ⟨b, off, e, hb, hk⟩ := h.2 h0
    refine ⟨b, off, e, hb, fun k hkl => ?_⟩
    rw [← hk k hkl]
    have := hc.block b (by omega) (hn _ h0 e)
    unfold World.cell?
    simp only [this]⟩
theorem RdO.more {w : World} {B B' : Nat} {A : Option Addr} {ks : List Bool} (h : RdO w B A ks) (hB : B ≤ B') : RdO w B' A ks := h.keep hB fun _ _ => rfl
theorem drop_min (ks : List Bool) (o p : Nat) : (ks.drop o).drop (min p (ks.drop o).length) = ks.drop (o + p) := by
  by_cases h : p ≤ (ks.drop o).length
  · rw [Nat.min_eq_left h, List.drop_drop]
  · rw [Nat.min_eq_right (by omega), List.drop_length, List.drop_eq_nil_of_le]
    simp at h
    omega
set_option maxHeartbeats 400000 in
theorem bch_crash_any (B b : Nat) (H : BH) (N : Bch) (w : World) (h : BAt w B b H N) (ks : List Bool) (A : Option Addr) (n c : Nat) (hn : n = ks.length) (hc : ks.length ≤ c) (hk : RdO w w.heap.size A ks) (q : Nat) (hq : 0 < ks.length → ∀ a, A = some a → a.block = q) (hqn : ¬ BF b H N.n q) (hps : ∀ i, i < N.n → (N.D i).ps.length ≤ 2000000) :
    Calls Tryz.prog 14 #[ptr b, .slice A n c] w fun e w' => e = .returned (.tuple #[]) ∧ BTo w w' B b H N.n (N.crash ks) := by
  subst hn
  have Hh := Lib.hid h
  have hc3 := h.cell 3 _ rfl
  have Hp := Lib.hid hps
  have hn8 := h.ok.n
  have Hqn := Lib.hid hqn
  have HK := Lib.hid (show ∃ A', (∃ c1, ks.length ≤ c1 ∧ c = c1) ∧ A = A' from ⟨A, ⟨c, hc, rfl⟩, rfl⟩)
  clear h hps hqn HK
  unfold ptr
  go_enter Tryz.func14, Tryz.ntmps14
  go_wp2
  go_loopw [1, 12] (fun s i wr => ∃ k : Nat, k ≤ N.n ∧ i = .int .i64 k ∧ (∃ A' n' c', s = .slice A' n' c' ∧ n' = (ks.drop (offs N.D k)).length ∧ n' ≤ c' ∧ RdO w w.heap.size A' (ks.drop (offs N.D k)) ∧ (0 < (ks.drop (offs N.D k)).length → ∀ a, A' = some a → a.block = q)) ∧ BTo w wr B b H N.n (N.crTo ks k)) (fun _ i _ => N.n - (intOf i).toNat)
  case atStart => exact ⟨0, Nat.zero_le _, rfl, ⟨A, _, c, rfl, rfl, hc, hk, hq⟩, Hh.out.self⟩
  case round =>
    clear hk hq hc
    obtain ⟨k, hk8, rfl, ⟨A1, n1, c1, rfl, hn1, hc1, hr1, hq1⟩, ⟨H1, a1, ch1, ⟨_, g1⟩, m1⟩⟩ := hrel
    have Hg := Lib.hid g1
    have Ha := Lib.hid a1
    have Hch := Lib.hid ch1
    have Hm := Lib.hid m1
    by_cases hlt : k < N.n
    · have hR := hr1.chg ch1 (Nat.le_refl _) (fun a h0 e => by rw [hq1 h0 a e]; exact Hqn.out)
      have hp : wr.cell? ⟨H.g, k, none⟩ = some (.pointer (some ⟨H1.bk k, 0, none⟩)) := by rw [← g1]; exact a1.pcell hlt
      have hd1 := a1.dsk k hlt
      rw [N.crTo_at] at hd1
      have hps := Hp.out k hlt
      have CP := Lib.hid (dsk_pending_any _ _ _ _ wr hd1)
      have Hdr := Lib.hid (drop_min ks (offs N.D k) (N.D k).ps.length)
      rw [← hn1] at Hdr
      obtain ⟨m, hm⟩ : ∃ m, min (N.D k).ps.length n1 = m := ⟨_, rfl⟩
      rw [hm] at Hdr
      have hmif : (if n1 < (N.D k).ps.length then (n1 : Int) else ((N.D k).ps.length : Int)) = (m : Int) := by split <;> omega
      have HRd := Lib.hid hr1
      have Htk := Lib.hid (crash_take (N.D k) (ks.drop (offs N.D k)))
      rw [← hn1, hm] at Htk
      have hml : m ≤ n1 := by omega
      have hlen := ks.length_drop (i := offs N.D k)
      have CC := Lib.hid (dsk_crash_any _ _ _ _ A1 ((ks.drop (offs N.D k)).take m) m c1 wr hd1 (by rw [List.length_take]; omega) ((hR.take m).more (Hch.out.size)) (fun a h0 e => by
        rw [hq1 (by rw [List.length_take] at h0; omega) a e]
        intro e2
        rcases Hm.out q (.inr (.inr ⟨k, hlt, .inl e2⟩)) with h1 | h1
        · exact Hqn.out h1
        · obtain ⟨bb, off, e3, hb3, _⟩ := hr1.2 (by rw [List.length_take] at *; omega)
          have := hq1 (by rw [List.length_take] at h0; omega) _ e3
          simp only at this
          omega) hps)
      rw [Htk.out] at CC
      have Hst := Lib.hid (show ∀ w2, DskAt w2 B (H1.bk k) (.slice none 0 0) ((N.D k).crash (ks.drop (offs N.D k))) → Chg (DF (H1.bk k) (H1.pv k)) wr w2 → BTo w w2 B b H N.n (N.crTo ks (k + 1)) from fun w2 hd2 hc2 =>
        BTo.seq Hch.out Hg.out Hm.out (by have := Ha.out.step hlt hd2 hc2 (NewOr.none _ _); rw [N.crTo_succ] at this; exact this))
      have HR2 := Lib.hid (show RdO w w.heap.size (if c1 = m then A1 else A1.map (·.add m)) (ks.drop (offs N.D (k + 1))) by
        rw [offs_succ, ← Hdr.out]; exact HRd.out.drop m c1 (by omega))
      have Hl2 := Lib.hid (show n1 - m = (ks.drop (offs N.D (k + 1))).length by rw [offs_succ, ← Hdr.out, List.length_drop (i := m)]; omega)
      have Hq2 := Lib.hid (show 0 < (ks.drop (offs N.D (k + 1))).length → ∀ a, (if c1 = m then A1 else A1.map (·.add m)) = some a → a.block = q from fun h0 a e => by
        have hq1 := hq1 (by rw [offs_succ, List.length_drop] at h0; omega)
        split at e
        · exact hq1 a e
        · rcases A1 with _ | a0
          · cases e
          · obtain rfl := Option.some.inj e
            have := hq1 a0 rfl
            show (a0.add m).block = q
            unfold Addr.add
            split <;> exact this)
      have i0 : (0 : Int) ≤ (k : Int) := by omega
      have i1 : (k : Int) < (N.n : Int) := by omega
      have hmx : max (m : Int) 0 = (m : Int) := by omega
      have m0 : (0 : Int) ≤ (m : Int) := by omega
      clear m1
      have m1 : (m : Int) ≤ (c1 : Int) := by omega
      have m2 : (m : Int) ≤ (n1 : Int) := by omega
      have hkl : n1 ≤ 9223372036854775807 := by rw [hn1]; exact hr1.1
      clear hn1
      have hsp : (n1 < (N.D k).ps.length ∧ m = n1) ∨ (¬ n1 < (N.D k).ps.length ∧ m = (N.D k).ps.length) := by omega
      clear hr1 hq1 hR hd1 a1 ch1 g1 hlen hm hmif
      generalize (N.D k).ps.length = pl at *
      rcases hsp with ⟨hcmp, rfl⟩ | ⟨hcmp, rfl⟩
      all_goals
        go_wp2_with fail
        refine CP.out.mono ?_
        rintro e wr ⟨rfl, rfl⟩
        go_wp2_with fail
        refine CC.out.mono ?_
        rintro e w2 ⟨rfl, hd2, hc2⟩
        have Hto := Lib.hid (Hst.out w2 hd2 hc2)
        clear hd2 hc2
        go_wp2_with fail
        go_roundw
      · exact ⟨k + 1, by omega, by go_num, ⟨_, 0, _, rfl, by rw [← Hl2.out]; omega, Nat.zero_le _, HR2.out, Hq2.out⟩, Hto.out⟩
      · simp [intOf]; omega
      · exact ⟨k + 1, by omega, by go_num, ⟨_, _, _, rfl, Hl2.out, by omega, HR2.out, Hq2.out⟩, Hto.out⟩
      · simp [intOf]; omega
    · obtain rfl : k = N.n := by omega
      have CR := Lib.hid (bch_restore_any B b H1 _ wr a1)
      clear hr1 hq1 a1 ch1 g1 m1
      unfold ptr at CR
      go_wp2_with fail
      refine CR.out.mono ?_
      rintro e w2 ⟨rfl, ht⟩
      have ht2 : BTo w w2 B b H N.n (N.crash ks) := BTo.seq Hch.out Hg.out Hm.out ht
      go_wp2
      go_end0
      exact ⟨rfl, ht2⟩
end Go.Proofs.YtldfoadildaljaaGreat
end
