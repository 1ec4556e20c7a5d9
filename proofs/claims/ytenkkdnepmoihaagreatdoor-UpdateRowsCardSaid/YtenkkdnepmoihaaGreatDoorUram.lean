/- Texts put together: BchPart, BchNew, BchClone, Within, BchQ, Alive, OwnInt. -/
import Derived.Test.YtenkkdnepmoihaaGreatDoorUral
import Derived.Test.YtenkkdnepmoihaaGreatDoorUrah
import Derived.Test.YtenkkdnepmoihaaGreatDoorUrab
import Derived.Test.YtenkkdnepmoihaaGreatDoorUrag
import Derived.Test.YtenkkdnepmoihaaGreatDoorUraj
import Derived.Test.YtenkkdnepmoihaaGreatDoorProg
section
namespace Go.Proofs.YtenkkdnepmoihaaGreatDoor
open Go.RowKit

def rowk (n k : Nat) (bk : Nat → Nat) : List Value := (List.range n).map fun i => if i < k then ptr (bk i) else .pointer none
theorem rowk_len (n k : Nat) (bk : Nat → Nat) : (rowk n k bk).length = n := by unfold rowk; simp
theorem rowk_get {n i : Nat} (k : Nat) (bk : Nat → Nat) (h : i < n) : (rowk n k bk)[i]? = some (if i < k then ptr (bk i) else .pointer none) := by unfold rowk; simp [h]
theorem rowk_all (n : Nat) (bk : Nat → Nat) : rowk n n bk = prow n bk := List.map_congr_left fun i hi => by rw [if_pos (List.mem_range.1 hi)]
theorem rowk_set {n k : Nat} (bk : Nat → Nat) (b : Nat) (h : k < n) : spl (rowk n k bk) k [ptr b] = rowk n (k + 1) (upd bk k b) := by
  apply List.ext_getElem?
  intro j
  have hl : ((rowk n k bk).take k).length = k := by rw [List.length_take, rowk_len]; omega
  unfold spl
  rw [List.append_assoc]
  by_cases hj : j < k
  · rw [List.getElem?_append_left (by omega), List.getElem?_take, if_pos hj, rowk_get _ _ (by omega), rowk_get _ _ (by omega), upd_other _ _ (by omega), if_pos hj, if_pos (by omega)]
  · rw [List.getElem?_append_right (by omega), hl]
    by_cases e : j = k
    · subst e; rw [Nat.sub_self, rowk_get _ _ h, upd_same, if_pos (by omega)]; rfl
    · obtain ⟨m, hm⟩ : ∃ m, j - k = m + 1 := ⟨j - k - 1, by omega⟩
      rw [hm, List.cons_append, List.getElem?_cons_succ, List.nil_append, List.getElem?_drop]
      rw [show k + [ptr b].length + m = j by simp; omega]
      by_cases hjn : j < n
      · rw [rowk_get _ _ hjn, rowk_get _ _ hjn, if_neg (by omega), if_neg (by omega)]
      · rw [List.getElem?_eq_none (by rw [rowk_len]; omega), List.getElem?_eq_none (by rw [rowk_len]; omega)]
structure PAt (w : World) (B b : Nat) (H : BH) (N : Bch) (k : Nat) : Prop where
  blk : w.heap[b]? = some (.cells (bcells H.g N.n N.done N.left N.down).toArray 56 (0, 0))
  row : w.heap[H.g]? = some (.cells (rowk N.n k H.bk).toArray 82 (0, 0))
  dsk : ∀ i, i < k → DskAt w B (H.bk i) (H.pv i) (N.D i)
  le : B ≤ b ∧ B ≤ H.g
  ne : b ≠ H.g
  off : ∀ i, i < k → ∀ j, DF (H.bk i) (H.pv i) j → j ≠ b ∧ j ≠ H.g
  ap : ∀ i j, i < k → j < k → i ≠ j → Apart (H.bk i) (H.pv i) (H.bk j) (H.pv j)
theorem PAt.full {w : World} {B b : Nat} {H : BH} {N : Bch} (h : PAt w B b H N N.n) (hok : N.Ok) : BAt w B b H N :=
  ⟨h.blk, by rw [← rowk_all]; exact h.row, h.dsk, h.le, h.ne, h.off, h.ap, hok⟩
section
variable {w : World} {B b : Nat} {H : BH} {N : Bch} {k : Nat}
theorem PAt.lt (h : PAt w B b H N k) : b < w.heap.size ∧ H.g < w.heap.size := ⟨(Array.getElem?_eq_some_iff.1 h.blk).1, (Array.getElem?_eq_some_iff.1 h.row).1⟩
theorem PAt.below {w1 : World} (h : PAt w B b H N k) (hb : Below w.heap.size w w1) : PAt w1 B b H N k :=
  ⟨(hb.block b h.lt.1).trans h.blk, (hb.block H.g h.lt.2).trans h.row, fun i hi => (h.dsk i hi).below hb, h.le, h.ne, h.off, h.ap⟩
theorem PAt.next {w1 w2 : World} {b' : Nat} {pv' : Value} (h : PAt w B b H N k) (hkn : k < N.n) (hB : B ≤ w.heap.size) (hb : Below w.heap.size w w1) (hd : DskAt w1 w.heap.size b' pv' (N.D k)) (hr : w2.heap[H.g]? = some (.cells (spl (rowk N.n k H.bk) k [ptr b']).toArray 82 (0, 0))) (hc : Chg (fun j => j = H.g) w1 w2) :
    PAt w2 B b { H with bk := upd H.bk k b', pv := upd H.pv k pv' } N (k + 1) := by
  have h1 := h.below hb
  have hnew : ∀ j, DF b' pv' j → w.heap.size ≤ j := fun j hj => DF.le hd hj
  have hl := h.lt
  have hup : ∀ i, i < k + 1 → i ≠ k → i < k := fun i a b => by omega
  refine ⟨?_, ?_, ?_, h.le, h.ne, ?_, ?_⟩
  · exact (hc.block b h1.lt.1 h.ne).trans h1.blk
  · show w2.heap[H.g]? = _
    rw [hr, rowk_set _ _ hkn]
  · intro i hi
    show DskAt w2 B (upd H.bk k b' i) (upd H.pv k pv' i) (N.D i)
    by_cases e : i = k
    · subst e
      rw [upd_same, upd_same]
      exact (hd.mono hB).chg hc (fun e => by have := hnew b' (.inl rfl); omega) fun j hj e => by have := hnew j (.inr hj); omega
    · rw [upd_other _ _ e, upd_other _ _ e]
      exact (h1.dsk i (hup i hi e)).chg hc (fun e2 => (h.off i (hup i hi e) _ (.inl rfl)).2 e2) fun j hj e2 => (h.off i (hup i hi e) j (.inr hj)).2 e2
  · intro i hi j
    show DF (upd H.bk k b' i) (upd H.pv k pv' i) j → _ ∧ j ≠ H.g
    by_cases e : i = k
    · subst e
      rw [upd_same, upd_same]
      intro hj
      have := hnew j hj
      omega
    · rw [upd_other _ _ e, upd_other _ _ e]; exact h.off i (hup i hi e) j
  · intro i j hi hj hij
    show Apart (upd H.bk k b' i) (upd H.pv k pv' i) (upd H.bk k b' j) (upd H.pv k pv' j)
    by_cases e : i = k
    · subst e
      rw [upd_same, upd_same, upd_other _ _ (fun e => hij e.symm), upd_other _ _ (fun e => hij e.symm)]
      intro m h2 h3
      have := hnew m h2
      have := ((h.dsk j (hup j hj (fun e => hij e.symm))).flt h3).2
      omega
    · rw [upd_other _ _ e, upd_other _ _ e]
      by_cases e2 : j = k
      · subst e2
        rw [upd_same, upd_same]
        intro m h2 h3
        have := hnew m h3
        have := ((h.dsk i (hup i hi e)).flt h2).2
        omega
      · rw [upd_other _ _ e2, upd_other _ _ e2]
        exact h.ap i j (hup i hi e) (hup j hj e2) hij
end
theorem info_pdisk : (Tryz.prog.info? 82).map (fun i => (i.zero, i.size, i.bytes)) = some (some (.pointer none), 1, 8) := by kernel_rfl
theorem rowk_zero (n : Nat) (bk : Nat → Nat) : madeCells #[.pointer none] n = (rowk n 0 bk).toArray := by
  apply Array.toList_inj.1
  apply List.ext_getElem?
  intro j
  rw [toList_madeCells_one, List.getElem?_replicate]
  by_cases h : j < n
  · rw [if_pos h]
    show _ = (rowk n 0 bk)[j]?
    rw [rowk_get _ _ h, if_neg (by omega)]
  · rw [if_neg h]
    show _ = (rowk n 0 bk)[j]?
    rw [List.getElem?_eq_none (by rw [rowk_len]; omega)]
theorem make_pdisks (n : Nat) (hn : n ≤ 1000000) (bk : Nat → Nat) (w : World) :
    (Instr.makeSlice 54 (.int .i64 (n : Int)) (.int .i64 (n : Int))).run Tryz.prog w = .ok (.slice (some ⟨w.heap.size, 0, none⟩) n n) (w.alloc (.cells (rowk n 0 bk).toArray 82)) := by
  rw [← rowk_zero n bk]
  exact run_make_row' _ _ _ 8 Tryz.underlying54 info_pdisk rfl _ _ n (by omega) (by omega) w
end Go.Proofs.YtenkkdnepmoihaaGreatDoor
end
section
set_option linter.unusedSimpArgs false
namespace Go.Proofs.YtenkkdnepmoihaaGreatDoor
open Go.RowKit

theorem build_bch (g n : Nat) (w : World) : (Instr.build 56 #[(1, .slice (some ⟨g, 0, none⟩) n n)]).run Tryz.prog w = .ok (.agg (bcells g n 0 0 false).toArray) w := by kernel_rfl
set_option maxHeartbeats 800000 in
theorem bch_new_ok (n : Nat) (w : World) (hn : 1 ≤ n ∧ n ≤ 8) : Calls Tryz.prog 38 #[.int .i64 (n : Int)] w fun e w' => ∃ b H, e = .returned (.tuple #[ptr b, .int .i64 0]) ∧ BAt w' w.heap.size b H (Bch.new n) ∧ Below w.heap.size w w' := by
  have hmk := make_pdisks n (by omega) (fun _ => 0)
  have hbd := build_bch
  obtain ⟨n1, n8⟩ := hn
  have i1 : (1 : Int) ≤ (n : Int) := by omega
  have i8 : (n : Int) ≤ 8 := by omega
  go_enter Tryz.func38, Tryz.ntmps38
  go_wp2_with ((refine wpList_build_run rfl 56 #[(1, .tmp 13)] (by rfl) #[(1, .slice (some ⟨w.heap.size, 0, none⟩) n n)] (by rfl) (.agg (bcells w.heap.size n 0 0 false).toArray) (hbd _ _ _) ?_))
  have hp0 : PAt ((w.alloc (.cells (rowk n 0 fun _ => 0).toArray 82)).alloc (.cells #[.int .i64 0, .int .i64 0, .bool false, .slice (some ⟨w.heap.size, 0, none⟩) n n] 56)) w.heap.size (w.heap.size + 1) ⟨w.heap.size, fun _ => 0, fun _ => .slice none 0 0⟩ ⟨n, fun _ => Dsk.new, 0, 0, false⟩ 0 :=
    ⟨hp_new _ _ _ (by simp), (hp_old _ _ _ (by simp)).trans (hp_new _ _ _ rfl), fun i hi => by omega, ⟨by omega, Nat.le_refl _⟩, by show w.heap.size + 1 ≠ w.heap.size; omega, fun i hi => by omega, fun i j hi => by omega⟩
  have hb0 := below2 w (.cells (rowk n 0 fun _ => 0).toArray 82) (.cells #[.int .i64 0, .int .i64 0, .bool false, .slice (some ⟨w.heap.size, 0, none⟩) n n] 56)
  generalize (w.alloc (.cells (rowk n 0 fun _ => 0).toArray 82)).alloc (.cells #[.int .i64 0, .int .i64 0, .bool false, .slice (some ⟨w.heap.size, 0, none⟩) n n] 56) = w0 at hp0 hb0 ⊢
  generalize hB : w.heap.size = B at hp0 hb0 ⊢
  have HB := Lib.hid hB
  clear hmk hbd hB
  go_wp2_with fail
  go_loopw [21] (fun i wr => ∃ (k : Nat) (bk : Nat → Nat) (pv : Nat → Value), k ≤ n ∧ i = .int .i64 k ∧ PAt wr B (B + 1) ⟨B, bk, pv⟩ ⟨n, fun _ => Dsk.new, 0, 0, false⟩ k ∧ Below B w wr) (fun i _ => n - (intOf i).toNat)
  case atStart => exact ⟨0, _, _, Nat.zero_le _, rfl, hp0, hb0⟩
  case round =>
    clear hp0 hb0
    obtain ⟨k, bk, pv, hk, rfl, hp, hb⟩ := hrel
    by_cases hlt : k < n
    · have i2 : (0 : Int) ≤ (k : Int) := by omega
      have i3 : (k : Int) < (n : Int) := by omega
      have Hp := Lib.hid hp
      have Hb := Lib.hid hb
      have Hl := Lib.hid hp.lt
      have HC := Lib.hid (fun V (hV : Below wr.heap.size wr V) => (show V.cell? ⟨B + 1, 3, none⟩ = some (.slice (some ⟨B, 0, none⟩) n n) by rw [cell_of_row _ _ _ _ _ _ (hp.below hV).blk]; rfl))
      clear hp hb
      go_wp2
      refine wp_region_noPanic (region_ord 6 [] (fun V => Below wr.heap.size wr V) (by kernel_rfl) (by kernel_rfl) (fun _ _ _ _ _ h => h) fun R => ?_)
      change anyI _ _ _ _ _ _ 8 _ _ wr.drew
      have HS0 := Lib.hid ((Below.refl wr.heap.size wr).drew)
      refine anyI_take R 0 rfl (v := (.pointer (some ⟨B + 1, 0, none⟩))) (by kernel_rfl) (by rfl) (fun V hV => by go_simp) HS0.out ?_
      try simp only [Act.put, List.getElem_toArray, List.getElem_cons_zero, List.setIfInBounds_toArray, List.set_cons_zero, List.set_cons_succ]
      refine anyI_take R 1 rfl (v := (.pointer (some ⟨B + 1, 0, none⟩))) (by kernel_rfl) (by rfl) (fun V hV => by go_simp) HS0.out ?_
      try simp only [Act.put, List.getElem_toArray, List.getElem_cons_succ, List.getElem_cons_zero, List.setIfInBounds_toArray, List.set_cons_zero, List.set_cons_succ]
      refine anyI_take R 2 rfl (v := (.pointer (some ⟨B + 1, 3, none⟩))) (by kernel_rfl) (by rfl) (fun V hV => by go_simp) HS0.out ?_
      try simp only [Act.put, List.getElem_toArray, List.getElem_cons_succ, List.getElem_cons_zero, List.setIfInBounds_toArray, List.set_cons_zero, List.set_cons_succ]
      refine anyI_take R 3 rfl (v := (.slice (some ⟨B, 0, none⟩) n n)) (by kernel_rfl) (by rfl) (fun V hV => by have hc := HC.out V hV; go_simp) HS0.out ?_
      try simp only [Act.put, List.getElem_toArray, List.getElem_cons_succ, List.getElem_cons_zero, List.setIfInBounds_toArray, List.set_cons_zero, List.set_cons_succ]
      refine anyI_take R 4 rfl (v := (.int .i64 (k : Int))) (by kernel_rfl) (by rfl) (fun V hV => by go_simp) HS0.out ?_
      try simp only [Act.put, List.getElem_toArray, List.getElem_cons_succ, List.getElem_cons_zero, List.setIfInBounds_toArray, List.set_cons_zero, List.set_cons_succ]
      refine anyI_one 5 (by kernel_rfl) rfl ?_
      try simp only [List.getElem_toArray, List.getElem_cons_succ, List.getElem_cons_zero]
      refine opE_step ?_
      rw [if_pos (by rfl)]
      go_simp
      go_at_call 72
      refine (dsk_new_any wr.drew).mono ?_
      rintro e w6 ⟨rfl, hd, hb6⟩
      dsimp only
      have hb6' : Below wr.heap.size wr w6 := HS0.out.trans hb6
      refine ⟨hb6', ?_⟩
      try simp only [Act.put, List.getElem_toArray, List.getElem_cons_succ, List.getElem_cons_zero, List.setIfInBounds_toArray, List.set_cons_zero, List.set_cons_succ]
      refine anyI_tail (by kernel_rfl) ?_
      simp only [List.drop_succ_cons, List.drop_zero]
      clear R
      have Hrow := Lib.hid ((Hp.out.below hb6').row)
      have Hd := Lib.hid hd
      have Hb6 := Lib.hid hb6'
      clear hd hb6 hb6' HS0 HC
      go_wp2_with (refine wpList_store_blk rfl 82 _ _ (by rfl) B k (.pointer (some ⟨wr.heap.size, 0, none⟩)) (by rfl) (by rfl) (rowk n k bk) 82 Hrow.out [.pointer (some ⟨wr.heap.size, 0, none⟩)] (by rfl) 1 rfl size_pdisk (by rw [rowk_len]; omega) (by intro u hu; simp at hu; subst hu; rfl) _ rfl ?_; intro w7 h7 hg7)
      refine NoPanic.normal ?_
      have hc7 := (chg_grown hg7).mono (G := fun j => j = B) fun i _ e => by injection e with e; exact e.symm
      have Hn := Lib.hid (Hp.out.next hlt (by have := Hl.out; omega) Hb6.out Hd.out h7 hc7)
      have Hbb := Lib.hid (show Below B w w7 from (Hb.out.trans (Hb6.out.mono (by have := Hl.out; omega))).trans (hc7.below (fun j e => by omega) (by have := Hl.out; have := Hb6.out.size; omega)))
      clear h7 hg7 hc7 Hrow Hd Hb6
      go_wp2_with fail
      go_roundw
      case rel => exact ⟨k + 1, _, _, by omega, by go_num, Hn.out, Hbb.out⟩
      case measure => simp [intOf]; omega
    · obtain rfl : k = n := by omega
      have ha := hp.full ⟨⟨n1, n8⟩, by show (-1 : Int) ≤ 0 ∧ (0 : Int) ≤ 9223372036854775807; omega⟩
      have CR := Lib.hid (bch_restore_any B (B + 1) _ _ wr ha)
      have Hb := Lib.hid hb
      have Ha := Lib.hid (fun j (hj : BF (B + 1) ⟨B, bk, pv⟩ k j) => ha.flt hj)
      clear hp hb ha
      unfold ptr at CR
      go_wp2_with fail
      refine CR.out.mono ?_
      rintro e w2 ⟨rfl, H2, a2, c2, _, m2⟩
      go_wp2
      go_ret2
      have hs := HB.out
      rw [hs]
      exact ⟨B + 1, H2, rfl, a2, Hb.out.trans (c2.below (fun j hj => (Ha.out j hj).1) (by have := Hb.out.size; omega))⟩
end Go.Proofs.YtenkkdnepmoihaaGreatDoor
end
section
set_option linter.unusedSimpArgs false
namespace Go.Proofs.YtenkkdnepmoihaaGreatDoor
open Go.RowKit

theorem build_bch2 (g n : Nat) (a l : Int) (d : Bool) (w : World) : (Instr.build 56 #[(0, .agg #[.int .i64 a, .int .i64 l, .bool d]), (1, .slice (some ⟨g, 0, none⟩) n n)]).run Tryz.prog w = .ok (.agg #[.int .i64 a, .int .i64 l, .bool d, .slice (some ⟨g, 0, none⟩) n n]) w := by kernel_rfl
set_option maxHeartbeats 800000 in
theorem bch_clone_any (B b : Nat) (H : BH) (N : Bch) (w : World) (h : BAt w B b H N) (hps : ∀ i, i < N.n → (N.D i).ps.length ≤ 2000000) :
    Calls Tryz.prog 24 #[ptr b] w fun e w' => ∃ b' H', e = .returned (ptr b') ∧ BAt w' w.heap.size b' H' N ∧ Below w.heap.size w w' := by
  have Hh := Lib.hid h
  have Hp := Lib.hid hps
  obtain ⟨n1, n8⟩ := h.ok.n
  have HC := Lib.hid (fun V (hV : Below w.heap.size w V) => (h.below hV).cell 3 _ rfl)
  have HL := Lib.hid (fun V (hV : Below w.heap.size w V) => And.intro ((h.below hV).cell 0 _ rfl) (And.intro ((h.below hV).cell 1 _ rfl) ((h.below hV).cell 2 _ rfl)))
  have hmk := make_pdisks N.n (by omega) (fun _ => 0)
  have hbd := build_bch2
  have hblt := h.lt
  have hc3 := h.cell 3 _ rfl
  clear h hps
  unfold ptr
  go_enter Tryz.func24, Tryz.ntmps24
  go_wp2_with fail
  refine wp_region_noPanic (region_ord 10 [] (fun V => Below w.heap.size w V) (by kernel_rfl) (by kernel_rfl) (fun _ _ _ _ _ h => h) fun R => ?_)
  change anyI _ _ _ _ _ _ 13 _ _ w.drew
  have HS0 := Lib.hid ((Below.refl w.heap.size w).drew)
  refine anyI_take R 0 rfl (v := (.pointer (some ⟨b, 0, none⟩))) (by kernel_rfl) (by rfl) (fun V hV => by go_simp) HS0.out ?_
  try simp only [Act.put, List.getElem_toArray, List.getElem_cons_zero, List.setIfInBounds_toArray, List.set_cons_zero, List.set_cons_succ]
  refine anyI_take R 1 rfl (v := (.pointer (some ⟨b, 0, none⟩))) (by kernel_rfl) (by rfl) (fun V hV => by go_simp) HS0.out ?_
  try simp only [Act.put, List.getElem_toArray, List.getElem_cons_succ, List.getElem_cons_zero, List.setIfInBounds_toArray, List.set_cons_zero, List.set_cons_succ]
  refine anyI_take R 2 rfl (v := (.pointer (some ⟨b, 0, none⟩))) (by kernel_rfl) (by rfl) (fun V hV => by go_simp) HS0.out ?_
  try simp only [Act.put, List.getElem_toArray, List.getElem_cons_succ, List.getElem_cons_zero, List.setIfInBounds_toArray, List.set_cons_zero, List.set_cons_succ]
  refine anyI_take R 3 rfl (v := (.agg #[.int .i64 (N.done : Int), .int .i64 N.left, .bool N.down])) (by kernel_rfl) (by rfl) (fun V hV => by obtain ⟨q0, q1, q2⟩ := HL.out V hV; go_simp) HS0.out ?_
  try simp only [Act.put, List.getElem_toArray, List.getElem_cons_succ, List.getElem_cons_zero, List.setIfInBounds_toArray, List.set_cons_zero, List.set_cons_succ]
  refine anyI_take R 4 rfl (v := (.pointer (some ⟨b, 0, none⟩))) (by kernel_rfl) (by rfl) (fun V hV => by go_simp) HS0.out ?_
  try simp only [Act.put, List.getElem_toArray, List.getElem_cons_succ, List.getElem_cons_zero, List.setIfInBounds_toArray, List.set_cons_zero, List.set_cons_succ]
  refine anyI_take R 5 rfl (v := (.pointer (some ⟨b, 0, none⟩))) (by kernel_rfl) (by rfl) (fun V hV => by go_simp) HS0.out ?_
  try simp only [Act.put, List.getElem_toArray, List.getElem_cons_succ, List.getElem_cons_zero, List.setIfInBounds_toArray, List.set_cons_zero, List.set_cons_succ]
  refine anyI_take R 6 rfl (v := (.pointer (some ⟨b, 3, none⟩))) (by kernel_rfl) (by rfl) (fun V hV => by go_simp) HS0.out ?_
  try simp only [Act.put, List.getElem_toArray, List.getElem_cons_succ, List.getElem_cons_zero, List.setIfInBounds_toArray, List.set_cons_zero, List.set_cons_succ]
  refine anyI_take R 7 rfl (v := (.slice (some ⟨H.g, 0, none⟩) N.n N.n)) (by kernel_rfl) (by rfl) (fun V hV => by have hc := HC.out V hV; go_simp) HS0.out ?_
  try simp only [Act.put, List.getElem_toArray, List.getElem_cons_succ, List.getElem_cons_zero, List.setIfInBounds_toArray, List.set_cons_zero, List.set_cons_succ]
  refine anyI_take R 8 rfl (v := (.int .i64 (N.n : Int))) (by kernel_rfl) (by rfl) (fun V hV => by go_simp) HS0.out ?_
  try simp only [Act.put, List.getElem_toArray, List.getElem_cons_succ, List.getElem_cons_zero, List.setIfInBounds_toArray, List.set_cons_zero, List.set_cons_succ]
  refine anyI_one 9 (by kernel_rfl) rfl ?_
  try simp only [List.getElem_toArray, List.getElem_cons_succ, List.getElem_cons_zero]
  refine opE_step ?_
  rw [if_pos (by rfl)]
  go_simp
  refine ⟨(HS0.out.alloc (Nat.le_refl _) _), ?_⟩
  try simp only [Act.put, List.getElem_toArray, List.getElem_cons_succ, List.getElem_cons_zero, List.setIfInBounds_toArray, List.set_cons_zero, List.set_cons_succ]
  refine anyI_tail (by kernel_rfl) ?_
  simp only [List.drop_succ_cons, List.drop_zero]
  clear R
  go_wp2_with ((refine wpList_build_run rfl 56 _ (by rfl) #[(0, .agg #[.int .i64 (N.done : Int), .int .i64 N.left, .bool N.down]), (1, .slice (some ⟨w.heap.size, 0, none⟩) N.n N.n)] (by rfl) (.agg #[.int .i64 (N.done : Int), .int .i64 N.left, .bool N.down, .slice (some ⟨w.heap.size, 0, none⟩) N.n N.n]) (hbd _ _ _ _ _ _) ?_))
  refine NoPanic.normal ?_
  have hp0 : PAt ((w.alloc (.cells (rowk N.n 0 fun _ => 0).toArray 82)).alloc (.cells #[.int .i64 (N.done : Int), .int .i64 N.left, .bool N.down, .slice (some ⟨w.heap.size, 0, none⟩) N.n N.n] 56)) w.heap.size (w.heap.size + 1) ⟨w.heap.size, fun _ => 0, fun _ => .slice none 0 0⟩ N 0 :=
    ⟨hp_new _ _ _ (by simp), (hp_old _ _ _ (by simp)).trans (hp_new _ _ _ rfl), fun i hi => by omega, ⟨by omega, Nat.le_refl _⟩, by show w.heap.size + 1 ≠ w.heap.size; omega, fun i hi => by omega, fun i j hi => by omega⟩
  have hb0 := below2 w (.cells (rowk N.n 0 fun _ => 0).toArray 82) (.cells #[.int .i64 (N.done : Int), .int .i64 N.left, .bool N.down, .slice (some ⟨w.heap.size, 0, none⟩) N.n N.n] 56)
  have hp1 := hp0.below ((Below.refl _ ((w.alloc (.cells (rowk N.n 0 fun _ => 0).toArray 82)).alloc (.cells #[.int .i64 (N.done : Int), .int .i64 N.left, .bool N.down, .slice (some ⟨w.heap.size, 0, none⟩) N.n N.n] 56))).drew)
  have hb1 := hb0.drew
  generalize ((w.alloc (.cells (rowk N.n 0 fun _ => 0).toArray 82)).alloc (.cells #[.int .i64 (N.done : Int), .int .i64 N.left, .bool N.down, .slice (some ⟨w.heap.size, 0, none⟩) N.n N.n] 56)).drew = w0 at hp1 hb1 ⊢
  have hc3 : w0.cell? ⟨b, 3, none⟩ = some (.slice (some ⟨H.g, 0, none⟩) N.n N.n) := HC.out _ hb1
  generalize hBe : w.heap.size = C at hp1 hb1 ⊢
  have HB := Lib.hid hBe
  clear hp0 hb0 hmk hbd hBe hblt HL HC HS0
  go_wp2_with fail
  go_loopw [23] (fun i wr => ∃ (k : Nat) (bk : Nat → Nat) (pv : Nat → Value), k ≤ N.n ∧ i = .int .i64 k ∧ PAt wr C (C + 1) ⟨C, bk, pv⟩ N k ∧ Below C w wr) (fun i _ => N.n - (intOf i).toNat)
  case atStart => exact ⟨0, _, _, Nat.zero_le _, rfl, hp1, hb1⟩
  case round =>
    clear hp1 hb1 hc3
    obtain ⟨k, bk, pv, hk, rfl, hp, hb⟩ := hrel
    by_cases hlt : k < N.n
    · have i2 : (0 : Int) ≤ (k : Int) := by omega
      have i3 : (k : Int) < (N.n : Int) := by omega
      have Hp2 := Lib.hid hp
      have Hb := Lib.hid hb
      have Hl := Lib.hid hp.lt
      have hsrc := Hh.out.below (show Below w.heap.size w wr by rw [HB.out]; exact hb)
      have hpc : wr.cell? ⟨H.g, k, none⟩ = some (.pointer (some ⟨H.bk k, 0, none⟩)) := hsrc.pcell hlt
      have Hsd := Lib.hid (hsrc.dsk k hlt)
      have HC := Lib.hid (fun V (hV : Below wr.heap.size wr V) => (show V.cell? ⟨C + 1, 3, none⟩ = some (.slice (some ⟨C, 0, none⟩) N.n N.n) by rw [cell_of_row _ _ _ _ _ _ (hp.below hV).blk]; rfl))
      clear hp hb hsrc
      go_wp2_with fail
      refine wp_region_noPanic (region_ord 7 [] (fun V => Below wr.heap.size wr V) (by kernel_rfl) (by kernel_rfl) (fun _ _ _ _ _ h => h) fun R => ?_)
      change anyI _ _ _ _ _ _ 9 _ _ wr.drew
      have HS0 := Lib.hid ((Below.refl wr.heap.size wr).drew)
      refine anyI_take R 0 rfl (v := (.pointer (some ⟨C + 1, 0, none⟩))) (by kernel_rfl) (by rfl) (fun V hV => by go_simp) HS0.out ?_
      try simp only [Act.put, List.getElem_toArray, List.getElem_cons_zero, List.setIfInBounds_toArray, List.set_cons_zero, List.set_cons_succ]
      refine anyI_take R 1 rfl (v := (.pointer (some ⟨C + 1, 0, none⟩))) (by kernel_rfl) (by rfl) (fun V hV => by go_simp) HS0.out ?_
      try simp only [Act.put, List.getElem_toArray, List.getElem_cons_succ, List.getElem_cons_zero, List.setIfInBounds_toArray, List.set_cons_zero, List.set_cons_succ]
      refine anyI_take R 2 rfl (v := (.pointer (some ⟨C + 1, 3, none⟩))) (by kernel_rfl) (by rfl) (fun V hV => by go_simp) HS0.out ?_
      try simp only [Act.put, List.getElem_toArray, List.getElem_cons_succ, List.getElem_cons_zero, List.setIfInBounds_toArray, List.set_cons_zero, List.set_cons_succ]
      refine anyI_take R 3 rfl (v := (.slice (some ⟨C, 0, none⟩) N.n N.n)) (by kernel_rfl) (by rfl) (fun V hV => by have hc := HC.out V hV; go_simp) HS0.out ?_
      try simp only [Act.put, List.getElem_toArray, List.getElem_cons_succ, List.getElem_cons_zero, List.setIfInBounds_toArray, List.set_cons_zero, List.set_cons_succ]
      refine anyI_take R 4 rfl (v := (.int .i64 (k : Int))) (by kernel_rfl) (by rfl) (fun V hV => by go_simp) HS0.out ?_
      try simp only [Act.put, List.getElem_toArray, List.getElem_cons_succ, List.getElem_cons_zero, List.setIfInBounds_toArray, List.set_cons_zero, List.set_cons_succ]
      refine anyI_take R 5 rfl (v := (.pointer (some ⟨H.bk k, 0, none⟩))) (by kernel_rfl) (by rfl) (fun V hV => by go_simp) HS0.out ?_
      try simp only [Act.put, List.getElem_toArray, List.getElem_cons_succ, List.getElem_cons_zero, List.setIfInBounds_toArray, List.set_cons_zero, List.set_cons_succ]
      refine anyI_one 6 (by kernel_rfl) rfl ?_
      try simp only [List.getElem_toArray, List.getElem_cons_succ, List.getElem_cons_zero]
      refine opE_step ?_
      rw [if_pos (by rfl)]
      go_simp
      go_at_call 54
      refine (dsk_clone_any _ _ _ _ wr.drew (Hsd.out.drewN 1) (Hp.out k hlt)).mono ?_
      rintro e w6 ⟨b6, pv6, rfl, hd6, hb6⟩
      dsimp only
      have hb6' : Below wr.heap.size wr w6 := HS0.out.trans hb6
      refine ⟨hb6', ?_⟩
      try simp only [Act.put, List.getElem_toArray, List.getElem_cons_succ, List.getElem_cons_zero, List.setIfInBounds_toArray, List.set_cons_zero, List.set_cons_succ]
      refine anyI_tail (by kernel_rfl) ?_
      simp only [List.drop_succ_cons, List.drop_zero]
      clear R
      have Hrow := Lib.hid ((Hp2.out.below hb6').row)
      have Hd := Lib.hid hd6
      have Hb6 := Lib.hid hb6'
      clear hd6 hb6 hb6' HS0 HC hpc
      go_wp2_with (refine wpList_store_blk rfl 82 _ _ (by rfl) C k (.pointer (some ⟨b6, 0, none⟩)) (by rfl) (by rfl) (rowk N.n k bk) 82 Hrow.out [.pointer (some ⟨b6, 0, none⟩)] (by rfl) 1 rfl size_pdisk (by rw [rowk_len]; omega) (by intro u hu; simp at hu; subst hu; rfl) _ rfl ?_; intro w7 h7 hg7)
      refine NoPanic.normal ?_
      have hc7 := (chg_grown hg7).mono (G := fun j => j = C) fun i _ e => by injection e with e; exact e.symm
      have Hn := Lib.hid (Hp2.out.next hlt (by have := Hl.out; omega) Hb6.out Hd.out h7 hc7)
      have Hbb := Lib.hid (show Below C w w7 from (Hb.out.trans (Hb6.out.mono (by have := Hl.out; omega))).trans (hc7.below (fun j e => by omega) (by have := Hl.out; have := Hb6.out.size; omega)))
      clear h7 hg7 hc7 Hrow Hd Hb6
      go_wp2_with fail
      go_roundw
      case rel => exact ⟨k + 1, _, _, by omega, by go_num, Hn.out, Hbb.out⟩
      case measure => simp [intOf]; omega
    · obtain rfl : k = N.n := by omega
      have Ha := Lib.hid (hp.full Hh.out.ok)
      have Hb := Lib.hid hb
      clear hp hb
      go_wp2
      go_ret
      have hs := HB.out
      rw [hs]
      exact ⟨C + 1, _, rfl, Ha.out, Hb.out⟩
end Go.Proofs.YtenkkdnepmoihaaGreatDoor
end
section
namespace Go.Proofs.YtenkkdnepmoihaaGreatDoor
open Go.RowKit

end Go.Proofs.YtenkkdnepmoihaaGreatDoor
end
section
set_option maxRecDepth 8000
namespace Go.Proofs.YtenkkdnepmoihaaGreatDoor
open Go.RowKit

/-- The bench N, made since W. -/
structure BP (W w : World) (b : Nat) (H : BH) (N : Bch) : Prop where
  at' : BAt w W.heap.size b H N
  bel : Below W.heap.size W w
/-- New memory alone came to the blocks of a bench. -/
def BNew (w : World) (b : Nat) (H H' : BH) (n : Nat) : Prop := ∀ k, BF b H' n k → BF b H n k ∨ w.heap.size ≤ k
section
variable {W w w' : World} {b : Nat} {H : BH} {N : Bch}
theorem BP.to (h : BP W w b H N) {N' : Bch} (ht : BTo w w' W.heap.size b H N.n N') : ∃ H', BP W w' b H' N' ∧ Chg (BF b H N.n) w w' ∧ BNew w b H H' N.n := by
  obtain ⟨H', a, c, _, m⟩ := ht
  exact ⟨H', ⟨a, h.bel.trans (c.below (fun k hk => (h.at'.flt hk).1) h.bel.size)⟩, c, m⟩
theorem BP.grow (h : BP W w b H N) (hb : Below w.heap.size w w') : BP W w' b H N := ⟨h.at'.below hb, h.bel.trans (hb.mono h.bel.size)⟩
theorem BP.alloc (h : BP W w b H N) (o : Obj) : BP W (w.alloc o) b H N := h.grow (below1 w o)
theorem BP.chg {F : Nat → Prop} (h : BP W w b H N) (hc : Chg F w w') (hF : ∀ k, F k → W.heap.size ≤ k) (hn : ∀ k, BF b H N.n k → ¬ F k) : BP W w' b H N :=
  ⟨h.at'.chg hc hn, h.bel.trans (hc.below hF h.bel.size)⟩
end
/-- What came of a call: the bench, what was written, what came to it. -/
def BC (W w w' : World) (b : Nat) (H : BH) (n : Nat) (N' : Bch) : Prop := ∃ H', BP W w' b H' N' ∧ Chg (BF b H n) w w' ∧ BNew w b H H' n
theorem bp_new (n : Nat) (W w : World) (hb : Below W.heap.size W w) (hn : 1 ≤ n ∧ n ≤ 8) : Calls Tryz.prog 38 #[.int .i64 (n : Int)] w fun e w' => ∃ b H, e = .returned (.tuple #[ptr b, .int .i64 0]) ∧ BP W w' b H (Bch.new n) ∧ Below w.heap.size w w' ∧ ∀ k, BF b H n k → w.heap.size ≤ k := by
  refine (bch_new_ok n w hn).mono ?_
  rintro e w' ⟨b, H, rfl, a, hb'⟩
  exact ⟨b, H, rfl, ⟨a.mono hb.size, hb.trans (hb'.mono hb.size)⟩, hb', fun k hk => (a.flt hk).1⟩
section
variable (W w : World) (b : Nat) (H : BH) (N : Bch) (h : BP W w b H N)
include h
theorem bp_read (d k : Int) (hd : i64B d) (hk : i64B k) : Calls Tryz.prog 34 #[.pointer (some ⟨b, 0, none⟩), .int .i64 d, .int .i64 k] w fun e w' => ∃ v, e = .returned (.tuple #[v, .int .i64 (N.readE d k)]) ∧ OwB 5 w' w.heap.size v (N.read d k) ∧ Below w.heap.size w w' := bch_read_any _ _ _ _ _ h.at' d k hd hk
theorem bp_write (d k : Int) (x : List UInt8) (A : Option Addr) (n c : Nat) (hn : n = x.length) (hd : i64B d) (hk : i64B k) (hr : RdB w w.heap.size A x) (hps : ∀ i, i < N.n → (N.D i).ps.length ≤ 2000000) (hdn : N.done ≤ 2000000) :
    Calls Tryz.prog 94 #[.pointer (some ⟨b, 0, none⟩), .int .i64 d, .int .i64 k, .slice A n c] w fun e w' => e = .returned (.int .i64 (N.writeE d k n)) ∧ BC W w w' b H N.n (N.write d k x) := by
  refine (bch_write_any _ _ _ _ _ h.at' d k x A n c hn hd hk hr hps hdn).mono ?_
  rintro e w' ⟨rfl, ht⟩
  exact ⟨rfl, h.to ht⟩
theorem bp_flush (d : Int) (hd : i64B d) : Calls Tryz.prog 96 #[.pointer (some ⟨b, 0, none⟩), .int .i64 d] w fun e w' => e = .returned (.int .i64 (N.flushE d)) ∧ BC W w w' b H N.n (N.flush d) := by
  refine (bch_flush_any _ _ _ _ _ h.at' d hd).mono ?_
  rintro e w' ⟨rfl, ht⟩
  exact ⟨rfl, h.to ht⟩
end
theorem ptr_eq (b : Nat) (w : World) : (binOp .eql 26 (.pointer (some ⟨b, 0, none⟩)) (.pointer none)).run Tryz.prog w = .ok (.bool false) w := rfl
namespace Bch
/-- A write that is done. -/
theorem write_ok {N : Bch} {d k : Nat} {x : List UInt8} (hd : d < N.n) (hk : k < 52) (hx : x.length = 32) (hf : (N.D d).f = false) (hdn : N.down = false) (hl : N.left ≠ 0) :
    N.writeE (d : Int) (k : Int) x.length = 0 ∧ N.write (d : Int) (k : Int) x = (N.set d ((N.D d).write k x)).count := by
  have hp : N.powE (d : Int) = 0 := powE_ok (pickE_ok (by omega) (by omega)) hdn
  have ht : takeE (N.at_ (d : Int)).f (k : Int) x.length = 0 := by
    rw [hx, show (N.at_ (d : Int)).f = false from hf]; exact takeE_ok (by omega) (by omega)
  constructor
  · unfold writeE countE
    rw [if_neg (show ¬ N.powE (d : Int) ≠ 0 by simp [hp]), if_neg (fun e => e ht), if_neg hl]
  · unfold write
    rw [if_neg (show ¬ N.powE (d : Int) ≠ 0 by simp [hp]), if_neg (fun e => e ht), if_neg hl]
    rfl
theorem count_free {N : Bch} (h : N.left = -1) : N.count = { N with done := N.done + 1 } := by
  unfold count
  rw [if_neg (by omega), if_pos h]
  cases N
  simp only at h
  subst h
  rfl
theorem read_ok {N : Bch} {d k : Nat} (hd : d < N.n) (hk : k < 52) (hf : (N.D d).f = false) (hdn : N.down = false) : N.readE (d : Int) (k : Int) = 0 ∧ N.read (d : Int) (k : Int) = secAt (N.D d).now k := by
  have hp : N.powE (d : Int) = 0 := powE_ok (pickE_ok (by omega) (by omega)) hdn
  have he : N.readE (d : Int) (k : Int) = 0 := by
    unfold readE
    rw [if_neg (show ¬ N.powE (d : Int) ≠ 0 by simp [hp]), show (N.at_ (d : Int)).f = false from hf]
    exact reachE_ok (by omega) (by omega)
  refine ⟨he, ?_⟩
  unfold read
  rw [if_neg (fun e => e he)]
  rfl
end Bch
end Go.Proofs.YtenkkdnepmoihaaGreatDoor
end
section
set_option maxRecDepth 20000
set_option linter.unusedVariables false
set_option linter.unusedSimpArgs false
namespace Go.Proofs.YtenkkdnepmoihaaGreatDoor
open Go.RowKit

def alvD (n : Nat) (lv : List Bool) (d : Int) : Bool := decide (0 ≤ d) && (decide (d < (n : Int)) && lv.getD d.toNat false)
theorem alvD_nat (n : Nat) (lv : List Bool) (j : Nat) : alvD n lv (j : Int) = (decide (j < n) && lv.getD j false) := by
  unfold alvD
  rw [decide_eq_true (show (0 : Int) ≤ (j : Int) by omega), Bool.true_and, Int.toNat_natCast]
  congr 1
  exact decide_eq_decide.2 (by omega)
theorem alvIs_any (B b : Nat) (H : BH) (N : Bch) (w : World) (h : BAt w B b H N) (lv : List Bool) (A : Option Addr) (n c : Nat) (hn : n = lv.length) (hv : RdO w w.heap.size A lv) (d : Int) (h0 : -1000000 ≤ d) (h1 : d ≤ 1000000) :
    Calls Tryz.prog 46 #[.pointer (some ⟨b, 0, none⟩), .slice A n c, .int .i64 d] w fun e w' => e = .returned (.bool (alvD N.n lv d)) ∧ w' = w := by
  subst hn
  have CL := Lib.hid (bch_len_any B b H N w h)
  have hn8 := h.ok.n
  have hlv := hv.1
  clear h
  unfold ptr at CL
  by_cases c0 : 0 ≤ d
  · obtain ⟨j, rfl⟩ : ∃ j : Nat, d = (j : Int) := ⟨d.toNat, by omega⟩
    by_cases c1 : j < N.n
    · have i1 : (j : Int) < (N.n : Int) := by omega
      by_cases c2 : j < lv.length
      · have i2 : (j : Int) < (lv.length : Int) := by omega
        obtain ⟨lb, off, rfl, hlb, hcv⟩ := hv.2 (by omega)
        have hcl := hcv j c2
        have R := Lib.hid (show alvD N.n lv (j : Int) = lv.getD j false by rw [alvD_nat, decide_eq_true c1]; rfl)
        clear hcv hv c1 c2
        generalize lv.getD j false = x at hcl R
        go_enter Tryz.func46, Tryz.ntmps46
        go_wp2_with (refine CL.out.mono ?_; rintro e w' ⟨rfl, rfl⟩)
        go_ret
        exact ⟨by rw [R.out]; rfl, rfl⟩
      · have i2 : ¬ ((j : Int) < (lv.length : Int)) := by omega
        have R := Lib.hid (show alvD N.n lv (j : Int) = false by
          rw [alvD_nat, decide_eq_true c1]
          show lv.getD j false = false
          rw [List.getD_eq_getElem?_getD, List.getElem?_eq_none (by omega)]; rfl)
        clear hv c1 c2
        go_enter Tryz.func46, Tryz.ntmps46
        go_wp2_with (refine CL.out.mono ?_; rintro e w' ⟨rfl, rfl⟩)
        go_ret
        exact ⟨by rw [R.out]; rfl, rfl⟩
    · have i1 : ¬ ((j : Int) < (N.n : Int)) := by omega
      have R := Lib.hid (show alvD N.n lv (j : Int) = false by rw [alvD_nat, decide_eq_false c1]; rfl)
      clear hv c1
      go_enter Tryz.func46, Tryz.ntmps46
      go_wp2_with (refine CL.out.mono ?_; rintro e w' ⟨rfl, rfl⟩)
      go_ret
      exact ⟨by rw [R.out]; rfl, rfl⟩
  · have i1 : ¬ (d ≥ 0) := c0
    have R := Lib.hid (show alvD N.n lv d = false by unfold alvD; rw [decide_eq_false c0]; rfl)
    clear hv CL
    go_enter Tryz.func46, Tryz.ntmps46
    go_wp2
    go_ret
    exact ⟨by rw [R.out]; rfl, rfl⟩
theorem alvFailed {N : Bch} {j : Nat} (h : j < N.n) : N.failed (j : Int) = (N.D j).f := by
  unfold Bch.failed
  rw [if_neg (by rw [Bch.pickE_ok (by omega) (by omega)]; simp)]
  rfl
/-- Does a disk serve? -/
def alvS (N : Bch) (lv : List Bool) (d : Int) : Bool := alvD N.n lv d && !(N.D d.toNat).f
theorem alvServes_any (B b : Nat) (H : BH) (N : Bch) (w : World) (h : BAt w B b H N) (lv : List Bool) (A : Option Addr) (n c : Nat) (hn : n = lv.length) (hv : RdO w w.heap.size A lv) (d : Int) (h0 : -1000000 ≤ d) (h1 : d ≤ 1000000) :
    Calls Tryz.prog 49 #[.pointer (some ⟨b, 0, none⟩), .slice A n c, .int .i64 d] w fun e w' => e = .returned (.bool (alvS N lv d)) ∧ w' = w := by
  have CL := Lib.hid (alvIs_any B b H N w h lv A n c hn hv d h0 h1)
  have CF := Lib.hid (bch_failed_any B b H N w h d (by constructor <;> omega))
  have R : Hid (alvS N lv d = (alvD N.n lv d && !(N.D d.toNat).f)) := rfl
  have RF := Lib.hid (show alvD N.n lv d = true → N.failed d = (N.D d.toNat).f from fun q => by
    unfold alvD at q
    simp only [Bool.and_eq_true, decide_eq_true_eq] at q
    have := alvFailed (N := N) (j := d.toNat) (by omega)
    rw [← this]; congr 1; omega)
  clear hv h hn
  unfold ptr at CF
  cases hx : alvD N.n lv d with
  | false =>
    rw [hx] at CL R
    clear CF RF hx
    go_enter Tryz.func49, Tryz.ntmps49
    go_wp2_with (refine CL.out.mono ?_; rintro e w' ⟨rfl, rfl⟩)
    go_ret
    exact ⟨by rw [R.out]; rfl, rfl⟩
  | true =>
    rw [RF.out hx] at CF
    rw [hx] at CL R
    clear RF hx
    generalize (N.D d.toNat).f = y at CF R
    go_enter Tryz.func49, Tryz.ntmps49
    go_wp2_with (first
      | (go_at_call 46; refine CL.out.mono ?_; rintro e w' ⟨rfl, rfl⟩)
      | (go_at_call 82; refine CF.out.mono ?_; rintro e w' ⟨rfl, rfl⟩))
    go_ret
    exact ⟨by rw [R.out]; rfl, rfl⟩
end Go.Proofs.YtenkkdnepmoihaaGreatDoor
end
section
set_option linter.unusedVariables false
set_option linter.unusedSimpArgs false
namespace Go.Proofs.YtenkkdnepmoihaaGreatDoor
open Go.RowKit

def zv (z : Int) : Value := .int .i64 z
/-- The slice value v owns these numbers, in a block from B on. -/
def OwJ (w : World) (B : Nat) (v : Value) (zs : List Int) : Prop := w.ownsRow B 3 1 v zs.length (zs.map zv)
/-- The slice reads as these numbers; its cells lie below block B. -/
def RdJ (w : World) (B : Nat) (A : Option Addr) (zs : List Int) : Prop :=
  zs.length ≤ 140737488355328 ∧ (0 < zs.length → ∃ b off, A = some ⟨b, off, none⟩ ∧ b < B ∧ ∀ j, j < zs.length → w.cell? ⟨b, off + j, none⟩ = some (.int .i64 (zs.getD j 0)))
theorem RdJ.nil (w : World) (B : Nat) (A : Option Addr) : RdJ w B A [] := ⟨by simp, fun h => by simp at h⟩
theorem OwJ.below {w w' : World} {B : Nat} {v : Value} {zs : List Int} (h : OwJ w B v zs) (hb : Below w.heap.size w w') : OwJ w' B v zs := World.ownsRow.kept h (grown_none hb) (Classical.em _)
theorem OwJ.rd {w : World} {B : Nat} {v : Value} {zs : List Int} (h : OwJ w B v zs) (hl : zs.length ≤ 140737488355328) : ∃ A c, v = .slice A zs.length c ∧ RdJ w w.heap.size A zs := by
  rcases h.2 with ⟨rfl, h0⟩ | ⟨g, cap, cur, rfl, hB, hg, _⟩
  · exact ⟨none, 0, by rw [h0], hl, fun h => by omega⟩
  · refine ⟨_, cap, rfl, hl, fun _ => ⟨g, 0, rfl, (Array.getElem?_eq_some_iff.1 hg).1, fun j hj => ?_⟩⟩
    rw [Nat.zero_add, World.ownsRow.cellAt h j (by omega)]
    simp [hj, zv]
theorem OwJ.le {w : World} {B B' : Nat} {v : Value} {zs : List Int} (h : OwJ w B v zs) (hB : B' ≤ B) : OwJ w B' v zs := by
  refine ⟨h.1, ?_⟩
  rcases h.2 with h1 | ⟨g, cap, cur, h1, h2, r⟩
  · exact .inl h1
  · exact .inr ⟨g, cap, cur, h1, by omega, r⟩
theorem info_z : (Tryz.prog.info? 3).map (fun i => (i.zero, i.size, i.bytes)) = some (some (.int .i64 0), 1, 8) := by kernel_rfl
theorem make_ints (n : Nat) (hn : n ≤ 1000000) (w : World) :
    (Instr.makeSlice 22 (.int .i64 (n : Int)) (.int .i64 (n : Int))).run Tryz.prog w = .ok (.slice (some ⟨w.heap.size, 0, none⟩) n n) (w.alloc (.cells (madeCells #[.int .i64 0] n) 3)) :=
  run_make_row' _ _ _ 8 Tryz.underlying22 info_z rfl _ _ n (by omega) (by omega) w
theorem ownJ_make (w : World) (n : Nat) (hn : n ≤ 1000000) : OwJ (w.alloc (.cells (madeCells #[.int .i64 0] n) 3)) w.heap.size (.slice (some ⟨w.heap.size, 0, none⟩) n n) (List.replicate n 0) := by
  have h := World.ownsRow_lit (base := w.heap.size) (e := 3) (size := 1) w (madeCells #[.int .i64 0] n) n (Nat.le_refl _) (by unfold maxLen; omega) (by simp [size_madeCells])
  rw [toList_madeCells_one] at h
  unfold OwJ
  simpa [zv] using h
theorem OwJ.set {w : World} {B g n c : Nat} {zs : List Int} (h : OwJ w B (.slice (some ⟨g, 0, none⟩) n c) zs) (hn : n = zs.length) (j : Nat) (z : Int) : OwJ (w.setCell ⟨g, j, none⟩ (.int .i64 z)) B (.slice (some ⟨g, 0, none⟩) n c) (zs.set j z) := by
  subst hn
  have h1 := (World.ownsRow.stored h j (.int .i64 z)).1
  unfold OwJ
  rw [List.length_set, List.map_set]
  exact h1
theorem OwJ.cellF {w : World} {B g n c : Nat} {zs : List Int} (h : OwJ w B (.slice (some ⟨g, 0, none⟩) n c) zs) (hn : n = zs.length) (j : Nat) (hj : j < n) : w.cell? ⟨g, j, none⟩ = some (.int .i64 (zs.getD j 0)) ∧ w.frozen? ⟨g, j, none⟩ = false := by
  subst hn
  refine ⟨?_, World.ownsRow.frozenAt h j⟩
  rw [World.ownsRow.cellAt h j (by omega)]
  simp [hj, zv]
end Go.Proofs.YtenkkdnepmoihaaGreatDoor
end
