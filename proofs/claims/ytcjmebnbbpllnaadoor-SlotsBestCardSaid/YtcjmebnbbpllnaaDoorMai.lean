/- Texts put together: SupDec, SlotDisk, SlotFind, SlotOn, Sub, SlotBst. -/
import Derived.Test.YtcjmebnbbpllnaaDoorMag
import Derived.Test.YtcjmebnbbpllnaaDoorMah
import Derived.Test.YtcjmebnbbpllnaaDoorMaf
import Derived.Deep.AppendLies
import Derived.Test.YtcjmebnbbpllnaaDoorMab
import Derived.Test.YtcjmebnbbpllnaaDoorMaa
import Derived.Deep.LoopGhost
import Derived.Deep.DeepCutAuto
import Derived.Deep.CutBlock
section
set_option linter.unusedVariables false
set_option linter.unusedSimpArgs false
namespace Go.Proofs.YtcjmebnbbpllnaaDoor
open Go.RowKit

theorem bytesEqual_any (A A' : Option Addr) (n n' c c' B B' : Nat) (bs bs' : List UInt8) (w : World) (hn : n = bs.length) (hn' : n' = bs'.length) (hr : RdB w B A bs) (hr' : RdB w B' A' bs') :
    Calls Tryd.prog 81 #[.slice A n c, .slice A' n' c'] w fun e w' => e = .returned (.bool (bs == bs')) ∧ w' = w := by
  have h1 := conv_str A bs n c B w hn hr
  have h2 := conv_str A' bs' n' c' B' w hn' hr'
  clear hn hn' hr hr'
  have h3 := str_eql 9 bs bs' w
  have h4 : ∀ x y, (eqGuard .eql 9 x y (str bs) (str bs')) = pure () := fun _ _ => by unfold str; rw [eqGuard_at_string]
  generalize str bs = s1 at h1 h3 h4
  generalize str bs' = s2 at h2 h3 h4
  go_enter Tryd.func81, Tryd.ntmps81
  go_wp2
  go_ret
  exact ⟨rfl, rfl⟩
theorem numB_bd (xs : List UInt8) (h : xs.length ≤ 4) : (-9223372036854775808 ≤ ((numB xs : Nat) : Int) ∧ ((numB xs : Nat) : Int) ≤ 9223372036854775807) := by
  have := (numB_lt xs xs.length (Nat.le_refl _) h).1
  rw [List.take_length] at this
  omega
theorem flds64 (bs : List UInt8) : Su64 (flds bs) :=
  ⟨numB_bd _ (by simp), numB_bd _ (by simp), numB_bd _ (by simp), numB_bd _ (by simp), numB_bd _ (by simp), numB_bd _ (by simp), numB_bd _ (by simp), numB_bd _ (by simp), numB_bd _ (by simp), numB_bd _ (by simp)⟩
theorem suDecode_short (A : Option Addr) (n c : Nat) (bs : List UInt8) (w : World) (hn : n = bs.length) (h32 : n ≠ 32) :
    Calls Tryd.prog 65 #[.slice A n c] w fun e w' => ∃ s, s = decS bs ∧ e = .returned (.tuple #[.agg #[.int .i64 s.g, .int .i64 s.al, .int .i64 s.ad, .int .i64 s.ac, .int .i64 s.bl, .int .i64 s.bd, .int .i64 s.bc, .bool s.r, .int .i64 s.wi, .int .i64 s.ep, .int .i64 s.ou], .int .i64 (decE bs)]) ∧ Below w.heap.size w w' := by
  have hd : decO bs = false := decO_not fun h => h32 (hn.trans h.1)
  have h1 : ((n : Int) != 32) = true := by rw [bne_iff_ne]; omega
  have H : Calls Tryd.prog 65 #[.slice A n c] w fun e w' => e = .returned (.tuple #[.agg #[.int .i64 suZ.g, .int .i64 suZ.al, .int .i64 suZ.ad, .int .i64 suZ.ac, .int .i64 suZ.bl, .int .i64 suZ.bd, .int .i64 suZ.bc, .bool suZ.r, .int .i64 suZ.wi, .int .i64 suZ.ep, .int .i64 suZ.ou], .int .i64 2]) ∧ Below w.heap.size w w' := by
    clear hd hn
    go_enter Tryd.func65, Tryd.ntmps65
    go_wp2
    refine bodyPost_ret (v := .tuple #[.agg #[.int .i64 suZ.g, .int .i64 suZ.al, .int .i64 suZ.ad, .int .i64 suZ.ac, .int .i64 suZ.bl, .int .i64 suZ.bd, .int .i64 suZ.bc, .bool suZ.r, .int .i64 suZ.wi, .int .i64 suZ.ep, .int .i64 suZ.ou], .int .i64 2]) (by simp [results, Tryd.results65, go_sem, suZ]) rfl ⟨rfl, ?_⟩
    exact below1 _ _
  refine H.mono ?_
  rintro e w' ⟨h2, h3⟩
  exact ⟨suZ, (decS_no hd).symm, by rw [decE_no hd]; exact h2, h3⟩
set_option maxHeartbeats 2000000 in
theorem suDecode_32 (b off c : Nat) (bs : List UInt8) (w : World) (hbs : bs.length = 32) (hc : 32 ≤ c) (hb : b < w.heap.size) (hk : ∀ k, k < 32 → w.cell? ⟨b, off + k, none⟩ = some (.int .u8 ((bs.getD k 0).toNat : Int))) (ht : TabOk w) :
    Calls Tryd.prog 65 #[.slice (some ⟨b, off, none⟩) 32 c] w fun e w' => ∃ s, s = decS bs ∧ e = .returned (.tuple #[.agg #[.int .i64 s.g, .int .i64 s.al, .int .i64 s.ad, .int .i64 s.ac, .int .i64 s.bl, .int .i64 s.bd, .int .i64 s.bc, .bool s.r, .int .i64 s.wi, .int .i64 s.ep, .int .i64 s.ou], .int .i64 (decE bs)]) ∧ Below w.heap.size w w' := by
  have CF := Lib.hid fun W (hW : Below w.heap.size w W) => suFields_any b off c bs W hbs (Nat.lt_of_lt_of_le hb hW.size) hc fun k h => (hW.cell (p := ⟨b, off + k, none⟩) hb).trans (hk k h)
  have s64 := flds64 bs
  have CN := Lib.hid fun W (q : suOk (flds bs) = false) => suEncode_no (flds bs) W s64 (Lib.hid q)
  have CY := Lib.hid fun W (q : suOk (flds bs) = true) (hW : Below w.heap.size w W) => suEncode_yes (flds bs) W s64 (Lib.hid q) (ht.below hW ht.pos)
  have HQ := Lib.hid fun (g : Nat) (W : World) (B : Nat) (ho : OwB 5 W B (.slice (some ⟨g, 0, none⟩) 32 32) (suB (flds bs))) (hW : Below w.heap.size w W) =>
    bytesEqual_any (some ⟨g, 0, none⟩) (some ⟨b, off, none⟩) 32 32 32 c W.heap.size w.heap.size (suB (flds bs)) bs W rfl hbs.symm ho.rdS.1 ⟨by omega, fun _ => ⟨b, off, rfl, hb, fun k h => (hW.cell (p := ⟨b, off + k, none⟩) hb).trans (hk k (by omega))⟩⟩
  have Hno := Lib.hid (show suOk (flds bs) = false → decO bs = false from fun q => decO_not fun h => by have h2 := h.2.1; rw [q] at h2; cases h2)
  have Hyes := Lib.hid (show suOk (flds bs) = true → decO bs = (suB (flds bs) == bs) from fun q => by rw [Bool.eq_iff_iff]; simp [decO, hbs, q])
  have R := Lib.hid (show decO bs = true → decS bs = flds bs ∧ decE bs = 0 from fun q => ⟨decS_yes q, decE_yes q⟩)
  have R' := Lib.hid (show decO bs = false → decS bs = suZ ∧ decE bs = 2 from fun q => ⟨decS_no q, decE_no q⟩)
  generalize decO bs = dec at Hno Hyes R R'
  generalize decS bs = ds at R R'
  generalize decE bs = de at R R'
  generalize (suB (flds bs) == bs) = eqb at HQ Hyes
  generalize suB (flds bs) = fb at CY HQ
  generalize suOk (flds bs) = ok at CN CY Hno Hyes
  generalize flds bs = s at CF CN CY R s64
  have F0 : Below w.heap.size w (w.alloc (.cells #[.int .i64 suZ.g, .int .i64 suZ.al, .int .i64 suZ.ad, .int .i64 suZ.ac, .int .i64 suZ.bl, .int .i64 suZ.bd, .int .i64 suZ.bc, .bool suZ.r, .int .i64 suZ.wi, .int .i64 suZ.ep, .int .i64 suZ.ou] 32)) := below1 w _
  have h0 : (w.alloc (.cells #[.int .i64 suZ.g, .int .i64 suZ.al, .int .i64 suZ.ad, .int .i64 suZ.ac, .int .i64 suZ.bl, .int .i64 suZ.bd, .int .i64 suZ.bc, .bool suZ.r, .int .i64 suZ.wi, .int .i64 suZ.ep, .int .i64 suZ.ou] 32)).heap[w.heap.size]? = some (.cells #[.int .i64 suZ.g, .int .i64 suZ.al, .int .i64 suZ.ad, .int .i64 suZ.ac, .int .i64 suZ.bl, .int .i64 suZ.bd, .int .i64 suZ.bc, .bool suZ.r, .int .i64 suZ.wi, .int .i64 suZ.ep, .int .i64 suZ.ou] 32 (0, 0)) := hp_new _ _ _ rfl
  generalize hW0 : w.alloc (.cells #[.int .i64 suZ.g, .int .i64 suZ.al, .int .i64 suZ.ad, .int .i64 suZ.ac, .int .i64 suZ.bl, .int .i64 suZ.bd, .int .i64 suZ.bc, .bool suZ.r, .int .i64 suZ.wi, .int .i64 suZ.ep, .int .i64 suZ.ou] 32) = W0 at F0 h0
  have hW0' : w.alloc (.cells #[.int .i64 0, .int .i64 0, .int .i64 0, .int .i64 0, .int .i64 0, .int .i64 0, .int .i64 0, .bool false, .int .i64 0, .int .i64 0, .int .i64 0] 32) = W0 := hW0
  have hz : w.heap.size < W0.heap.size := by rw [← hW0']; simp
  have Hb : ∀ W, Below W0.heap.size W0 W → W.heap[w.heap.size]? = some (.cells #[.int .i64 suZ.g, .int .i64 suZ.al, .int .i64 suZ.ad, .int .i64 suZ.ac, .int .i64 suZ.bl, .int .i64 suZ.bd, .int .i64 suZ.bc, .bool suZ.r, .int .i64 suZ.wi, .int .i64 suZ.ep, .int .i64 suZ.ou] 32 (0, 0)) := fun W hW => (hW.block _ hz).trans h0
  have HB := Lib.hid Hb
  clear hW0 h0 Hb ht hk hbs
  go_enter Tryd.func65, Tryd.ntmps65
  go_wp2_with fail
  (with_reducible refine (CF.out _ F0).mono ?_); rintro e w1 ⟨s1, hs1, rfl, hb1⟩
  subst hs1
  have F1 : Below W0.heap.size W0 w1 := hb1
  have T1 := sat_new w1 s1 32 (0, 0)
  have F2 : Below W0.heap.size W0 (w1.alloc (.cells #[.int .i64 s1.g, .int .i64 s1.al, .int .i64 s1.ad, .int .i64 s1.ac, .int .i64 s1.bl, .int .i64 s1.bd, .int .i64 s1.bc, .bool s1.r, .int .i64 s1.wi, .int .i64 s1.ep, .int .i64 s1.ou] 32)) := F1.trans ((below1 w1 _).mono F1.size)
  have h1z : w1.heap.size < (w1.alloc (.cells #[.int .i64 s1.g, .int .i64 s1.al, .int .i64 s1.ad, .int .i64 s1.ac, .int .i64 s1.bl, .int .i64 s1.bd, .int .i64 s1.bc, .bool s1.r, .int .i64 s1.wi, .int .i64 s1.ep, .int .i64 s1.ou] 32)).heap.size := by simp
  generalize hW1 : w1.alloc (.cells #[.int .i64 s1.g, .int .i64 s1.al, .int .i64 s1.ad, .int .i64 s1.ac, .int .i64 s1.bl, .int .i64 s1.bd, .int .i64 s1.bc, .bool s1.r, .int .i64 s1.wi, .int .i64 s1.ep, .int .i64 s1.ou] 32) = W1 at T1 F2 h1z
  clear hb1
  go_wp2_with fail
  have Z := Lib.hid (fun W w' (hW : Below W0.heap.size W0 W) (v : Su) (h3 : w'.heap[w.heap.size]? = some (.cells #[.int .i64 v.g, .int .i64 v.al, .int .i64 v.ad, .int .i64 v.ac, .int .i64 v.bl, .int .i64 v.bd, .int .i64 v.bc, .bool v.r, .int .i64 v.wi, .int .i64 v.ep, .int .i64 v.ou] 32 (0, 0))) (g3 : W.grownBy w' (some w.heap.size)) =>
    (show SAt w' w.heap.size v ∧ Below w.heap.size w w' from ⟨sat_block h3, (F0.trans (hW.mono (Nat.le_of_lt hz))).grown g3 (F0.trans (hW.mono (Nat.le_of_lt hz))).size (fun j e => by injection e with e; omega)⟩))
  cases ok
  · obtain ⟨rfl, rfl⟩ := R'.out (Hno.out rfl)
    (with_reducible refine (CN.out _ rfl).mono ?_); rintro e w2 ⟨rfl, hb2⟩
    have F3 := F2.trans (hb2.mono F2.size)
    have B3 := HB.out _ F3
    clear CN CY HQ Hno Hyes R R' CF HB F0 F1
    go_wp2_with (refine wpList_store_blk rfl 32 _ _ (by rfl) w.heap.size 0 (.agg (suL suZ).toArray) (by rfl) (by rfl) (suL suZ) 32 B3 (suL suZ) rfl 11 rfl (by kernel_rfl) (by decide) (suL_one suZ) (suL suZ) (by rfl) ?_; intro w3 h3 g3; obtain ⟨⟨z0, z1, z2, z3, z4, z5, z6, z7, z8, z9, z10⟩, F4⟩ := Z.out _ _ F3 suZ h3 g3)
    refine bodyPost_ret (v := .tuple #[.agg #[.int .i64 suZ.g, .int .i64 suZ.al, .int .i64 suZ.ad, .int .i64 suZ.ac, .int .i64 suZ.bl, .int .i64 suZ.bd, .int .i64 suZ.bc, .bool suZ.r, .int .i64 suZ.wi, .int .i64 suZ.ep, .int .i64 suZ.ou], .int .i64 2]) (by simp [results, Tryd.results65, go_sem, z0, z1, z2, z3, z4, z5, z6, z7, z8, z9, z10]) rfl ⟨_, rfl, rfl, F4⟩
  · have hdec := Hyes.out rfl
    (with_reducible refine (CY.out _ rfl (F0.trans (F2.mono (Nat.le_of_lt hz)))).mono ?_); rintro e w2 ⟨g, rfl, ho, hb2⟩
    have F3 := F2.trans (hb2.mono F2.size)
    have T3 := T1.below hb2 h1z
    have CQ := Lib.hid (HQ.out g w2 _ ho (F0.trans (F3.mono (Nat.le_of_lt hz))))
    have B3 := HB.out _ F3
    clear CN CY HQ Hno Hyes CF HB F0 F1 ho hb2
    cases eqb
    · obtain ⟨rfl, rfl⟩ := R'.out hdec
      clear R R' hdec
      go_wp2_with (first
        | (go_at_call 81; refine CQ.out.mono ?_; rintro e wx ⟨rfl, rfl⟩)
        | (refine wpList_store_blk rfl 32 _ _ (by rfl) w.heap.size 0 (.agg (suL suZ).toArray) (by rfl) (by rfl) (suL suZ) 32 B3 (suL suZ) rfl 11 rfl (by kernel_rfl) (by decide) (suL_one suZ) (suL suZ) (by rfl) ?_; intro w3 h3 g3; obtain ⟨⟨z0, z1, z2, z3, z4, z5, z6, z7, z8, z9, z10⟩, F4⟩ := Z.out _ _ F3 suZ h3 g3))
      refine bodyPost_ret (v := .tuple #[.agg #[.int .i64 suZ.g, .int .i64 suZ.al, .int .i64 suZ.ad, .int .i64 suZ.ac, .int .i64 suZ.bl, .int .i64 suZ.bd, .int .i64 suZ.bc, .bool suZ.r, .int .i64 suZ.wi, .int .i64 suZ.ep, .int .i64 suZ.ou], .int .i64 2]) (by simp [results, Tryd.results65, go_sem, z0, z1, z2, z3, z4, z5, z6, z7, z8, z9, z10]) rfl ⟨_, rfl, rfl, F4⟩
    · obtain ⟨rfl, rfl⟩ := R.out hdec
      clear R R' hdec
      obtain ⟨t0, t1, t2, t3, t4, t5, t6, t7, t8, t9, t10⟩ := T3
      go_wp2_with (first
        | (go_at_call 81; refine CQ.out.mono ?_; rintro e wx ⟨rfl, rfl⟩)
        | (refine wpList_store_blk rfl 32 _ _ (by rfl) w.heap.size 0 (.agg (suL ds).toArray) (by rfl) (by rfl) (suL suZ) 32 B3 (suL ds) rfl 11 rfl (by kernel_rfl) (by decide) (suL_one ds) (suL ds) (by rfl) ?_; intro w3 h3 g3; obtain ⟨⟨z0, z1, z2, z3, z4, z5, z6, z7, z8, z9, z10⟩, F4⟩ := Z.out _ _ F3 ds h3 g3))
      refine bodyPost_ret (v := .tuple #[.agg #[.int .i64 ds.g, .int .i64 ds.al, .int .i64 ds.ad, .int .i64 ds.ac, .int .i64 ds.bl, .int .i64 ds.bd, .int .i64 ds.bc, .bool ds.r, .int .i64 ds.wi, .int .i64 ds.ep, .int .i64 ds.ou], .int .i64 0]) (by simp [results, Tryd.results65, go_sem, z0, z1, z2, z3, z4, z5, z6, z7, z8, z9, z10]) rfl ⟨_, rfl, rfl, F4⟩
theorem suDecode_any (A : Option Addr) (n c : Nat) (bs : List UInt8) (w : World) (hn : n = bs.length) (hc : n ≤ c) (hr : RdB w w.heap.size A bs) (ht : TabOk w) :
    Calls Tryd.prog 65 #[.slice A n c] w fun e w' => ∃ s, s = decS bs ∧ e = .returned (.tuple #[.agg #[.int .i64 s.g, .int .i64 s.al, .int .i64 s.ad, .int .i64 s.ac, .int .i64 s.bl, .int .i64 s.bd, .int .i64 s.bc, .bool s.r, .int .i64 s.wi, .int .i64 s.ep, .int .i64 s.ou], .int .i64 (decE bs)]) ∧ Below w.heap.size w w' := by
  by_cases h32 : n = 32
  · subst h32
    obtain ⟨b, off, rfl, hb, hk⟩ := hr.2 (by omega)
    exact suDecode_32 b off c bs w hn.symm hc hb (fun k h => hk k (by omega)) ht
  · exact suDecode_short A n c bs w hn h32
end Go.Proofs.YtcjmebnbbpllnaaDoor
end
section
set_option maxRecDepth 8000
set_option linter.unusedVariables false
set_option linter.unusedSimpArgs false
namespace Go.Proofs.YtcjmebnbbpllnaaDoor
open Go.RowKit

def sucs (l : List Su) : List Value := l.flatMap suL
theorem sucs_snoc (l : List Su) (s : Su) : sucs (l ++ [s]) = sucs l ++ suL s := by simp [sucs]
theorem sucs_len : ∀ l : List Su, (sucs l).length = l.length * 11
  | [] => rfl
  | s :: l => by
    have ih := sucs_len l
    show (suL s ++ sucs l).length = (l.length + 1) * 11
    rw [List.length_append, ih, show (suL s).length = 11 from rfl]; omega
theorem info_su : (Tryd.prog.info? 32).map (fun i => (i.zero, i.size, i.bytes)) = some (some (.agg (suL suZ).toArray), 11, 88) := by kernel_rfl
theorem built_su (s : Su) (w : World) : (Instr.buildSlice 73 1 #[(0, .agg #[.int .i64 s.g, .int .i64 s.al, .int .i64 s.ad, .int .i64 s.ac, .int .i64 s.bl, .int .i64 s.bd, .int .i64 s.bc, .bool s.r, .int .i64 s.wi, .int .i64 s.ep, .int .i64 s.ou])]).run Tryd.prog w = .ok (.slice (some ⟨w.heap.size, 0, none⟩) 1 1) (w.alloc (.cells (suL s).toArray 32)) := by kernel_rfl
def dTo (D : Dsk) (j : Nat) : List Su := (List.range j).flatMap (slotL D)
theorem dTo_succ (D : Dsk) (j : Nat) : dTo D (j + 1) = dTo D j ++ slotL D j := by unfold dTo; rw [List.range_succ, List.flatMap_append]; simp
theorem dTo_two (D : Dsk) : dTo D 2 = dskSu D := by rw [dTo_succ, dTo_succ]; rfl
theorem slotL_f {D : Dsk} (h : D.f = true) (k : Nat) : slotL D k = [] := if_pos h
theorem slotL_no {D : Dsk} {k : Nat} (hf : D.f = false) (h : decO (secAt D.now k) = false) : slotL D k = [] := by unfold slotL; rw [if_neg (by simp [hf]), if_neg (by simp [h])]
theorem slotL_yes {D : Dsk} {k : Nat} (hf : D.f = false) (h : decO (secAt D.now k) = true) : slotL D k = [decS (secAt D.now k)] := by unfold slotL; rw [if_neg (by simp [hf]), if_pos h]
theorem dTo_len (D : Dsk) : ∀ j, (dTo D j).length ≤ j
  | 0 => Nat.le_refl _
  | j + 1 => by
    have := dTo_len D j
    have h1 : (slotL D j).length ≤ 1 := by unfold slotL; (repeat' split) <;> simp
    rw [dTo_succ, List.length_append]; omega
def dnE (N : Bch) : Int := if N.down = true then 6 else 0
def dnL (N : Bch) (d : Nat) : List Su := if N.down = true then [] else dskSu (N.D d)
theorem own_nilS (w : World) (B : Nat) : w.ownsRow B 32 11 (.slice none 0 0) 0 (sucs []) := ⟨rfl, .inl ⟨rfl, rfl⟩⟩
theorem su_cells (w : World) (b : Nat) (s : Su) : (∀ j u, (suL s)[j]? = some u → (w.alloc (.cells (suL s).toArray 32)).cell? ((⟨w.heap.size, 0, none⟩ : Addr).add j) = some u) := World.news_of_block (heap_alloc_new w _)
theorem idx0 (w : World) : (Instr.index 102 (.agg #[.int .i64 0, .int .i64 1]) (.int .i64 0)).run Tryd.prog w = .ok (.int .i64 0) w := by kernel_rfl
theorem idx1 (w : World) : (Instr.index 102 (.agg #[.int .i64 0, .int .i64 1]) (.int .i64 1)).run Tryd.prog w = .ok (.int .i64 1) w := by kernel_rfl
set_option maxHeartbeats 4000000 in
theorem onDisk_any (B b : Nat) (H : BH) (N : Bch) (w : World) (h : BAt w B b H N) (d : Nat) (hd : d < N.n) (ht : TabOk w) :
    Calls Tryd.prog 37 #[ptr b, .int .i64 (d : Int)] w fun e w' => ∃ v, e = .returned (.tuple #[v, .int .i64 (dnE N)]) ∧ w'.ownsRow w.heap.size 32 11 v (dnL N d).length (sucs (dnL N d)) ∧ Below w.heap.size w w' := by
  obtain ⟨iw, hiw, hzz⟩ := Option.map_eq_some_iff.1 info_su
  simp only [Prod.mk.injEq] at hzz
  have Hzw := Lib.hid hzz.1
  have Hsw := Lib.hid hzz.2.1
  have Hbw := Lib.hid hzz.2.2
  have Hiw := Lib.hid hiw
  clear hzz hiw
  have hx0 := idx0
  have hx1 := idx1
  have Hh := Lib.hid h
  have Ht := Lib.hid ht
  have Htp := ht.pos
  have hn8 := h.ok.n
  have Hd := Lib.hid hd
  have hpk : N.pickE (d : Int) = 0 := Bch.pickE_ok (by omega) (by omega)
  have HLn : Hid (∀ k, k < 52 → (secAt (N.D d).now k).length = 32) := fun k hk => secAt_len (by rw [(h.dsk d hd).ok.now]; omega)
  have CR := Lib.hid (fun W (hb : Below w.heap.size w W) (k : Nat) (hk : k < 52) => bch_read_any B b H N W (h.below hb) (d : Int) (k : Int) ⟨by omega, by omega⟩ ⟨by omega, by omega⟩)
  clear h ht
  unfold ptr at CR ⊢
  cases hdn : N.down with
  | true =>
    have hRE : ∀ k : Nat, N.readE (d : Int) (k : Int) = 6 := fun k => by rw [(Bch.readE_pow (k : Int) (by rw [Bch.powE_down hpk hdn]; decide)).1, Bch.powE_down hpk hdn]
    have HE := Lib.hid (show dnE N = 6 from if_pos hdn)
    have HL := Lib.hid (show dnL N d = [] from if_pos hdn)
    have C0 := Lib.hid (CR.out w (Below.refl _ _) 0 (by omega))
    have C0 := C0.out
    rw [hRE 0] at C0
    have C0 := Lib.hid C0
    clear CR hRE hdn
    go_enter Tryd.func37, Tryd.ntmps37
    go_wp2
    go_loopw [6, 14] (fun v i wr => v = .slice none 0 0 ∧ i = .int .i64 0 ∧ wr = w) (fun _ _ _ => 0)
    case atStart => exact ⟨rfl, rfl, rfl⟩
    case round =>
      obtain ⟨rfl, rfl, rfl⟩ := hrel
      go_wp2_with fail
      refine C0.out.mono ?_
      rintro e w1 ⟨v, rfl, _, hb1⟩
      go_wp2
      go_ret2
      exact ⟨.slice none 0 0, by rw [HE.out]; rfl, by rw [HL.out]; exact own_nilS _ _, hb1⟩
  | false =>
    have HE := Lib.hid (show dnE N = 0 by unfold dnE; rw [if_neg (by simp [hdn])])
    have HL := Lib.hid (show dnL N d = dskSu (N.D d) by unfold dnL; rw [if_neg (by simp [hdn])])
    cases hf : (N.D d).f with
    | true =>
      have hpw := Bch.powE_ok hpk hdn
      have hRE : ∀ k : Nat, N.readE (d : Int) (k : Int) = 5 := fun k => by rw [(Bch.readE_dsk (k : Int) hpw).1, show (N.at_ (d : Int)).f = true from hf]; exact reachE_fail _
      have HL := Lib.hid (HL.out.trans (show dskSu (N.D d) = [] by unfold dskSu; rw [slotL_f hf, slotL_f hf]; rfl))
      have C0 := CR.out w (Below.refl _ _) 0 (by omega)
      rw [hRE 0] at C0
      have C0 := Lib.hid C0
      clear CR hRE hdn hf hpw
      go_enter Tryd.func37, Tryd.ntmps37
      go_wp2
      go_loopw [6, 14] (fun v i wr => v = .slice none 0 0 ∧ i = .int .i64 0 ∧ wr = w) (fun _ _ _ => 0)
      case atStart => exact ⟨rfl, rfl, rfl⟩
      case round =>
        obtain ⟨rfl, rfl, rfl⟩ := hrel
        go_wp2_with fail
        refine C0.out.mono ?_
        rintro e w1 ⟨v, rfl, _, hb1⟩
        go_wp2
        go_ret2
        exact ⟨.slice none 0 0, by rw [HE.out]; rfl, by rw [HL.out]; exact own_nilS _ _, hb1⟩
    | false =>
      have HR := Lib.hid (fun (k : Nat) (hk : k < 52) => Bch.read_ok (N := N) (d := d) (k := k) hd hk hf hdn)
      have CR := Lib.hid (fun W (hb : Below w.heap.size w W) (k : Nat) (hk : k < 52) => by have h := CR.out W hb k hk; rw [(HR.out k hk).1, (HR.out k hk).2] at h; exact h)
      have HSy := Lib.hid (fun k => slotL_yes (D := N.D d) (k := k) hf)
      have HSn := Lib.hid (fun k => slotL_no (D := N.D d) (k := k) hf)
      clear hf hdn hpk
      generalize N.D d = D at *
      go_enter Tryd.func37, Tryd.ntmps37
      go_wp2
      go_loopw [6, 14] (fun v i wr => ∃ (j : Nat) (i' : Int), (i' = 0 ∧ j = 0 ∨ i' = 1 ∧ j = 1 ∨ i' = 2 ∧ j = 2) ∧ i = .int .i64 i' ∧ wr.ownsRow w.heap.size 32 11 v (dTo D j).length (sucs (dTo D j)) ∧ Below w.heap.size w wr) (fun _ i _ => 2 - (intOf i).toNat)
      case atStart => exact ⟨0, 0, .inl ⟨rfl, rfl⟩, rfl, own_nilS _ _, Below.refl _ _⟩
      case round =>
        obtain ⟨j, i', hj, rfl, hown, hbr⟩ := hrel
        have Hown := Lib.hid hown
        have Hbr := Lib.hid hbr
        clear hown hbr
        rcases hj with ⟨rfl, rfl⟩ | ⟨rfl, rfl⟩ | ⟨rfl, rfl⟩
        · have CRj := CR.out wr Hbr.out 0 (by omega)
          have Hs := Lib.hid (dTo_succ D 0)
          have HSy := Lib.hid (HSy.out 0)
          have HSn := Lib.hid (HSn.out 0)
          have Hlx := HLn.out 0 (by omega)
          have Hll := Lib.hid (dTo_len D 0)
          generalize secAt D.now 0 = x at *
          have CRj := Lib.hid CRj
          go_wp2_with fail
          refine CRj.out.mono ?_
          rintro e w1 ⟨v1, rfl, ho, hb1⟩
          obtain ⟨A1, c1, rfl, hc1, hr1⟩ := ho.rd
          rw [Hlx] at hc1 ⊢
          have B1 := Lib.hid (Hbr.out.trans (hb1.mono Hbr.out.size))
          have CD := Lib.hid (suDecode_any A1 32 c1 x w1 Hlx.symm hc1 hr1 (Ht.out.below B1.out Htp))
          have O1 := Lib.hid (own_heap Hown.out fun k hk => hb1.block k (Hown.out.lt k hk).2)
          have Z1 := Lib.hid hb1.size
          clear ho hr1 hb1
          go_wp2_with fail
          refine CD.out.mono ?_
          rintro e w2 ⟨s, hs, rfl, hb2⟩
          have B2 := Lib.hid (B1.out.trans (hb2.mono B1.out.size))
          have O2 := Lib.hid (own_heap O1.out fun k hk => hb2.block k (O1.out.lt k hk).2)
          have Hsx := Lib.hid hs
          have Hz2 := Lib.hid hb2.size
          clear hs hb2
          cases hdc : decO x with
          | false =>
            have HE2 := decE_no hdc
            have HS0 := Lib.hid (HSn.out hdc)
            go_wp2_with (refine wpList_store_blk rfl 32 _ _ (by rfl) w2.heap.size 0 (.agg (suL s).toArray) (by rfl) (by rfl) (suL suZ) 32 (heap_alloc_new _ _) (suL s) rfl 11 rfl (by kernel_rfl) (by decide) (suL_one s) (suL s) (by rfl) ?_; intro w3 h3 g3)
            go_roundw
            case rel =>
              have b3 : Below w2.heap.size w2 w3 := (below1 w2 _).grown g3 (by simp) (fun j e => by injection e with e; omega)
              refine ⟨1, 1, .inr (.inl ⟨rfl, rfl⟩), by go_num, ?_, B2.out.trans (b3.mono B2.out.size)⟩
              rw [show dTo D 1 = dTo D 0 from by have := Hs.out; rwa [HS0.out, List.append_nil] at this]; exact own_heap O2.out fun k hk => b3.block k (O2.out.lt k hk).2
            case measure => first | (simp [intOf]; done) | (simp [intOf]; omega) | decide
          | true =>
            have HE2 := decE_yes hdc
            have HS0 := Lib.hid (HSy.out hdc)
            go_wp2_with (first
              | (refine wpList_store_blk rfl 32 _ _ (by rfl) w2.heap.size 0 (.agg (suL s).toArray) (by rfl) (by rfl) (suL suZ) 32 (heap_alloc_new _ _) (suL s) rfl 11 rfl (by kernel_rfl) (by decide) (suL_one s) (suL s) (by rfl) ?_
                 intro w3 h3 g3
                 obtain ⟨t0, t1, t2, t3, t4, t5, t6, t7, t8, t9, t10⟩ := sat_block h3
                 have b3 : Below w2.heap.size w2 w3 := (below1 w2 _).grown g3 (by simp) (fun j e => by injection e with e; omega)
                 have B3 := Lib.hid (B2.out.trans (b3.mono B2.out.size))
                 have O3 := Lib.hid (own_heap O2.out fun k hk => b3.block k (O2.out.lt k hk).2)
                 have O4 := Lib.hid (own_heap (w' := w3.alloc (.cells (suL s).toArray 32)) O3.out fun k hk => heap_alloc_old w3 _ (O3.out.lt k hk).2)
                 clear h3 g3 b3)
              | (at_builtin
                 refine wpList_append_lies _ rfl _ _ _ rfl w.heap.size 32 iw _ 11 88 Tryd.underlying73 Hiw.out Hzw.out Hsw.out Hbw.out (by rfl) (by omega) u6 _ (sucs (dTo D 0)) (by rfl) O4.out ⟨w3.heap.size, 0, none⟩ 1 1 (suL s) (by rfl) (by rfl) (World.news_of_block (heap_alloc_new w3 _)) (suL_one s) (by omega) (by have := Hll.out; unfold maxLen; omega) (by have := Hll.out; omega) (by have := B3.out.size; simp; omega) _ rfl ?_
                 intro g4 cap4 w4 hown4 hg4 hat4 hlt4
                 have B4 := Lib.hid (B3.out.trans (((below1 w3 (.cells (suL s).toArray 32)).mono B3.out.size).grown hg4 (by have := B3.out.size; simp; omega) (fun j e => (O3.out.lt j e).1)))
                 have O5 := Lib.hid hown4
                 clear hown4 hg4 hat4 hlt4))
            go_roundw
            case rel =>
              refine ⟨1, 1, .inr (.inl ⟨rfl, rfl⟩), by go_num, ?_, B4.out⟩
              rw [show dTo D 1 = dTo D 0 ++ [s] from by have := Hs.out; rwa [HS0.out, ← Hsx.out] at this, sucs_snoc, List.length_append]; exact O5.out
            case measure => first | (simp [intOf]; done) | (simp [intOf]; omega) | decide
        · have CRj := CR.out wr Hbr.out 1 (by omega)
          have Hs := Lib.hid (dTo_succ D 1)
          have HSy := Lib.hid (HSy.out 1)
          have HSn := Lib.hid (HSn.out 1)
          have Hlx := HLn.out 1 (by omega)
          have Hll := Lib.hid (dTo_len D 1)
          generalize secAt D.now 1 = x at *
          have CRj := Lib.hid CRj
          go_wp2_with fail
          refine CRj.out.mono ?_
          rintro e w1 ⟨v1, rfl, ho, hb1⟩
          obtain ⟨A1, c1, rfl, hc1, hr1⟩ := ho.rd
          rw [Hlx] at hc1 ⊢
          have B1 := Lib.hid (Hbr.out.trans (hb1.mono Hbr.out.size))
          have CD := Lib.hid (suDecode_any A1 32 c1 x w1 Hlx.symm hc1 hr1 (Ht.out.below B1.out Htp))
          have O1 := Lib.hid (own_heap Hown.out fun k hk => hb1.block k (Hown.out.lt k hk).2)
          have Z1 := Lib.hid hb1.size
          clear ho hr1 hb1
          go_wp2_with fail
          refine CD.out.mono ?_
          rintro e w2 ⟨s, hs, rfl, hb2⟩
          have B2 := Lib.hid (B1.out.trans (hb2.mono B1.out.size))
          have O2 := Lib.hid (own_heap O1.out fun k hk => hb2.block k (O1.out.lt k hk).2)
          have Hsx := Lib.hid hs
          have Hz2 := Lib.hid hb2.size
          clear hs hb2
          cases hdc : decO x with
          | false =>
            have HE2 := decE_no hdc
            have HS0 := Lib.hid (HSn.out hdc)
            go_wp2_with (refine wpList_store_blk rfl 32 _ _ (by rfl) w2.heap.size 0 (.agg (suL s).toArray) (by rfl) (by rfl) (suL suZ) 32 (heap_alloc_new _ _) (suL s) rfl 11 rfl (by kernel_rfl) (by decide) (suL_one s) (suL s) (by rfl) ?_; intro w3 h3 g3)
            go_roundw
            case rel =>
              have b3 : Below w2.heap.size w2 w3 := (below1 w2 _).grown g3 (by simp) (fun j e => by injection e with e; omega)
              refine ⟨2, 2, .inr (.inr ⟨rfl, rfl⟩), by go_num, ?_, B2.out.trans (b3.mono B2.out.size)⟩
              rw [show dTo D 2 = dTo D 1 from by have := Hs.out; rwa [HS0.out, List.append_nil] at this]; exact own_heap O2.out fun k hk => b3.block k (O2.out.lt k hk).2
            case measure => first | (simp [intOf]; done) | (simp [intOf]; omega) | decide
          | true =>
            have HE2 := decE_yes hdc
            have HS0 := Lib.hid (HSy.out hdc)
            go_wp2_with (first
              | (refine wpList_store_blk rfl 32 _ _ (by rfl) w2.heap.size 0 (.agg (suL s).toArray) (by rfl) (by rfl) (suL suZ) 32 (heap_alloc_new _ _) (suL s) rfl 11 rfl (by kernel_rfl) (by decide) (suL_one s) (suL s) (by rfl) ?_
                 intro w3 h3 g3
                 obtain ⟨t0, t1, t2, t3, t4, t5, t6, t7, t8, t9, t10⟩ := sat_block h3
                 have b3 : Below w2.heap.size w2 w3 := (below1 w2 _).grown g3 (by simp) (fun j e => by injection e with e; omega)
                 have B3 := Lib.hid (B2.out.trans (b3.mono B2.out.size))
                 have O3 := Lib.hid (own_heap O2.out fun k hk => b3.block k (O2.out.lt k hk).2)
                 have O4 := Lib.hid (own_heap (w' := w3.alloc (.cells (suL s).toArray 32)) O3.out fun k hk => heap_alloc_old w3 _ (O3.out.lt k hk).2)
                 clear h3 g3 b3)
              | (at_builtin
                 refine wpList_append_lies _ rfl _ _ _ rfl w.heap.size 32 iw _ 11 88 Tryd.underlying73 Hiw.out Hzw.out Hsw.out Hbw.out (by rfl) (by omega) u6 _ (sucs (dTo D 1)) (by rfl) O4.out ⟨w3.heap.size, 0, none⟩ 1 1 (suL s) (by rfl) (by rfl) (World.news_of_block (heap_alloc_new w3 _)) (suL_one s) (by omega) (by have := Hll.out; unfold maxLen; omega) (by have := Hll.out; omega) (by have := B3.out.size; simp; omega) _ rfl ?_
                 intro g4 cap4 w4 hown4 hg4 hat4 hlt4
                 have B4 := Lib.hid (B3.out.trans (((below1 w3 (.cells (suL s).toArray 32)).mono B3.out.size).grown hg4 (by have := B3.out.size; simp; omega) (fun j e => (O3.out.lt j e).1)))
                 have O5 := Lib.hid hown4
                 clear hown4 hg4 hat4 hlt4))
            go_roundw
            case rel =>
              refine ⟨2, 2, .inr (.inr ⟨rfl, rfl⟩), by go_num, ?_, B4.out⟩
              rw [show dTo D 2 = dTo D 1 ++ [s] from by have := Hs.out; rwa [HS0.out, ← Hsx.out] at this, sucs_snoc, List.length_append]; exact O5.out
            case measure => first | (simp [intOf]; done) | (simp [intOf]; omega) | decide
        · have H2 := Lib.hid (dTo_two D)
          go_wp2
          go_ret2
          exact ⟨u6, by rw [HE.out]; rfl, by rw [HL.out, ← H2.out]; exact Hown.out, Hbr.out⟩
end Go.Proofs.YtcjmebnbbpllnaaDoor
end
section
set_option maxRecDepth 8000
set_option linter.unusedVariables false
set_option linter.unusedSimpArgs false
namespace Go.Proofs.YtcjmebnbbpllnaaDoor
open Go.RowKit

theorem sucs_get : ∀ (l : List Su) (i : Nat), i < l.length → ∀ j, j < 11 → (sucs l)[i * 11 + j]? = (suL (l.getD i suZ))[j]?
  | [], i, hi, _, _ => by simp at hi
  | s :: l, i, hi, j, hj => by
    have e : sucs (s :: l) = suL s ++ sucs l := rfl
    have hl : (suL s).length = 11 := rfl
    rw [e]
    cases i with
    | zero => rw [Nat.zero_mul, Nat.zero_add, List.getElem?_append_left (by omega)]; rfl
    | succ i =>
      rw [List.getElem?_append_right (by omega), hl, show (i + 1) * 11 + j - 11 = i * 11 + j by omega, sucs_get l i (by simpa using hi) j hj]
      rfl
theorem range_su {w : World} {B g n cap : Nat} {l : List Su} (h : w.ownsRow B 32 11 (.slice (some ⟨g, 0, none⟩) n cap) n (sucs l)) {i : Nat} (hi : i < l.length) : w.rangeAt g (i * 11) (suL (l.getD i suZ)) := fun j v hj => by
  have hj11 : j < 11 := (List.getElem?_eq_some_iff.1 hj).1
  have hx : (sucs l)[i * 11 + j]? = some v := (sucs_get l i hi j hj11).trans hj
  rw [own_cell_at h _ (List.getElem?_eq_some_iff.1 hx).1]
  exact hx
theorem best1_any (x : Su) (p : Nat) (bg : Int) (w : World) (hc : w.cell? ⟨p, 0, none⟩ = some (.int .i64 bg)) (hb : 0 ≤ bg ∧ bg ≤ 2147483647) :
    Calls Tryd.prog 39 #[.agg (suL x).toArray, .pointer (some ⟨p, 0, none⟩)] w fun e w' => e = .returned (.bool (decide (bg - 1 ≤ x.g))) ∧ Below w.heap.size w w' := by
  show Calls Tryd.prog 39 #[.agg #[.int .i64 x.g, .int .i64 x.al, .int .i64 x.ad, .int .i64 x.ac, .int .i64 x.bl, .int .i64 x.bd, .int .i64 x.bc, .bool x.r, .int .i64 x.wi, .int .i64 x.ep, .int .i64 x.ou], .pointer (some ⟨p, 0, none⟩)] w fun e w' => e = .returned (.bool (decide (bg - 1 ≤ x.g))) ∧ Below w.heap.size w w'
  have hlt := World.block_lt_of_cell? _ _ hc
  have hne : p ≠ w.heap.size := by have : p < w.heap.size := hlt; omega
  have hw : IntKind.i64.wrap (bg - 1) = bg - 1 := by rw [IntKind.wrap_i64]; omega
  have B1 := Lib.hid (below1 w (.cells (suL x).toArray 32))
  go_enter Tryd.func39, Tryd.ntmps39
  go_wp2
  go_ret
  exact ⟨rfl, B1.out⟩
theorem getD_take {l : List Su} {i : Nat} (hi : i < l.length) : l.take (i + 1) = l.take i ++ [l.getD i suZ] := by
  rw [List.take_succ_eq_append_getElem hi]; simp [hi]
set_option maxHeartbeats 800000 in
theorem idxS_any (v : Value) (B : Nat) (l : List Su) (p : Nat) (bg : Int) (w : World) (h : w.ownsRow B 32 11 v l.length (sucs l)) (hl : l.length ≤ 2000000) (hc : w.cell? ⟨p, 0, none⟩ = some (.int .i64 bg)) (hb : 0 ≤ bg ∧ bg ≤ 2147483647) :
    Calls Tryd.prog 66 #[v, .func (.func 39) #[] #[.pointer (some ⟨p, 0, none⟩)]] w fun e w' => ∃ r : Int, e = .returned (.int .i64 r) ∧ decide (0 ≤ r) = l.any (fun x => decide (bg - 1 ≤ x.g)) ∧ Below w.heap.size w w' := by
  have Hown := Lib.hid h
  obtain ⟨P, pc, rfl, hpc, Hpg⟩ := own_form h
  have hp := World.block_lt_of_cell? _ _ hc
  have Hc := Lib.hid hc
  clear h hc
  go_enter Tryd.func66, Tryd.ntmps66
  go_wp2
  go_loopw [8] (fun i wr => ∃ j : Nat, j ≤ l.length ∧ i = .int .i64 j ∧ (l.take j).any (fun x => decide (bg - 1 ≤ x.g)) = false ∧ Below w.heap.size w wr) (fun i _ => l.length - (intOf i).toNat)
  case atStart => exact ⟨0, Nat.zero_le _, rfl, by simp, Below.refl _ _⟩
  case round =>
    obtain ⟨j, hj, rfl, hall, hbr⟩ := hrel
    have Hall := Lib.hid hall
    clear hall
    by_cases hlt : j < l.length
    · obtain ⟨g, rfl, hBg⟩ := Hpg (by omega)
      have hglt : g < w.heap.size := (Hown.out.lt g rfl).2
      have hrp := range_heap (range_su Hown.out hlt) (hbr.block g hglt)
      have Hts := Lib.hid (getD_take hlt)
      have hcr : wr.cell? ⟨p, 0, none⟩ = some (.int .i64 bg) := (hbr.cell (p := ⟨p, 0, none⟩) hp).trans Hc.out
      have CL := Lib.hid (best1_any (l.getD j suZ) p bg wr hcr hb)
      have Hm := Lib.hid (show l.getD j suZ ∈ l by simp [hlt])
      generalize l.getD j suZ = x at hrp Hts CL Hm
      have Hrp := Lib.hid hrp
      have k0 : (0 : Int) ≤ (j : Int) := by omega
      have k1 : (j : Int) < (l.length : Int) := by omega
      clear hrp hcr
      cases hpk : decide (bg - 1 ≤ x.g) with
      | true =>
        rw [hpk] at CL
        have Hpk := Lib.hid hpk
        clear hpk
        go_wp2_with (first
          | (refine wpList_load_mid rfl 32 _ (by rfl) g (j * 11) (by rfl) (suL x) _ Hrp.out Tryd.underlying32 rfl (by kernel_rfl) ?_)
          | (go_at_call 39; refine CL.out.mono ?_; rintro e w1 ⟨rfl, hb1⟩))
        go_ret
        exact ⟨(j : Int), rfl, by rw [decide_eq_true (by omega)]; exact (List.any_eq_true.2 ⟨x, Hm.out, Hpk.out⟩).symm, hbr.trans (hb1.mono hbr.size)⟩
      | false =>
        rw [hpk] at CL
        have Hpk := Lib.hid hpk
        clear hpk
        go_wp2_with (first
          | (refine wpList_load_mid rfl 32 _ (by rfl) g (j * 11) (by rfl) (suL x) _ Hrp.out Tryd.underlying32 rfl (by kernel_rfl) ?_)
          | (go_at_call 39; refine CL.out.mono ?_; rintro e w1 ⟨rfl, hb1⟩))
        go_roundw
        case rel => exact ⟨j + 1, by omega, by go_num, by rw [Hts.out, List.any_append, Hall.out]; simpa using Hpk.out, hbr.trans (hb1.mono hbr.size)⟩
        case measure => simp [intOf]; omega
    · obtain rfl : j = l.length := by omega
      go_wp2
      go_ret
      exact ⟨-1, rfl, by have := Hall.out; rw [List.take_length] at this; rw [this]; decide, hbr⟩
theorem anyS_any (v : Value) (B : Nat) (l : List Su) (p : Nat) (bg : Int) (w : World) (h : w.ownsRow B 32 11 v l.length (sucs l)) (hl : l.length ≤ 2000000) (hc : w.cell? ⟨p, 0, none⟩ = some (.int .i64 bg)) (hb : 0 ≤ bg ∧ bg ≤ 2147483647) :
    Calls Tryd.prog 38 #[v, .func (.func 39) #[] #[.pointer (some ⟨p, 0, none⟩)]] w fun e w' => e = .returned (.bool (l.any (fun x => decide (bg - 1 ≤ x.g)))) ∧ Below w.heap.size w w' := by
  have C := Lib.hid (idxS_any v B l p bg w h hl hc hb)
  clear h hc
  go_enter Tryd.func38, Tryd.ntmps38
  go_wp2_with fail
  refine C.out.mono ?_
  rintro e w1 ⟨r, rfl, hr, hb1⟩
  have Hr := Lib.hid hr
  clear hr
  go_wp2
  go_ret
  exact ⟨by rw [← Hr.out]; rfl, hb1⟩
end Go.Proofs.YtcjmebnbbpllnaaDoor
end
section
set_option maxRecDepth 8000
set_option linter.unusedVariables false
set_option linter.unusedSimpArgs false
namespace Go.Proofs.YtcjmebnbbpllnaaDoor
open Go.RowKit

theorem slot_any (g : Int) (w : World) (hg : 0 ≤ g ∧ g ≤ 2147483647) : Calls Tryd.prog 31 #[.int .i64 g] w fun e w' => e = .returned (.int .i64 (slotI g : Int)) ∧ w' = w := by
  have ht : g.tmod 2 = g % 2 := Int.tmod_eq_emod_of_nonneg hg.1
  have Ht := Lib.hid ht
  by_cases h0 : g % 2 = 0
  · have HS := Lib.hid (show slotI g = 0 from if_pos h0)
    rw [h0] at ht
    clear h0
    go_enter Tryd.func31, Tryd.ntmps31
    go_wp2
    go_ret
    exact ⟨by rw [HS.out]; rfl, rfl⟩
  · have h1 : g % 2 = 1 := by omega
    have HS := Lib.hid (show slotI g = 1 from if_neg h0)
    rw [h1] at ht
    clear h0 h1
    go_enter Tryd.func31, Tryd.ntmps31
    go_wp2
    go_ret
    exact ⟨by rw [HS.out]; rfl, rfl⟩
section
variable {W w w1 w2 : World} {b n : Nat} {H H1 : BH} {N2 : Bch}
theorem BC.seq (c1 : Chg (BF b H n) w w1) (n1 : BNew w b H H1 n) (h2 : BC W w1 w2 b H1 n N2) : BC W w w2 b H n N2 := by
  obtain ⟨H2, a2, c2, m2⟩ := h2
  refine ⟨H2, a2, c1.trans c2 fun k hk e => ?_, fun k hk => ?_⟩
  · rcases n1 k e with h | h
    · exact h
    · omega
  · rcases m2 k hk with h | h
    · exact n1 k h
    · exact .inr (Nat.le_trans c1.size h)
theorem BC.below (hb : Below w.heap.size w w1) (h2 : BC W w1 w2 b H n N2) : BC W w w2 b H n N2 := h2.seq (chg_below _ hb) fun _ h => .inl h
theorem BC.then (h1 : BC W w w1 b H n N2) (hb : Below w1.heap.size w1 w2) : BC W w w2 b H n N2 := by
  obtain ⟨H1, a1, c1, m1⟩ := h1
  exact ⟨H1, a1.grow hb, c1.ofBelow hb c1.size, m1⟩
theorem BP.self {N : Bch} (h : BP W w b H N) : BC W w w b H N.n N := ⟨H, h, Chg.refl _ _, fun _ h => .inl h⟩
/-- What no call on the bench touches: blocks that were there, and are none of its own. -/
theorem BC.off {k : Nat} (h1 : BNew w b H H1 n) (hk : k < w.heap.size) (o : ¬ BF b H n k) : ¬ BF b H1 n k := fun e => by
  rcases h1 k e with h | h
  · exact o h
  · omega
end
theorem cell_chg {F : Nat → Prop} {w w' : World} {p o : Nat} {v : Value} (h : w.cell? ⟨p, o, none⟩ = some v) (hc : Chg F w w') (ho : ¬ F p) : w'.cell? ⟨p, o, none⟩ = some v :=
  (World.cell?_of_block (a := ⟨p, o, none⟩) (hc.block p (World.block_lt_of_cell? _ _ h) ho)).trans h
theorem RdB.chg {F : Nat → Prop} {w w' : World} {g : Nat} {x : List UInt8} (h : RdB w w.heap.size (some ⟨g, 0, none⟩) x) (hc : Chg F w w') (ho : ¬ F g) : RdB w' w'.heap.size (some ⟨g, 0, none⟩) x :=
  ⟨h.1, fun hn => by
    obtain ⟨b, off, e, hb, hk⟩ := h.2 hn
    injection e with e
    injection e with e1 e2 _
    subst e1 e2
    exact ⟨g, 0, rfl, Nat.lt_of_lt_of_le hb hc.size, fun k hk' => (World.cell?_of_block (a := ⟨g, 0 + k, none⟩) (hc.block g hb ho)).trans (hk k hk')⟩⟩
theorem RdO.chgq {F : Nat → Prop} {w w' : World} {A : Option Addr} {lv : List Bool} {q : Nat} (h : RdO w w.heap.size A lv) (hq : 0 < lv.length → ∀ a, A = some a → a.block = q) (hc : Chg F w w') (ho : ¬ F q) : RdO w' w'.heap.size A lv :=
  ⟨h.1, fun hn => by
    obtain ⟨b, off, rfl, hb, hk⟩ := h.2 hn
    obtain rfl : b = q := hq hn _ rfl
    exact ⟨b, off, rfl, Nat.lt_of_lt_of_le hb hc.size, fun k hk' => (World.cell?_of_block (a := ⟨b, off + k, none⟩) (hc.block b hb ho)).trans (hk k hk')⟩⟩
theorem wr1_any (W w : World) (b : Nat) (H : BH) (N : Bch) (h : BP W w b H N) (p3 p9 p7 g k : Nat) (x : List UInt8) (d : Nat) (hk : k < 52) (hd : d ≤ 2000000) (hx : x.length = 32)
    (c3 : w.cell? ⟨p3, 0, none⟩ = some (.pointer (some ⟨b, 0, none⟩))) (c9 : w.cell? ⟨p9, 0, none⟩ = some (.int .i64 (k : Int))) (c7 : w.cell? ⟨p7, 0, none⟩ = some (.slice (some ⟨g, 0, none⟩) 32 32)) (hr : RdB w w.heap.size (some ⟨g, 0, none⟩) x)
    (hps : ∀ i, i < N.n → (N.D i).ps.length ≤ 2000000) (hdn : N.done ≤ 2000000) :
    Calls Tryd.prog 33 #[.int .i64 (d : Int), .pointer (some ⟨p3, 0, none⟩), .pointer (some ⟨p9, 0, none⟩), .pointer (some ⟨p7, 0, none⟩)] w fun e w' => e = .returned (.int .i64 (wrF k x N d).1) ∧ BC W w w' b H N.n (wrF k x N d).2 := by
  have CW := Lib.hid (bp_write W w b H N h (d : Int) (k : Int) x (some ⟨g, 0, none⟩) 32 32 hx.symm (i64n hd) ⟨by omega, by omega⟩ hr hps hdn)
  have HE : Hid ((wrF k x N d).1 = N.writeE (d : Int) (k : Int) 32) := by show _ = _; unfold wrF; rw [hx]
  have HN : Hid ((wrF k x N d).2 = N.write (d : Int) (k : Int) x) := rfl
  clear h hps hdn hr hx
  go_enter Tryd.func33, Tryd.ntmps33
  go_wp2_with fail
  refine CW.out.mono ?_
  rintro e w1 ⟨rfl, ht⟩
  go_wp2
  go_ret
  exact ⟨by rw [HE.out]; rfl, by rw [HN.out]; exact ht⟩
set_option maxHeartbeats 4000000 in
theorem onWr_any (W w : World) (b : Nat) (H : BH) (N : Bch) (h : BP W w b H N) (p3 p9 p7 g k : Nat) (x : List UInt8) (hk : k < 52) (hx : x.length = 32)
    (c3 : w.cell? ⟨p3, 0, none⟩ = some (.pointer (some ⟨b, 0, none⟩))) (c9 : w.cell? ⟨p9, 0, none⟩ = some (.int .i64 (k : Int))) (c7 : w.cell? ⟨p7, 0, none⟩ = some (.slice (some ⟨g, 0, none⟩) 32 32)) (hr : RdB w w.heap.size (some ⟨g, 0, none⟩) x)
    (o3 : ¬ BF b H N.n p3) (o9 : ¬ BF b H N.n p9) (o7 : ¬ BF b H N.n p7) (og : ¬ BF b H N.n g)
    (lv : List Bool) (A : Option Addr) (n c : Nat) (hn : n = lv.length) (hv : RdO w w.heap.size A lv) (q : Nat) (hq : 0 < lv.length → ∀ a, A = some a → a.block = q) (oq : ¬ BF b H N.n q)
    (hps : ∀ i, i < N.n → (N.D i).ps.length ≤ 1999990) (hdn : N.done ≤ 1999990) :
    Calls Tryd.prog 32 #[.pointer (some ⟨b, 0, none⟩), .slice A n c, .func (.func 33) #[] #[.pointer (some ⟨p3, 0, none⟩), .pointer (some ⟨p9, 0, none⟩), .pointer (some ⟨p7, 0, none⟩)]] w fun e w' => e = .returned (.int .i64 (onTo (wrF k x) lv N (min N.n lv.length)).1) ∧ BC W w w' b H N.n (onTo (wrF k x) lv N (min N.n lv.length)).2 := by
  subst hn
  have Hh := Lib.hid h
  have Hv := Lib.hid hv
  have Hq := Lib.hid hq
  have Hoq := Lib.hid oq
  have Hp := Lib.hid hps
  have Hd := Lib.hid hdn
  have hN := h.at'.ok.n
  have CL := Lib.hid (bp_len W w b H N h)
  have KF : Hid (∀ wr, Chg (BF b H N.n) w wr → (wr.cell? ⟨p3, 0, none⟩ = some (.pointer (some ⟨b, 0, none⟩)) ∧ wr.cell? ⟨p9, 0, none⟩ = some (.int .i64 (k : Int)) ∧ wr.cell? ⟨p7, 0, none⟩ = some (.slice (some ⟨g, 0, none⟩) 32 32)) ∧ RdB wr wr.heap.size (some ⟨g, 0, none⟩) x) := fun wr hc =>
    ⟨⟨cell_chg c3 hc o3, cell_chg c9 hc o9, cell_chg c7 hc o7⟩, hr.chg hc og⟩
  have hlv := hv.1
  obtain ⟨m, hm⟩ : ∃ m, min N.n lv.length = m := ⟨_, rfl⟩
  have hm1 : m ≤ lv.length := by omega
  have hm2 : m ≤ N.n := by omega
  rw [hm]
  have Hm := Lib.hid hm
  clear hm
  clear h hv hq oq hps hdn c3 c9 c7 hr o3 o9 o7 og
  go_enter Tryd.func32, Tryd.ntmps32
  go_wp2_with fail
  refine CL.out.mono ?_
  rintro e w' ⟨rfl, rfl⟩
  go_wp2
  case inl h' =>
    have Hm := Lib.hid (show lv.length = m by have := Hm.out; omega)
    go_loopw [14] (fun i wr => ∃ j : Nat, j ≤ m ∧ i = .int .i64 j ∧ (onTo (wrF k x) lv N j).1 = 0 ∧ BC W w' wr b H N.n (onTo (wrF k x) lv N j).2) (fun i _ => m - (intOf i).toNat)
    case atStart => exact ⟨0, Nat.zero_le _, rfl, rfl, Hh.out.self⟩
    case round =>
      obtain ⟨j, hj, rfl, hz, hbc⟩ := hrel
      have Hz := Lib.hid hz
      have Hbc := Lib.hid hbc
      obtain ⟨Hj, aj, cj, nj⟩ := hbc
      have Haj := Lib.hid aj
      have Hcj := Lib.hid cj
      have Hnj := Lib.hid nj
      clear hz aj cj nj
      by_cases hlt : j < m
      · have hjl : j < lv.length := by omega
        have i0 : (0 : Int) ≤ (j : Int) := by omega
        have i1 : (j : Int) < (lv.length : Int) := by omega
        obtain ⟨lb, off, rfl, hlb, hcv⟩ := Hv.out.2 (by omega)
        have hlq : lb = q := Hq.out (by omega) _ rfl
        have hcl := cell_chg (hcv j hjl) Hcj.out (by rw [hlq]; exact Hoq.out)
        clear hcv hlq
        have Hlen : Hid (∀ i, i < N.n → ((onTo (wrF k x) lv N j).2.D i).ps.length ≤ 2000000) := fun i hi => by have h1 := Hp.out i hi; have h2 := wrote_len (at' := k) (x := x) (lv := lv) (N := N) i j; omega
        have Hdone : Hid ((onTo (wrF k x) lv N j).2.done ≤ 2000000) := by show _ ≤ _; have h1 := Hd.out; have h2 := wrote_done (at' := k) (x := x) (lv := lv) (N := N) j; omega
        have Hnn : Hid ((onTo (wrF k x) lv N j).2.n = N.n) := wrote_n j
        cases hb : lv.getD j false with
        | false =>
          rw [hb] at hcl
          have HS := Lib.hid (onTo_skip Hz.out hb)
          clear hb
          go_wp2
          go_roundw
          case rel => exact ⟨j + 1, by omega, by go_num, by rw [HS.out]; exact Hz.out, by rw [HS.out]; exact Hbc.out⟩
          case measure => simp [intOf]; omega
        | true =>
          rw [hb] at hcl
          have CF := Lib.hid (wr1_any W wr b Hj _ Haj.out p3 p9 p7 g k x j hk (by omega) hx (KF.out wr Hcj.out).1.1 (KF.out wr Hcj.out).1.2.1 (KF.out wr Hcj.out).1.2.2 (KF.out wr Hcj.out).2 (fun i hi => Hlen.out i (by rw [Hnn.out] at hi; exact hi)) Hdone.out)
          have HX : Hid (∀ w2, BC W wr w2 b Hj (onTo (wrF k x) lv N j).2.n ((wrF k x) (onTo (wrF k x) lv N j).2 j).2 → BC W w' w2 b H N.n ((wrF k x) (onTo (wrF k x) lv N j).2 j).2) := fun w2 h2 => by
            rw [Hnn.out] at h2
            exact h2.seq Hcj.out Hnj.out
          have HG := Lib.hid (fun hq => onTo_goes (f := (wrF k x)) Hz.out hb hq)
          have HP := Lib.hid (fun hq => onTo_pass (f := (wrF k x)) Hz.out hb hq)
          clear hb
          generalize (wrF k x) (onTo (wrF k x) lv N j).2 j = r at CF HX HG HP
          obtain ⟨e, Nx⟩ := r
          generalize (onTo (wrF k x) lv N j).2 = Nj at *
          by_cases h5 : e = 5
          · have HP := Lib.hid (HP.out h5)
            clear HG
            rw [h5] at CF
            clear h5
            go_wp2_with (go_at_call 33; refine CF.out.mono ?_; rintro e w2 ⟨rfl, ht⟩; have Ht := Lib.hid (HX.out _ ht); clear ht)
            go_roundw
            case rel => exact ⟨j + 1, by omega, by go_num, by rw [HP.out], by rw [HP.out]; exact Ht.out⟩
            case measure => simp [intOf]; omega
          · have HG := Lib.hid (HG.out h5)
            clear HP
            by_cases h0 : e = 0
            · rw [h0] at CF HG
              clear h5 h0
              go_wp2_with (go_at_call 33; refine CF.out.mono ?_; rintro e w2 ⟨rfl, ht⟩; have Ht := Lib.hid (HX.out _ ht); clear ht)
              go_roundw
              case rel => exact ⟨j + 1, by omega, by go_num, by rw [HG.out], by rw [HG.out]; exact Ht.out⟩
              case measure => simp [intOf]; omega
            · have n5 : (e != 5) = true := by rw [bne_iff_ne]; exact h5
              have n0 : (e != 0) = true := by rw [bne_iff_ne]; exact h0
              have HS := Lib.hid (onTo_stop (f := (wrF k x)) (lv := lv) (N := N) (i := j + 1) (by rw [HG.out]; exact h0) m (by omega))
              clear h5 h0
              go_wp2_with (go_at_call 33; refine CF.out.mono ?_; rintro e w2 ⟨rfl, ht⟩; have Ht := Lib.hid (HX.out _ ht); clear ht)
              go_ret
              exact ⟨by rw [HS.out, HG.out]; rfl, by rw [HS.out, HG.out]; exact Ht.out⟩
      · obtain rfl : j = m := by omega
        have hm4 := Hm.out
        go_wp2
        go_ret
        exact ⟨by rw [Hz.out]; rfl, Hbc.out⟩
  case inr h' =>
    have Hm := Lib.hid (show N.n = m by have := Hm.out; omega)
    go_loopw [14] (fun i wr => ∃ j : Nat, j ≤ m ∧ i = .int .i64 j ∧ (onTo (wrF k x) lv N j).1 = 0 ∧ BC W w' wr b H N.n (onTo (wrF k x) lv N j).2) (fun i _ => m - (intOf i).toNat)
    case atStart => exact ⟨0, Nat.zero_le _, rfl, rfl, Hh.out.self⟩
    case round =>
      obtain ⟨j, hj, rfl, hz, hbc⟩ := hrel
      have Hz := Lib.hid hz
      have Hbc := Lib.hid hbc
      obtain ⟨Hj, aj, cj, nj⟩ := hbc
      have Haj := Lib.hid aj
      have Hcj := Lib.hid cj
      have Hnj := Lib.hid nj
      clear hz aj cj nj
      by_cases hlt : j < m
      · have hjl : j < lv.length := by omega
        have i0 : (0 : Int) ≤ (j : Int) := by omega
        have i1 : (j : Int) < (lv.length : Int) := by omega
        obtain ⟨lb, off, rfl, hlb, hcv⟩ := Hv.out.2 (by omega)
        have hlq : lb = q := Hq.out (by omega) _ rfl
        have hcl := cell_chg (hcv j hjl) Hcj.out (by rw [hlq]; exact Hoq.out)
        clear hcv hlq
        have Hlen : Hid (∀ i, i < N.n → ((onTo (wrF k x) lv N j).2.D i).ps.length ≤ 2000000) := fun i hi => by have h1 := Hp.out i hi; have h2 := wrote_len (at' := k) (x := x) (lv := lv) (N := N) i j; omega
        have Hdone : Hid ((onTo (wrF k x) lv N j).2.done ≤ 2000000) := by show _ ≤ _; have h1 := Hd.out; have h2 := wrote_done (at' := k) (x := x) (lv := lv) (N := N) j; omega
        have Hnn : Hid ((onTo (wrF k x) lv N j).2.n = N.n) := wrote_n j
        cases hb : lv.getD j false with
        | false =>
          rw [hb] at hcl
          have HS := Lib.hid (onTo_skip Hz.out hb)
          clear hb
          go_wp2
          go_roundw
          case rel => exact ⟨j + 1, by omega, by go_num, by rw [HS.out]; exact Hz.out, by rw [HS.out]; exact Hbc.out⟩
          case measure => simp [intOf]; omega
        | true =>
          rw [hb] at hcl
          have CF := Lib.hid (wr1_any W wr b Hj _ Haj.out p3 p9 p7 g k x j hk (by omega) hx (KF.out wr Hcj.out).1.1 (KF.out wr Hcj.out).1.2.1 (KF.out wr Hcj.out).1.2.2 (KF.out wr Hcj.out).2 (fun i hi => Hlen.out i (by rw [Hnn.out] at hi; exact hi)) Hdone.out)
          have HX : Hid (∀ w2, BC W wr w2 b Hj (onTo (wrF k x) lv N j).2.n ((wrF k x) (onTo (wrF k x) lv N j).2 j).2 → BC W w' w2 b H N.n ((wrF k x) (onTo (wrF k x) lv N j).2 j).2) := fun w2 h2 => by
            rw [Hnn.out] at h2
            exact h2.seq Hcj.out Hnj.out
          have HG := Lib.hid (fun hq => onTo_goes (f := (wrF k x)) Hz.out hb hq)
          have HP := Lib.hid (fun hq => onTo_pass (f := (wrF k x)) Hz.out hb hq)
          clear hb
          generalize (wrF k x) (onTo (wrF k x) lv N j).2 j = r at CF HX HG HP
          obtain ⟨e, Nx⟩ := r
          generalize (onTo (wrF k x) lv N j).2 = Nj at *
          by_cases h5 : e = 5
          · have HP := Lib.hid (HP.out h5)
            clear HG
            rw [h5] at CF
            clear h5
            go_wp2_with (go_at_call 33; refine CF.out.mono ?_; rintro e w2 ⟨rfl, ht⟩; have Ht := Lib.hid (HX.out _ ht); clear ht)
            go_roundw
            case rel => exact ⟨j + 1, by omega, by go_num, by rw [HP.out], by rw [HP.out]; exact Ht.out⟩
            case measure => simp [intOf]; omega
          · have HG := Lib.hid (HG.out h5)
            clear HP
            by_cases h0 : e = 0
            · rw [h0] at CF HG
              clear h5 h0
              go_wp2_with (go_at_call 33; refine CF.out.mono ?_; rintro e w2 ⟨rfl, ht⟩; have Ht := Lib.hid (HX.out _ ht); clear ht)
              go_roundw
              case rel => exact ⟨j + 1, by omega, by go_num, by rw [HG.out], by rw [HG.out]; exact Ht.out⟩
              case measure => simp [intOf]; omega
            · have n5 : (e != 5) = true := by rw [bne_iff_ne]; exact h5
              have n0 : (e != 0) = true := by rw [bne_iff_ne]; exact h0
              have HS := Lib.hid (onTo_stop (f := (wrF k x)) (lv := lv) (N := N) (i := j + 1) (by rw [HG.out]; exact h0) m (by omega))
              clear h5 h0
              go_wp2_with (go_at_call 33; refine CF.out.mono ?_; rintro e w2 ⟨rfl, ht⟩; have Ht := Lib.hid (HX.out _ ht); clear ht)
              go_ret
              exact ⟨by rw [HS.out, HG.out]; rfl, by rw [HS.out, HG.out]; exact Ht.out⟩
      · obtain rfl : j = m := by omega
        have hm4 := Hm.out
        go_wp2
        go_ret
        exact ⟨by rw [Hz.out]; rfl, Hbc.out⟩
set_option maxHeartbeats 4000000 in
theorem onFl_any (W w : World) (b : Nat) (H : BH) (N : Bch) (h : BP W w b H N)
    (lv : List Bool) (A : Option Addr) (n c : Nat) (hn : n = lv.length) (hv : RdO w w.heap.size A lv) (q : Nat) (hq : 0 < lv.length → ∀ a, A = some a → a.block = q) (oq : ¬ BF b H N.n q) :
    Calls Tryd.prog 32 #[.pointer (some ⟨b, 0, none⟩), .slice A n c, .func (.func 34) #[.pointer (some ⟨b, 0, none⟩)] #[]] w fun e w' => e = .returned (.int .i64 (onTo flF lv N (min N.n lv.length)).1) ∧ BC W w w' b H N.n (onTo flF lv N (min N.n lv.length)).2 := by
  subst hn
  have Hh := Lib.hid h
  have Hv := Lib.hid hv
  have Hq := Lib.hid hq
  have Hoq := Lib.hid oq
  have hN := h.at'.ok.n
  have CL := Lib.hid (bp_len W w b H N h)
  have hlv := hv.1
  obtain ⟨m, hm⟩ : ∃ m, min N.n lv.length = m := ⟨_, rfl⟩
  have hm1 : m ≤ lv.length := by omega
  have hm2 : m ≤ N.n := by omega
  rw [hm]
  have Hm := Lib.hid hm
  clear hm
  clear h hv hq oq
  go_enter Tryd.func32, Tryd.ntmps32
  go_wp2_with fail
  refine CL.out.mono ?_
  rintro e w' ⟨rfl, rfl⟩
  go_wp2
  case inl h' =>
    have Hm := Lib.hid (show lv.length = m by have := Hm.out; omega)
    go_loopw [14] (fun i wr => ∃ j : Nat, j ≤ m ∧ i = .int .i64 j ∧ (onTo flF lv N j).1 = 0 ∧ BC W w' wr b H N.n (onTo flF lv N j).2) (fun i _ => m - (intOf i).toNat)
    case atStart => exact ⟨0, Nat.zero_le _, rfl, rfl, Hh.out.self⟩
    case round =>
      obtain ⟨j, hj, rfl, hz, hbc⟩ := hrel
      have Hz := Lib.hid hz
      have Hbc := Lib.hid hbc
      obtain ⟨Hj, aj, cj, nj⟩ := hbc
      have Haj := Lib.hid aj
      have Hcj := Lib.hid cj
      have Hnj := Lib.hid nj
      clear hz aj cj nj
      by_cases hlt : j < m
      · have hjl : j < lv.length := by omega
        have i0 : (0 : Int) ≤ (j : Int) := by omega
        have i1 : (j : Int) < (lv.length : Int) := by omega
        obtain ⟨lb, off, rfl, hlb, hcv⟩ := Hv.out.2 (by omega)
        have hlq : lb = q := Hq.out (by omega) _ rfl
        have hcl := cell_chg (hcv j hjl) Hcj.out (by rw [hlq]; exact Hoq.out)
        clear hcv hlq
        have Hnn : Hid ((onTo flF lv N j).2.n = N.n) := flushed_n j
        cases hb : lv.getD j false with
        | false =>
          rw [hb] at hcl
          have HS := Lib.hid (onTo_skip Hz.out hb)
          clear hb
          go_wp2
          go_roundw
          case rel => exact ⟨j + 1, by omega, by go_num, by rw [HS.out]; exact Hz.out, by rw [HS.out]; exact Hbc.out⟩
          case measure => simp [intOf]; omega
        | true =>
          rw [hb] at hcl
          have CF := Lib.hid (show Calls Tryd.prog 34 #[.pointer (some ⟨b, 0, none⟩), .int .i64 (j : Int)] wr fun e w' => e = .returned (.int .i64 (flF (onTo flF lv N j).2 j).1) ∧ BC W wr w' b Hj (onTo flF lv N j).2.n (flF (onTo flF lv N j).2 j).2 from bp_flush W wr b Hj _ Haj.out (j : Int) (i64n (by omega)))
          have HX : Hid (∀ w2, BC W wr w2 b Hj (onTo flF lv N j).2.n (flF (onTo flF lv N j).2 j).2 → BC W w' w2 b H N.n (flF (onTo flF lv N j).2 j).2) := fun w2 h2 => by
            rw [Hnn.out] at h2
            exact h2.seq Hcj.out Hnj.out
          have HG := Lib.hid (fun hq => onTo_goes (f := flF) Hz.out hb hq)
          have HP := Lib.hid (fun hq => onTo_pass (f := flF) Hz.out hb hq)
          clear hb
          generalize flF (onTo flF lv N j).2 j = r at CF HX HG HP
          obtain ⟨e, Nx⟩ := r
          generalize (onTo flF lv N j).2 = Nj at *
          by_cases h5 : e = 5
          · have HP := Lib.hid (HP.out h5)
            clear HG
            rw [h5] at CF
            clear h5
            go_wp2_with (go_at_call 34; refine CF.out.mono ?_; rintro e w2 ⟨rfl, ht⟩; have Ht := Lib.hid (HX.out _ ht); clear ht)
            go_roundw
            case rel => exact ⟨j + 1, by omega, by go_num, by rw [HP.out], by rw [HP.out]; exact Ht.out⟩
            case measure => simp [intOf]; omega
          · have HG := Lib.hid (HG.out h5)
            clear HP
            by_cases h0 : e = 0
            · rw [h0] at CF HG
              clear h5 h0
              go_wp2_with (go_at_call 34; refine CF.out.mono ?_; rintro e w2 ⟨rfl, ht⟩; have Ht := Lib.hid (HX.out _ ht); clear ht)
              go_roundw
              case rel => exact ⟨j + 1, by omega, by go_num, by rw [HG.out], by rw [HG.out]; exact Ht.out⟩
              case measure => simp [intOf]; omega
            · have n5 : (e != 5) = true := by rw [bne_iff_ne]; exact h5
              have n0 : (e != 0) = true := by rw [bne_iff_ne]; exact h0
              have HS := Lib.hid (onTo_stop (f := flF) (lv := lv) (N := N) (i := j + 1) (by rw [HG.out]; exact h0) m (by omega))
              clear h5 h0
              go_wp2_with (go_at_call 34; refine CF.out.mono ?_; rintro e w2 ⟨rfl, ht⟩; have Ht := Lib.hid (HX.out _ ht); clear ht)
              go_ret
              exact ⟨by rw [HS.out, HG.out]; rfl, by rw [HS.out, HG.out]; exact Ht.out⟩
      · obtain rfl : j = m := by omega
        have hm4 := Hm.out
        go_wp2
        go_ret
        exact ⟨by rw [Hz.out]; rfl, Hbc.out⟩
  case inr h' =>
    have Hm := Lib.hid (show N.n = m by have := Hm.out; omega)
    go_loopw [14] (fun i wr => ∃ j : Nat, j ≤ m ∧ i = .int .i64 j ∧ (onTo flF lv N j).1 = 0 ∧ BC W w' wr b H N.n (onTo flF lv N j).2) (fun i _ => m - (intOf i).toNat)
    case atStart => exact ⟨0, Nat.zero_le _, rfl, rfl, Hh.out.self⟩
    case round =>
      obtain ⟨j, hj, rfl, hz, hbc⟩ := hrel
      have Hz := Lib.hid hz
      have Hbc := Lib.hid hbc
      obtain ⟨Hj, aj, cj, nj⟩ := hbc
      have Haj := Lib.hid aj
      have Hcj := Lib.hid cj
      have Hnj := Lib.hid nj
      clear hz aj cj nj
      by_cases hlt : j < m
      · have hjl : j < lv.length := by omega
        have i0 : (0 : Int) ≤ (j : Int) := by omega
        have i1 : (j : Int) < (lv.length : Int) := by omega
        obtain ⟨lb, off, rfl, hlb, hcv⟩ := Hv.out.2 (by omega)
        have hlq : lb = q := Hq.out (by omega) _ rfl
        have hcl := cell_chg (hcv j hjl) Hcj.out (by rw [hlq]; exact Hoq.out)
        clear hcv hlq
        have Hnn : Hid ((onTo flF lv N j).2.n = N.n) := flushed_n j
        cases hb : lv.getD j false with
        | false =>
          rw [hb] at hcl
          have HS := Lib.hid (onTo_skip Hz.out hb)
          clear hb
          go_wp2
          go_roundw
          case rel => exact ⟨j + 1, by omega, by go_num, by rw [HS.out]; exact Hz.out, by rw [HS.out]; exact Hbc.out⟩
          case measure => simp [intOf]; omega
        | true =>
          rw [hb] at hcl
          have CF := Lib.hid (show Calls Tryd.prog 34 #[.pointer (some ⟨b, 0, none⟩), .int .i64 (j : Int)] wr fun e w' => e = .returned (.int .i64 (flF (onTo flF lv N j).2 j).1) ∧ BC W wr w' b Hj (onTo flF lv N j).2.n (flF (onTo flF lv N j).2 j).2 from bp_flush W wr b Hj _ Haj.out (j : Int) (i64n (by omega)))
          have HX : Hid (∀ w2, BC W wr w2 b Hj (onTo flF lv N j).2.n (flF (onTo flF lv N j).2 j).2 → BC W w' w2 b H N.n (flF (onTo flF lv N j).2 j).2) := fun w2 h2 => by
            rw [Hnn.out] at h2
            exact h2.seq Hcj.out Hnj.out
          have HG := Lib.hid (fun hq => onTo_goes (f := flF) Hz.out hb hq)
          have HP := Lib.hid (fun hq => onTo_pass (f := flF) Hz.out hb hq)
          clear hb
          generalize flF (onTo flF lv N j).2 j = r at CF HX HG HP
          obtain ⟨e, Nx⟩ := r
          generalize (onTo flF lv N j).2 = Nj at *
          by_cases h5 : e = 5
          · have HP := Lib.hid (HP.out h5)
            clear HG
            rw [h5] at CF
            clear h5
            go_wp2_with (go_at_call 34; refine CF.out.mono ?_; rintro e w2 ⟨rfl, ht⟩; have Ht := Lib.hid (HX.out _ ht); clear ht)
            go_roundw
            case rel => exact ⟨j + 1, by omega, by go_num, by rw [HP.out], by rw [HP.out]; exact Ht.out⟩
            case measure => simp [intOf]; omega
          · have HG := Lib.hid (HG.out h5)
            clear HP
            by_cases h0 : e = 0
            · rw [h0] at CF HG
              clear h5 h0
              go_wp2_with (go_at_call 34; refine CF.out.mono ?_; rintro e w2 ⟨rfl, ht⟩; have Ht := Lib.hid (HX.out _ ht); clear ht)
              go_roundw
              case rel => exact ⟨j + 1, by omega, by go_num, by rw [HG.out], by rw [HG.out]; exact Ht.out⟩
              case measure => simp [intOf]; omega
            · have n5 : (e != 5) = true := by rw [bne_iff_ne]; exact h5
              have n0 : (e != 0) = true := by rw [bne_iff_ne]; exact h0
              have HS := Lib.hid (onTo_stop (f := flF) (lv := lv) (N := N) (i := j + 1) (by rw [HG.out]; exact h0) m (by omega))
              clear h5 h0
              go_wp2_with (go_at_call 34; refine CF.out.mono ?_; rintro e w2 ⟨rfl, ht⟩; have Ht := Lib.hid (HX.out _ ht); clear ht)
              go_ret
              exact ⟨by rw [HS.out, HG.out]; rfl, by rw [HS.out, HG.out]; exact Ht.out⟩
      · obtain rfl : j = m := by omega
        have hm4 := Hm.out
        go_wp2
        go_ret
        exact ⟨by rw [Hz.out]; rfl, Hbc.out⟩
end Go.Proofs.YtcjmebnbbpllnaaDoor
end
section
namespace Go.Proofs.YtcjmebnbbpllnaaDoor
open Go.RowKit

/-- A part of a piece of code. -/
def sub : List Nat → Code → Code
  | [], c => c
  | 0 :: p, .seq a _ => sub p a
  | _ :: p, .seq _ b => sub p b
  | _ :: p, .block _ c => sub p c
  | _ :: p, .loop c => sub p c
  | _ :: p, .scope c => sub p c
  | 0 :: p, .cond _ a _ => sub p a
  | _ :: p, .cond _ _ b => sub p b
  | _, c => c
theorem wp_block_then {P : Program} {id : Nat} {c : Code} {K : Act → World → Prop} {Q : Exit → Act → World → Prop} {a : Act} {w : World} (h : c.wp P (Exit.then K (Exit.inBlock id (Exit.then K Q))) a w) : (Code.block id c).wp P (Exit.then K Q) a w :=
  wp_block (wp_mono h fun e a w h => by cases e <;> exact h)
end Go.Proofs.YtcjmebnbbpllnaaDoor
end
section
set_option maxRecDepth 8000
set_option linter.unusedVariables false
set_option linter.unusedSimpArgs false
namespace Go.Proofs.YtcjmebnbbpllnaaDoor
open Go.RowKit

def rowOf (F : Nat → Value) (n : Nat) : List Value := (List.range n).map F
theorem rowOf_len (F : Nat → Value) (n : Nat) : (rowOf F n).length = n := by unfold rowOf; simp
theorem rowOf_get {n i : Nat} (F : Nat → Value) (h : i < n) : (rowOf F n)[i]? = some (F i) := by unfold rowOf; simp [h]
theorem rowOf_set {n i : Nat} (F : Nat → Value) (v : Value) (h : i < n) : spl (rowOf F n) i [v] = rowOf (upd F i v) n := by
  apply List.ext_getElem?
  intro j
  have hl : ((rowOf F n).take i).length = i := by rw [List.length_take, rowOf_len]; omega
  unfold spl
  rw [List.append_assoc]
  by_cases hj : j < i
  · rw [List.getElem?_append_left (by omega), List.getElem?_take, if_pos hj, rowOf_get _ (by omega), rowOf_get _ (by omega), upd_other _ _ (by omega)]
  · rw [List.getElem?_append_right (by omega), hl]
    by_cases e : j = i
    · subst e; rw [Nat.sub_self, rowOf_get _ h, upd_same]; rfl
    · obtain ⟨k, hk⟩ : ∃ k, j - i = k + 1 := ⟨j - i - 1, by omega⟩
      rw [hk, List.cons_append, List.getElem?_cons_succ, List.nil_append, List.getElem?_drop]
      rw [show i + [v].length + k = j by simp; omega]
      by_cases hjn : j < n
      · rw [rowOf_get _ hjn, rowOf_get _ hjn, upd_other _ _ e]
      · rw [List.getElem?_eq_none (by rw [rowOf_len]; omega), List.getElem?_eq_none (by rw [rowOf_len]; omega)]
theorem rowOf_made (z : Value) (n : Nat) : madeCells #[z] n = (rowOf (fun _ => z) n).toArray := by
  apply Array.toList_inj.1
  apply List.ext_getElem?
  intro j
  rw [toList_madeCells_one, List.getElem?_replicate]
  by_cases h : j < n
  · rw [if_pos h]
    show _ = (rowOf (fun _ => z) n)[j]?
    rw [rowOf_get _ h]
  · rw [if_neg h]
    show _ = (rowOf (fun _ => z) n)[j]?
    rw [List.getElem?_eq_none (by rw [rowOf_len]; omega)]
theorem info_sus : (Tryd.prog.info? 73).map (fun i => (i.zero, i.size, i.bytes)) = some (some (.slice none 0 0), 1, 24) := by kernel_rfl
theorem info_boo : (Tryd.prog.info? 4).map (fun i => (i.zero, i.size, i.bytes)) = some (some (.bool false), 1, 1) := by kernel_rfl
theorem size_sus : (Tryd.prog.info? 73).map (·.size) = some 1 := by kernel_rfl
theorem make_found (n : Nat) (hn : n ≤ 1000000) (w : World) : (Instr.makeSlice 72 (.int .i64 (n : Int)) (.int .i64 (n : Int))).run Tryd.prog w = .ok (.slice (some ⟨w.heap.size, 0, none⟩) n n) (w.alloc (.cells (rowOf (fun _ => .slice none 0 0) n).toArray 73)) := by
  rw [← rowOf_made (.slice none 0 0) n]
  exact run_make_row' _ _ _ 24 Tryd.underlying72 info_sus rfl _ _ n (by omega) (by omega) w
theorem make_bools (n : Nat) (hn : n ≤ 1000000) (w : World) : (Instr.makeSlice 26 (.int .i64 (n : Int)) (.int .i64 (n : Int))).run Tryd.prog w = .ok (.slice (some ⟨w.heap.size, 0, none⟩) n n) (w.alloc (.cells (rowOf (fun _ => .bool false) n).toArray 4)) := by
  rw [← rowOf_made (.bool false) n]
  exact run_make_row' _ _ _ 1 Tryd.underlying26 info_boo rfl _ _ n (by omega) (by omega) w
theorem own_le {w : World} {B B' : Nat} {e : TypeId} {size : Nat} {v : Value} {n : Nat} {xs : List Value} (h : w.ownsRow B e size v n xs) (hB : B' ≤ B) : w.ownsRow B' e size v n xs := by
  refine ⟨h.1, ?_⟩
  rcases h.2 with h1 | ⟨g, cap, cur, h1, h2, r⟩
  · exact .inl h1
  · exact .inr ⟨g, cap, cur, h1, Nat.le_trans hB h2, r⟩
structure BSt (w0 w : World) (N : Bch) (F : Nat → Value) (i : Nat) (s : Su) : Prop where
  bel : Below w0.heap.size w0 w
  res : w.heap[w0.heap.size]? = some (.cells (suL suZ).toArray 32 (0, 0))
  fnd : w.heap[w0.heap.size + 1]? = some (.cells (rowOf F N.n).toArray 73 (0, 0))
  bst : w.heap[w0.heap.size + 2]? = some (.cells (suL s).toArray 32 (0, 0))
  own : ∀ k, k < i → w.ownsRow (w0.heap.size + 3) 32 11 (F k) (dskSu (N.D k)).length (sucs (dskSu (N.D k)))
section
variable {w0 w w' : World} {N : Bch} {F : Nat → Value} {i : Nat} {s : Su}
theorem BSt.size (h : BSt w0 w N F i s) : w0.heap.size + 3 ≤ w.heap.size := by have := (Array.getElem?_eq_some_iff.1 h.bst).1; omega
theorem BSt.below (h : BSt w0 w N F i s) (hb : Below w.heap.size w w') : BSt w0 w' N F i s := by
  have hz := h.size
  exact ⟨h.bel.trans (hb.mono (by omega)), (hb.block _ (by omega)).trans h.res, (hb.block _ (by omega)).trans h.fnd, (hb.block _ (by omega)).trans h.bst, fun k hk => own_heap (h.own k hk) fun j hj => hb.block j ((h.own k hk).lt j hj).2⟩
theorem BSt.setB (h : BSt w0 w N F i s) {s' : Su} (hg : w.grownBy w' (some (w0.heap.size + 2))) (hb : w'.heap[w0.heap.size + 2]? = some (.cells (suL s').toArray 32 (0, 0))) : BSt w0 w' N F i s' := by
  have hz := h.size
  refine ⟨h.bel.grown hg (by omega) (fun j e => by injection e with e; omega), (hg.block _ (by omega) (fun e => by injection e with e; omega)).trans h.res, (hg.block _ (by omega) (fun e => by injection e with e; omega)).trans h.fnd, hb, fun k hk => own_heap (h.own k hk) fun j hj => hg.block j ((h.own k hk).lt j hj).2 (fun e => by injection e with e; have := ((h.own k hk).lt j hj).1; omega)⟩
theorem BSt.push (h : BSt w0 w N F i s) {v : Value} (hg : w.grownBy w' (some (w0.heap.size + 1))) (hb : w'.heap[w0.heap.size + 1]? = some (.cells (rowOf (upd F i v) N.n).toArray 73 (0, 0)))
    (hv : w.ownsRow (w0.heap.size + 3) 32 11 v (dskSu (N.D i)).length (sucs (dskSu (N.D i)))) : BSt w0 w' N (upd F i v) (i + 1) s := by
  have hz := h.size
  refine ⟨h.bel.grown hg (by omega) (fun j e => by injection e with e; omega), (hg.block _ (by omega) (fun e => by injection e with e; omega)).trans h.res, hb, (hg.block _ (by omega) (fun e => by injection e with e; omega)).trans h.bst, fun k hk => ?_⟩
  by_cases e : k = i
  · subst e
    rw [upd_same]
    exact own_heap hv fun j hj => hg.block j (hv.lt j hj).2 (fun e => by injection e with e; have := (hv.lt j hj).1; omega)
  · rw [upd_other _ _ e]
    have hk' : k < i := by omega
    exact own_heap (h.own k hk') fun j hj => hg.block j ((h.own k hk').lt j hj).2 (fun e => by injection e with e; have := ((h.own k hk').lt j hj).1; omega)
theorem BSt.other (h : BSt w0 w N F i s) {q : Nat} (hg : w.grownBy w' (some q)) (hq : w0.heap.size + 3 ≤ q) (hn : ∀ k, k < i → (F k).ownBlock ≠ some q) : BSt w0 w' N F i s := by
  have hz := h.size
  refine ⟨h.bel.grown hg (by omega) (fun j e => by injection e with e; omega), (hg.block _ (by omega) (fun e => by injection e with e; omega)).trans h.res, (hg.block _ (by omega) (fun e => by injection e with e; omega)).trans h.fnd, (hg.block _ (by omega) (fun e => by injection e with e; omega)).trans h.bst, fun k hk => own_heap (h.own k hk) fun j hj => hg.block j ((h.own k hk).lt j hj).2 (fun e => by injection e with e; exact hn k hk (by rw [hj, ← e]))⟩
end
end Go.Proofs.YtcjmebnbbpllnaaDoor
end
