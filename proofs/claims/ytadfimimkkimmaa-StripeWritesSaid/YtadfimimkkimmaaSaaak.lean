/- Texts put together: DskDelete, DskDamage, DskDmg, DskAllD, Bch, OnTo, StpMath. -/
import Derived.Test.YtadfimimkkimmaaSaaaj
import Derived.Lib.SliceRun
import Derived.Test.YtadfimimkkimmaaSaaad
section
set_option maxRecDepth 8000
namespace Go.Proofs.Ytadfimimkkimmaa
open Go.RowKit

section
variable {P : Program}
theorem wpList_clear_blk {ops : Array Oper} {rest : List Oper} {op : Oper} {a : Act} {w : World} {Q : Exit → Act → World → Prop} (hgd : op.guard = none) (x : Operand) (t e : TypeId) (ho : op.op = .call { callee := .builtin .clear, args := #[x], argTypes := #[t] })
    (g o n c sz : Nat) (hx : a.eval x = .slice (some ⟨g, o, none⟩) n c) (hn : 0 < n) (ht : P.underlying t = some (.slice e)) (z : Value) (hz : ∀ w, (zeroValue e).run P w = .ok z w) (hzs : z.cells.size = sz) (hz1 : ∀ i, i < sz → (z.cells[i]!).oneCell' = true) (hsz : 0 < sz)
    (cur : List Value) (t' : TypeId) (hb : w.heap[g]? = some (.cells cur.toArray t' (0, 0))) (hl : o + n * sz ≤ cur.length)
    (h : ∀ w' vs, vs.length = n * sz → w'.heap[g]? = some (.cells (spl cur o vs).toArray t' (0, 0)) → w.grownBy w' (some g) → wpList P ops Q rest (a.put op.dst (.tuple #[])) w') : wpList P ops Q (op :: rest) a w := by
  refine wpList_plain hgd fun K hK => ?_
  have hzl : (Builtin.zeroCells z.cells n).toList.length = n * sz := by simp [Builtin.zeroCells, hzs]
  have h1 : ∀ u ∈ (Builtin.zeroCells z.cells n).toList, u.oneCell' = true := fun u hu => by
    simp only [Builtin.zeroCells, Array.toList_map, List.mem_map] at hu
    obtain ⟨i, _, rfl⟩ := hu
    exact hz1 _ (by rw [hzs]; exact Nat.mod_lt _ hsz)
  have hst := run_storeCells_at P g o t' (Builtin.zeroCells z.cells n).toList 0 cur.toArray w hb (by rw [hzl]; simpa using hl) h1
  have hrun : (Builtin.clear_ #[t] op.type #[.slice (some ⟨g, o, none⟩) n c]).run P w = .ok (.tuple #[]) (w.setRow g (spl cur o (Builtin.zeroCells z.cells n).toList).toArray) := by
    obtain ⟨m, rfl⟩ : ∃ m, n = m + 1 := ⟨n - 1, by omega⟩
    simp only [Nat.add_zero] at hst
    simp [Builtin.clear_, run_underlying ht, hz, hst, spl]
  unfold Oper.wp execOp
  simp only [ho, resolve, invoke, builtin, Sem.run_bind, Sem.run_pure, Result.andThen_ok, List.map_toArray, List.map_cons, List.map_nil, hx, hrun]
  refine hK _ _ (h _ _ hzl ?_ ?_)
  · exact setRow_heap w g _ _ t' (0, 0) hb
  · exact ⟨rfl, rfl, rfl, by simp, fun k _ hk => setRow_other w g k _ (fun e => hk (by rw [e]))⟩
end
theorem closure_any (p : Nat × List UInt8) (G k : Nat) (w : World) (hc : w.cell? ⟨G, 0, none⟩ = some (.int .i64 (k : Int))) (hG : G < w.heap.size) :
    Calls Try.prog 89 #[.agg (wcell p).toArray, .pointer (some ⟨G, 0, none⟩)] w fun e w' => e = .returned (.bool (decide (p.1 = k))) ∧ Below w.heap.size w w' := by
  obtain ⟨i, x⟩ := p
  show Calls Try.prog 89 #[.agg (Value.int .i64 (i : Int) :: x.map bv).toArray, .pointer (some ⟨G, 0, none⟩)] w fun e w' => e = .returned (.bool (decide (i = k))) ∧ Below w.heap.size w w'
  have hb := below1 w (.cells (Value.int .i64 (i : Int) :: x.map bv).toArray 104)
  have hne : G ≠ w.heap.size := by omega
  have Hd : Hid (((i : Int) == (k : Int)) = decide (i = k)) := by
    show _ = _
    by_cases h : i = k
    · subst h; simp
    · rw [decide_eq_false h, beq_eq_false_iff_ne]; omega
  go_enter Try.func89, Try.ntmps89
  go_wp2
  go_ret
  exact ⟨by rw [← Hd.out]; rfl, hb⟩
/-- Which is the first write to sector k? -/
def FirstI (ps : List (Nat × List UInt8)) (k : Nat) (r : Int) : Prop :=
  (r = -1 ∧ ∀ p ∈ ps, p.1 ≠ k) ∨ (∃ i : Nat, r = (i : Int) ∧ i < ps.length ∧ (ps.getD i (0, [])).1 = k ∧ ∀ p ∈ ps.take i, p.1 ≠ k)
theorem take_getD_succ {ps : List (Nat × List UInt8)} {i : Nat} (hi : i < ps.length) : ps.take (i + 1) = ps.take i ++ [ps.getD i (0, [])] := by
  rw [List.take_succ_eq_append_getElem hi]; simp [hi]
set_option maxHeartbeats 800000 in
theorem indexf_any (pv : Value) (B : Nat) (ps : List (Nat × List UInt8)) (G k : Nat) (w : World) (h : w.ownsRow B 104 33 pv ps.length (wcells ps)) (hok : WOk ps) (hps : ps.length ≤ 2000000) (hc : w.cell? ⟨G, 0, none⟩ = some (.int .i64 (k : Int))) (hG : G < w.heap.size) :
    Calls Try.prog 102 #[pv, .func (.func 89) #[] #[.pointer (some ⟨G, 0, none⟩)]] w fun e w' => ∃ r : Int, e = .returned (.int .i64 r) ∧ FirstI ps k r ∧ Below w.heap.size w w' := by
  have Hown := Lib.hid h
  have Hok := Lib.hid hok
  obtain ⟨P, pc, rfl, hpc, Hpg⟩ := own_form h
  clear h hok
  go_enter Try.func102, Try.ntmps102
  go_wp2
  go_loopw [8] (fun i wr => ∃ j : Nat, j ≤ ps.length ∧ i = .int .i64 j ∧ (∀ p ∈ ps.take j, p.1 ≠ k) ∧ Below w.heap.size w wr) (fun i _ => ps.length - (intOf i).toNat)
  case atStart => exact ⟨0, Nat.zero_le _, rfl, fun p hp => by simp at hp, Below.refl _ _⟩
  case round =>
    obtain ⟨j, hj, rfl, hall, hbr⟩ := hrel
    have Hall := Lib.hid hall
    clear hall
    by_cases hlt : j < ps.length
    · obtain ⟨g, rfl, hBg⟩ := Hpg (by omega)
      have hglt : g < w.heap.size := (Hown.out.lt g rfl).2
      have hrp := range_heap (range_pend Hown.out Hok.out (i := j) hlt) (hbr.block g hglt)
      have hpm : ps.getD j (0, []) ∈ ps := by simp [hlt]
      have Hwl := Lib.hid (wcell_len (Hok.out _ hpm).2)
      have Hts := Lib.hid (take_getD_succ hlt)
      have Hget : Hid ((ps.getD j (0, [])) = ps.getD j (0, [])) := rfl
      have hcr : wr.cell? ⟨G, 0, none⟩ = some (.int .i64 (k : Int)) := (hbr.cell (p := ⟨G, 0, none⟩) hG).trans hc
      have CL := Lib.hid (closure_any (ps.getD j (0, [])) G k wr hcr (Nat.lt_of_lt_of_le hG hbr.size))
      generalize hp : ps.getD j (0, []) = p at hrp Hwl Hts CL
      have Hp := Lib.hid hp
      have Hrp := Lib.hid hrp
      have k0 : (0 : Int) ≤ (j : Int) := by omega
      have k1 : (j : Int) < (ps.length : Int) := by omega
      clear hrp hp hpm hcr Hget
      by_cases hpk : p.1 = k
      · rw [decide_eq_true hpk] at CL
        have Hpk := Lib.hid hpk
        clear hpk
        go_wp2_with (first
          | (refine wpList_load_mid rfl 104 _ (by rfl) g (j * 33) (by rfl) (wcell p) _ Hrp.out Try.underlying104 rfl (by rw [Hwl.out]; exact (by kernel_rfl : (Try.prog.info? 104).map (·.size) = some 33)) ?_)
          | (go_at_call 89; refine CL.out.mono ?_; rintro e w1 ⟨rfl, hb1⟩))
        go_ret
        exact ⟨_, rfl, .inr ⟨j, rfl, hlt, by rw [Hp.out]; exact Hpk.out, Hall.out⟩, hbr.trans (hb1.mono hbr.size)⟩
      · rw [decide_eq_false hpk] at CL
        have Hpk := Lib.hid hpk
        clear hpk
        go_wp2_with (first
          | (refine wpList_load_mid rfl 104 _ (by rfl) g (j * 33) (by rfl) (wcell p) _ Hrp.out Try.underlying104 rfl (by rw [Hwl.out]; exact (by kernel_rfl : (Try.prog.info? 104).map (·.size) = some 33)) ?_)
          | (go_at_call 89; refine CL.out.mono ?_; rintro e w1 ⟨rfl, hb1⟩))
        go_roundw
        case rel => exact ⟨j + 1, by omega, by go_num, by rw [Hts.out]; intro q hq; rcases List.mem_append.1 hq with h1 | h1; exact Hall.out q h1; rw [List.mem_singleton.1 h1]; exact Hpk.out, hbr.trans (hb1.mono hbr.size)⟩
        case measure => simp [intOf]; omega
    · obtain rfl : j = ps.length := by omega
      go_wp2
      go_ret
      exact ⟨-1, rfl, .inl ⟨rfl, by have := Hall.out; rwa [List.take_length] at this⟩, hbr⟩
end Go.Proofs.Ytadfimimkkimmaa
end
section
set_option maxRecDepth 8000
namespace Go.Proofs.Ytadfimimkkimmaa
open Go.RowKit

theorem zw_one : ∀ i, i < 33 → ((Value.agg (Value.int .i64 0 :: List.replicate 32 (Value.int .u8 0)).toArray).cells[i]!).oneCell' = true := by decide
def keepW (k : Nat) (ps : List (Nat × List UInt8)) : List (Nat × List UInt8) := ps.filter fun p => decide (p.1 ≠ k)
theorem keepW_all {k : Nat} {ps : List (Nat × List UInt8)} (h : ∀ p ∈ ps, p.1 ≠ k) : keepW k ps = ps := List.filter_eq_self.2 fun p hp => by simpa using h p hp
theorem keepW_snoc_yes {k : Nat} {ps : List (Nat × List UInt8)} {p : Nat × List UInt8} (h : p.1 ≠ k) : keepW k (ps ++ [p]) = keepW k ps ++ [p] := by simp [keepW, h]
theorem keepW_snoc_no {k : Nat} {ps : List (Nat × List UInt8)} {p : Nat × List UInt8} (h : p.1 = k) : keepW k (ps ++ [p]) = keepW k ps := by simp [keepW, h]
theorem keepW_ok {k : Nat} {ps : List (Nat × List UInt8)} (h : WOk ps) : WOk (keepW k ps) := h.filter _
theorem wcells_append (ps qs : List (Nat × List UInt8)) : wcells (ps ++ qs) = wcells ps ++ wcells qs := by simp [wcells]
theorem wcells_drop {ps : List (Nat × List UInt8)} {j : Nat} (hj : j < ps.length) : wcells (ps.drop j) = wcell (ps.getD j (0, [])) ++ wcells (ps.drop (j + 1)) := by
  have e : ps.getD j (0, []) = ps[j] := by simp [hj]
  rw [e, List.drop_eq_getElem_cons hj]
  rfl
/-- The row of writes while some are struck: those that stay, then what is left over, then those not yet looked at, then spare cells. -/
def delCells (k : Nat) (ps : List (Nat × List UInt8)) (Z : List Value) (j : Nat) (M : List Value) : List Value := wcells (keepW k (ps.take j)) ++ M ++ wcells (ps.drop j) ++ Z
theorem range_list {w : World} {g : Nat} {A X C : List Value} {t : TypeId} (hb : w.heap[g]? = some (.cells (A ++ X ++ C).toArray t (0, 0))) {o : Nat} (ho : A.length = o) : w.rangeAt g o X := fun j v hj => by
  have hl : j < X.length := (List.getElem?_eq_some_iff.1 hj).1
  rw [cell_of_row w g _ _ t (0, 0) hb, List.getElem?_toArray, List.append_assoc, List.getElem?_append_right (by omega), ho, Nat.add_sub_cancel_left, List.getElem?_append_left hl]
  exact hj
theorem own_split {w : World} {B g n cap : Nat} {e : TypeId} {size : Nat} {xs : List Value} (h : w.ownsRow B e size (.slice (some ⟨g, 0, none⟩) n cap) n xs) : ∃ Z, w.heap[g]? = some (.cells (xs ++ Z).toArray e (0, 0)) ∧ (xs ++ Z).length = cap * size ∧ n ≤ cap ∧ cap ≤ maxLen := by
  rcases h.2 with ⟨h1, _⟩ | ⟨g', cap', cur, h1, h2, h3, h4, h5, h6, h7⟩
  · cases h1
  · injection h1 with h8 _ h9
    injection h8 with h8
    injection h8 with h8 _ _
    subst h8 h9
    refine ⟨cur.toList.drop (n * size), ?_, ?_, h4, h5⟩
    · rw [← h7, List.take_append_drop]; exact h3
    · rw [← h7, List.take_append_drop, Array.length_toList]; exact h6
theorem own_join {w : World} {B g n cap : Nat} {e : TypeId} {size : Nat} {xs Z : List Value} (hx : xs.length = n * size) (hB : B ≤ g) (hg : w.heap[g]? = some (.cells (xs ++ Z).toArray e (0, 0))) (hl : (xs ++ Z).length = cap * size) (hn : n ≤ cap) (hm : cap ≤ maxLen) :
    w.ownsRow B e size (.slice (some ⟨g, 0, none⟩) n cap) n xs :=
  ⟨hx, .inr ⟨g, cap, _, rfl, hB, hg, hn, hm, by simpa using hl, by rw [List.toList_toArray, ← hx, List.take_left]⟩⟩
set_option maxHeartbeats 1600000 in
theorem deletef_any (pv : Value) (B : Nat) (ps : List (Nat × List UInt8)) (G k : Nat) (w : World) (h : w.ownsRow B 104 33 pv ps.length (wcells ps)) (hok : WOk ps) (hps : ps.length ≤ 2000000) (hc : w.cell? ⟨G, 0, none⟩ = some (.int .i64 (k : Int))) (hG : G < w.heap.size) (hGp : pv.ownBlock ≠ some G) :
    Calls Try.prog 88 #[pv, .func (.func 89) #[] #[.pointer (some ⟨G, 0, none⟩)]] w fun e w' => ∃ v, e = .returned v ∧ w'.ownsRow B 104 33 v (keepW k ps).length (wcells (keepW k ps)) ∧ Chg (fun j => pv.ownBlock = some j) w w' ∧ ∀ j, v.ownBlock = some j → pv.ownBlock = some j := by
  have CI := Lib.hid (indexf_any pv B ps G k w h hok hps hc hG)
  have Hown := Lib.hid h
  have Hok := Lib.hid hok
  obtain ⟨P, pc, rfl, hpc, Hpg⟩ := own_form h
  clear h hok
  go_enter Try.func88, Try.ntmps88
  go_wp2_with fail
  refine CI.out.mono ?_
  rintro e w1 ⟨r, rfl, hfi, hb1⟩
  rcases hfi with ⟨rfl, hall⟩ | ⟨i0, rfl, hi0, hik, hall⟩
  · have Hall := Lib.hid (keepW_all hall)
    clear hall
    go_wp2
    go_ret
    exact ⟨_, rfl, by rw [Hall.out]; exact own_heap Hown.out fun j hj => hb1.block j (Hown.out.lt j hj).2, (chg_below _ hb1), fun j hj => hj⟩
  · obtain ⟨g, rfl, hBg⟩ := Hpg (by omega)
    have hGg : G ≠ g := fun e => hGp (by rw [e]; rfl)
    have hglt : g < w.heap.size := (Hown.out.lt g rfl).2
    have hown1 : w1.ownsRow B 104 33 (.slice (some ⟨g, 0, none⟩) ps.length pc) ps.length (wcells ps) := own_heap Hown.out fun j hj => hb1.block j (Hown.out.lt j hj).2
    obtain ⟨Z, hgZ, hlZ, _, hmax⟩ := own_split hown1
    have Hk0 := Lib.hid (keepW_all hall)
    have hts := take_getD_succ hi0
    have Hk1 := Lib.hid (show keepW k (ps.take (i0 + 1)) = ps.take i0 by rw [hts, keepW_snoc_no hik, Hk0.out])
    have hpm0 : ps.getD i0 (0, []) ∈ ps := by simp [hi0]
    have Hg0 := Lib.hid (show w1.heap[g]? = some (.cells (delCells k ps Z (i0 + 1) (wcell (ps.getD i0 (0, [])))).toArray 104 (0, 0)) by
      rw [hgZ, delCells, Hk1.out, ← wcells_snoc, ← hts, ← wcells_append, List.take_append_drop])
    have Hl0 := Lib.hid (wcell_len (Hok.out _ hpm0).2)
    have hc1 : w1.cell? ⟨G, 0, none⟩ = some (.int .i64 (k : Int)) := (hb1.cell (p := ⟨G, 0, none⟩) hG).trans hc
    have HlZ := Lib.hid hlZ
    have hn1 : IntKind.i64.wrap ((i0 : Int) + 1) = (i0 : Int) + 1 := by rw [IntKind.wrap_i64]; omega
    have hbq : ((i0 : Int) == -1) = false := by rw [beq_eq_false_iff_ne]; omega
    clear hgZ hlZ hall hts hpm0 hik hown1
    generalize wcell (ps.getD i0 (0, [])) = M0 at Hg0 Hl0
    go_wp2
    go_loopw [5, 6] (fun si sj wr => ∃ (i j : Nat) (M : List Value), j ≤ ps.length ∧ i + 1 ≤ j ∧ si = .int .i64 i ∧ sj = .int .i64 j ∧ (keepW k (ps.take j)).length = i ∧ M.length = (j - i) * 33 ∧ wr.heap[g]? = some (.cells (delCells k ps Z j M).toArray 104 (0, 0)) ∧ Chg (fun x => x = g) w1 wr) (fun _ sj _ => ps.length - (intOf sj).toNat)
    case atStart => exact ⟨i0, i0 + 1, M0, by omega, by omega, rfl, by go_num, by rw [Hk1.out, List.length_take]; omega, by rw [Hl0.out]; omega, Hg0.out, Chg.refl _ _⟩
    case round =>
      obtain ⟨i, j, M, hj, hij, rfl, rfl, hfl, hMl, hbg, hch⟩ := hrel
      have Hfl := Lib.hid hfl
      have Hch := Lib.hid hch
      have i0' : (0 : Int) ≤ (i : Int) := by omega
      have i1' : (i : Int) < (ps.length : Int) := by omega
      have hglr : g < wr.heap.size := (Array.getElem?_eq_some_iff.1 hbg).1
      have HFl := Lib.hid (show (wcells (keepW k (ps.take j))).length = i * 33 by rw [wcells_len (keepW_ok (fun q hq => Hok.out q (List.mem_of_mem_take hq))), hfl])
      clear hfl hch
      by_cases hlt : j < ps.length
      · have hpm : ps.getD j (0, []) ∈ ps := by simp [hlt]
        have Hwl := Lib.hid (wcell_len (Hok.out _ hpm).2)
        have Hts := Lib.hid (take_getD_succ hlt)
        have Hone := Lib.hid (show ∀ u ∈ wcell (ps.getD j (0, [])), u.oneCell' = true from fun u hu => by
          rcases List.mem_cons.1 hu with rfl | hu
          · rfl
          · exact map_bv_one u hu)
        have Hbg := Lib.hid (show wr.heap[g]? = some (.cells (wcells (keepW k (ps.take j)) ++ M ++ wcell (ps.getD j (0, [])) ++ (wcells (ps.drop (j + 1)) ++ Z)).toArray 104 (0, 0)) by
          rw [hbg, delCells, wcells_drop hlt]; simp)
        have HE := Lib.hid (show ∀ (F : List (Nat × List UInt8)) (M' : List Value), keepW k (ps.take (j + 1)) = F → delCells k ps Z (j + 1) M' = wcells F ++ M' ++ wcells (ps.drop (j + 1)) ++ Z from fun F M' e => by rw [← e]; rfl)
        have hcr : wr.cell? ⟨G, 0, none⟩ = some (.int .i64 (k : Int)) := (World.cell?_of_block (a := ⟨G, 0, none⟩) (Hch.out.block G (Nat.lt_of_lt_of_le hG hb1.size) hGg)).trans hc1
        have hGr : G < wr.heap.size := Nat.lt_of_lt_of_le (Nat.lt_of_lt_of_le hG hb1.size) Hch.out.size
        generalize ps.getD j (0, []) = p at Hwl Hts Hone Hbg
        have Hkp := Lib.hid (fun (h : p.1 ≠ k) => (by rw [Hts.out]; exact keepW_snoc_yes h : keepW k (ps.take (j + 1)) = keepW k (ps.take j) ++ [p]))
        have Hkn := Lib.hid (fun (h : p.1 = k) => (by rw [Hts.out]; exact keepW_snoc_no h : keepW k (ps.take (j + 1)) = keepW k (ps.take j)))
        generalize keepW k (ps.take j) = F at HFl Hfl Hbg Hkp Hkn
        have Hrp := Lib.hid (range_list Hbg.out (show (wcells F ++ M).length = j * 33 by rw [List.length_append, HFl.out, hMl]; omega))
        have CL := Lib.hid (fun W hc hG => closure_any p G k W hc hG)
        have Hcr := Lib.hid hcr
        have k0 : (0 : Int) ≤ (j : Int) := by omega
        have k1 : (j : Int) < (ps.length : Int) := by omega
        have hn2 : IntKind.i64.wrap ((j : Int) + 1) = (j : Int) + 1 := by rw [IntKind.wrap_i64]; omega
        have hn3 : IntKind.i64.wrap ((i : Int) + 1) = (i : Int) + 1 := by rw [IntKind.wrap_i64]; omega
        clear hbg hpm hcr hn1
        by_cases hpk : p.1 = k
        · have Hks := Lib.hid (Hkn.out hpk)
          rw [decide_eq_true hpk] at CL
          clear hpk Hkp Hkn
          go_wp2_with (first
            | (refine wpList_load_mid rfl 104 _ (by rfl) g (j * 33) (by rfl) (wcell p) _ Hrp.out Try.underlying104 rfl (by rw [Hwl.out]; exact (by kernel_rfl : (Try.prog.info? 104).map (·.size) = some 33)) ?_)
            | (refine wpList_store_blk rfl 104 _ _ (by rfl) wr.heap.size 0 (.agg (wcell p).toArray) (by rfl) (by rfl) (Value.int .i64 0 :: List.replicate 32 (Value.int .u8 0)) 104 (heap_alloc_new _ _) (wcell p) (by rfl) 33 Hwl.out (by kernel_rfl) (by decide) Hone.out (wcell p) (spl_all (by rw [Hwl.out]; rfl)) ?_
               intro w2 h2 hg2
               have hB2 : Below wr.heap.size wr w2 := (below1 wr _).grown hg2 (by simp) (fun x hx => by injection hx with hx; omega)
               have HB2 := Lib.hid hB2
               have Hr2 := Lib.hid (show w2.rangeAt wr.heap.size 0 (wcell p) from fun x v hx => by rw [Nat.zero_add, cell_of_row _ _ _ _ _ _ h2]; simpa using hx)
               have HG2 := Lib.hid ((hB2.cell (p := ⟨G, 0, none⟩) hGr).trans Hcr.out)
               have Hg2lt := Lib.hid (Nat.lt_of_lt_of_le hglr hB2.size)
               have HGlt := Lib.hid (Nat.lt_of_lt_of_le hGr hB2.size)
               have Hg2 := Lib.hid ((hB2.block g hglr).trans Hbg.out)
               have Hslt := Lib.hid ((Array.getElem?_eq_some_iff.1 h2).1)
               clear h2 hg2 hB2)
            | (refine wpList_load_mid rfl 104 _ (by rfl) wr.heap.size 0 (by rfl) (wcell p) _ Hr2.out Try.underlying104 rfl (by rw [Hwl.out]; exact (by kernel_rfl : (Try.prog.info? 104).map (·.size) = some 33)) ?_)
            | (go_at_call 89
               refine (CL.out w2 HG2.out HGlt.out).mono ?_
               rintro e w3 ⟨rfl, hb3⟩))
          go_roundw
          case rel => exact ⟨i, j + 1, M ++ wcell p, by omega, by omega, rfl, by go_num, by rw [Hks.out]; exact Hfl.out, by rw [List.length_append, hMl, Hwl.out]; omega,
            by rw [HE.out _ _ Hks.out, hb3.block g Hg2lt.out, Hg2.out]; simp, ((Hch.out.trans (chg_below (fun x => x = g) HB2.out) fun _ _ e => e).trans (chg_below (fun x => x = g) hb3) fun _ _ e => e)⟩
          case measure => simp [intOf]; omega
        · have Hks := Lib.hid (Hkp.out hpk)
          rw [decide_eq_false hpk] at CL
          clear hpk Hkp Hkn
          have HM1 := Lib.hid (show (M.take 33).length = 33 by rw [List.length_take, hMl]; omega)
          have HM2 := Lib.hid (show (M.drop 33).length = (j - i) * 33 - 33 by rw [List.length_drop, hMl])
          have HM := Lib.hid (List.take_append_drop 33 M).symm
          go_wp2_with (first
            | (refine wpList_load_mid rfl 104 _ (by rfl) g (j * 33) (by rfl) (wcell p) _ Hrp.out Try.underlying104 rfl (by rw [Hwl.out]; exact (by kernel_rfl : (Try.prog.info? 104).map (·.size) = some 33)) ?_)
            | (refine wpList_store_blk rfl 104 _ _ (by rfl) wr.heap.size 0 (.agg (wcell p).toArray) (by rfl) (by rfl) (Value.int .i64 0 :: List.replicate 32 (Value.int .u8 0)) 104 (heap_alloc_new _ _) (wcell p) (by rfl) 33 Hwl.out (by kernel_rfl) (by decide) Hone.out (wcell p) (spl_all (by rw [Hwl.out]; rfl)) ?_
               intro w2 h2 hg2
               have hB2 : Below wr.heap.size wr w2 := (below1 wr _).grown hg2 (by simp) (fun x hx => by injection hx with hx; omega)
               have HB2 := Lib.hid hB2
               have Hr2 := Lib.hid (show w2.rangeAt wr.heap.size 0 (wcell p) from fun x v hx => by rw [Nat.zero_add, cell_of_row _ _ _ _ _ _ h2]; simpa using hx)
               have HG2 := Lib.hid ((hB2.cell (p := ⟨G, 0, none⟩) hGr).trans Hcr.out)
               have Hg2lt := Lib.hid (Nat.lt_of_lt_of_le hglr hB2.size)
               have HGlt := Lib.hid (Nat.lt_of_lt_of_le hGr hB2.size)
               have Hg2 := Lib.hid ((hB2.block g hglr).trans Hbg.out)
               have Hslt := Lib.hid ((Array.getElem?_eq_some_iff.1 h2).1)
               clear h2 hg2 hB2)
            | (refine wpList_load_mid rfl 104 _ (by rfl) wr.heap.size 0 (by rfl) (wcell p) _ Hr2.out Try.underlying104 rfl (by rw [Hwl.out]; exact (by kernel_rfl : (Try.prog.info? 104).map (·.size) = some 33)) ?_)
            | (go_at_call 89
               refine (CL.out w2 HG2.out HGlt.out).mono ?_
               rintro e w3 ⟨rfl, hb3⟩
               have HB3 := Lib.hid hb3
               have Hr3 := Lib.hid (range_heap Hr2.out (hb3.block _ Hslt.out))
               have Hg3 := Lib.hid (show w3.heap[g]? = some (.cells (wcells F ++ M.take 33 ++ (M.drop 33 ++ wcell p ++ (wcells (ps.drop (j + 1)) ++ Z))).toArray 104 (0, 0)) by
                 rw [hb3.block g Hg2lt.out, Hg2.out]
                 have e := HM.out
                 generalize M.take 33 = Ma at e
                 generalize M.drop 33 = Mb at e
                 rw [e]; simp)
               clear hb3)
            | (refine wpList_load_mid rfl 104 _ (by rfl) wr.heap.size 0 (by rfl) (wcell p) _ Hr3.out Try.underlying104 rfl (by rw [Hwl.out]; exact (by kernel_rfl : (Try.prog.info? 104).map (·.size) = some 33)) ?_)
            | (refine wpList_store_blk rfl 104 _ _ (by rfl) g (i * 33) (.agg (wcell p).toArray) (by rfl) (by rfl) (wcells F ++ M.take 33 ++ (M.drop 33 ++ wcell p ++ (wcells (ps.drop (j + 1)) ++ Z))) 104 Hg3.out (wcell p) (by rfl) 33 Hwl.out (by kernel_rfl) (by rw [List.length_append, List.length_append, HFl.out, HM1.out]; omega) Hone.out _ (spl_mid HFl.out (by rw [HM1.out, Hwl.out])) ?_
               intro w4 h4 hg4
               have Hb4 := Lib.hid h4
               have Hg4 := Lib.hid hg4
               clear h4 hg4))
          go_roundw
          case rel => exact ⟨i + 1, j + 1, M.drop 33 ++ wcell p, by omega, by omega, by go_num, by go_num, by rw [Hks.out, List.length_append, Hfl.out]; rfl, by rw [List.length_append, HM2.out, Hwl.out]; omega,
            by rw [HE.out _ _ Hks.out, Hb4.out, wcells_snoc]; simp, (((Hch.out.trans (chg_below (fun x => x = g) HB2.out) fun _ _ e => e).trans (chg_below (fun x => x = g) HB3.out) fun _ _ e => e).trans (chg_grown Hg4.out) fun x _ e => by injection e with e; exact e.symm)⟩
          case measure => simp [intOf]; omega
      · obtain rfl : j = ps.length := by omega
        rw [List.take_length] at Hfl HFl
        have Hbg := Lib.hid (show wr.heap[g]? = some (.cells (wcells (keepW k ps) ++ (M ++ Z)).toArray 104 (0, 0)) by
          rw [hbg, delCells, List.take_length, List.drop_length]; simp [wcells])
        have hMZ := HlZ.out
        rw [List.length_append, wcells_len Hok.out] at hMZ
        have HLa := Lib.hid (show (wcells (keepW k ps) ++ (M ++ Z)).length = pc * 33 by rw [List.length_append, HFl.out, List.length_append, hMl]; omega)
        have hic : (i : Int) ≤ (pc : Int) := by omega
        have hil : (i : Int) ≤ (ps.length : Int) := by omega
        have hine : ¬ pc = i := by omega
        have hz : ∀ w, (zeroValue 104).run Try.prog w = .ok (.agg (Value.int .i64 0 :: List.replicate 32 (Value.int .u8 0)).toArray) w := fun w => (Try.zeroValue104 w).trans rfl
        have Hz := Lib.hid hz
        clear hbg hMZ hz
        go_wp2_with (refine wpList_clear_blk rfl _ 96 104 rfl g (i * 33) (ps.length - i) (pc - i) 33 (by rfl) (by omega) Try.underlying96 (.agg (Value.int .i64 0 :: List.replicate 32 (Value.int .u8 0)).toArray) Hz.out rfl zw_one (by omega) (wcells (keepW k ps) ++ (M ++ Z)) 104 Hbg.out (by rw [HLa.out]; have : (i + (ps.length - i)) * 33 ≤ pc * 33 := Nat.mul_le_mul_right _ (by omega); omega) ?_; intro w5 vs hvl h5 hg5)
        go_ret
        have e5 : spl (wcells (keepW k ps) ++ (M ++ Z)) (i * 33) vs = wcells (keepW k ps) ++ (vs ++ (M ++ Z).drop vs.length) := by
          unfold spl
          rw [← HFl.out, List.take_left, List.append_assoc]
          congr 2
          rw [List.drop_append, List.drop_of_length_le (by omega), List.nil_append]
          congr 1
          omega
        rw [e5] at h5
        refine ⟨_, rfl, ?_, ((chg_below (fun x => (Value.slice (some ⟨g, 0, none⟩) ps.length pc).ownBlock = some x) hb1).trans Hch.out fun x _ e => by rw [e]; rfl).trans (chg_grown hg5) fun x _ e => e, fun x hx => hx⟩
        rw [Hfl.out]
        exact own_join (by rw [HFl.out]) hBg h5 (by rw [← e5, spl_len (by rw [HLa.out, hvl]; have : (i + (ps.length - i)) * 33 ≤ pc * 33 := Nat.mul_le_mul_right _ (by omega); omega), HLa.out]) (by omega) hmax
end Go.Proofs.Ytadfimimkkimmaa
end
section
set_option maxRecDepth 8000
namespace Go.Proofs.Ytadfimimkkimmaa
open Go.RowKit

section
variable (B b : Nat) (pv : Value) (D : Dsk) (w : World) (h : DskAt w B b pv D)
include h
theorem dsk_damage_no (k : Int) (A : Option Addr) (n c : Nat) (hk : -9223372036854775808 ≤ k ∧ k ≤ 9223372036854775807) (hn : n ≤ 140737488355328) (hE : takeE D.f k n ≠ 0) :
    Calls Try.prog 64 #[.pointer (some ⟨b, 0, none⟩), .int .i64 k, .slice A n c] w fun e w' => e = .returned (.int .i64 (takeE D.f k n)) ∧ Below w.heap.size w w' := by
  have C := Lib.hid (dsk_take_any B b pv D (w.alloc (.cells #[.int .i64 k] 3)) (h.below (below1 w _)) k A n c hk hn)
  have hb := below1 w (.cells #[.int .i64 k] 3)
  clear h
  generalize takeE D.f k n = E at C hE ⊢
  have e2 : (E != 0) = true := by rw [bne_iff_ne]; exact hE
  clear hE
  go_enter Try.func64, Try.ntmps64
  go_wp2_with fail
  refine C.out.mono ?_
  rintro e w' ⟨rfl, rfl⟩
  go_wp2
  go_ret
  exact ⟨rfl, hb⟩
set_option maxHeartbeats 800000 in
theorem dsk_damage_ok (k : Nat) (x : List UInt8) (A : Option Addr) (c : Nat) (hf : D.f = false) (hk : k < 52) (hx : x.length = 32) (hr : RdB w w.heap.size A x) (hps : D.ps.length ≤ 2000000) :
    Calls Try.prog 64 #[.pointer (some ⟨b, 0, none⟩), .int .i64 (k : Int), .slice A 32 c] w fun e w' => ∃ pv', e = .returned (.int .i64 0) ∧ DskAt w' B b pv' (D.damage k x) ∧ Chg (DF b pv) w w' ∧ NewOr w pv pv' := by
  have hB0 := below1 w (.cells #[.int .i64 (k : Int)] 3)
  have Hh := Lib.hid h
  have H0 := Lib.hid (h.below hB0)
  have C := Lib.hid (dsk_take_any B b pv D (w.alloc (.cells #[.int .i64 (k : Int)] 3)) H0.out (k : Int) A 32 c (by omega) (by omega))
  have hE : takeE D.f (k : Int) 32 = 0 := by
    have : reachE D.f (k : Int) = 0 := by unfold reachE; rw [hf, if_neg (by simp), if_neg (by omega)]
    unfold takeE; rw [this]; rfl
  rw [hE] at C
  obtain ⟨g, off, rfl, hg, hcells⟩ := hr.2 (by omega)
  have Hra := Lib.hid (show w.rangeAt g off (x.map bv) from fun j v hj => by
    obtain ⟨hj1, rfl⟩ := List.getElem?_eq_some_iff.1 hj
    have hj2 : j < x.length := by simpa using hj1
    rw [hcells j hj2]
    simp [bv, hj2])
  have Hx := Lib.hid hx
  have HS := Lib.hid h.ok.S
  have HN := Lib.hid h.ok.now
  have harr := arr_at (some ⟨g, off, none⟩) 32 c (Nat.le_refl _)
  have k0 : (0 : Int) ≤ (k : Int) := by omega
  have k1 : (k : Int) < 52 := by omega
  have Hplt := Lib.hid h.plt
  have hblt := h.lt
  have hG0 : (w.alloc (.cells #[.int .i64 (k : Int)] 3)).heap[w.heap.size]? = some (.cells #[.int .i64 (k : Int)] 3 (0, 0)) := heap_alloc_new _ _
  have Hra0 := Lib.hid (World.rangeAt_alloc Hra.out (.cells #[.int .i64 (k : Int)] 3))
  have HB0 := Lib.hid hB0
  have hs0 : (w.alloc (.cells #[.int .i64 (k : Int)] 3)).heap.size = w.heap.size + 1 := by simp
  clear h hcells hr hE hx hB0
  go_enter Try.func64, Try.ntmps64
  go_wp2_with fail
  generalize hw0 : w.alloc (.cells #[.int .i64 (k : Int)] 3) = w0 at C H0 hG0 Hra0 HB0 hs0 ⊢
  generalize hGe : w.heap.size = G at hG0 HB0 hs0 Hplt hblt hg ⊢
  have HGe := Lib.hid hGe
  have Hw0 := Lib.hid hw0
  clear hGe hw0
  refine C.out.mono ?_
  rintro e w' ⟨rfl, rfl⟩
  have HG0 := Lib.hid hG0
  go_wp2
  refine wp_region_still_tail 8 (by kernel_rfl) (by kernel_rfl) ?_
  simp only [List.take_succ_cons, List.take_zero, List.drop_succ_cons, List.drop_zero]
  change wpStill _ _ w'.drew _ _ _
  have hcG : w'.drew.cell? ⟨G, 0, none⟩ = some (.int .i64 (k : Int)) := cell_of_row w' G 0 _ _ _ HG0.out
  still_step
  still_step
  still_step
  still_step
  refine wpStill_load_mid rfl 94 _ (by rfl) g off (by rfl) (x.map bv) _ ((World.rangeAt_drew _ _ _ _).2 Hra0.out) Try.underlying94 rfl (by rw [List.length_map, Hx.out]; exact size_sec) ?_
  repeat still_step
  refine wpStill_nil ?_
  change wpList _ _ _ _ _ w'.drew
  refine wpList_store_blk rfl 94 _ _ (by rfl) b (k * 32) (.agg (x.map bv).toArray) (by rfl) (by rfl) (dcells D.S D.now pv D.f) 98 H0.out.blk (x.map bv) (by rfl) 32 (by rw [List.length_map, Hx.out]) size_sec (by rw [dcells_len HS.out HN.out]; omega) map_bv_one (dcells (putAt D.S k x) D.now pv D.f) (spl_Ssec HS.out hk Hx.out) ?_
  intro w1 hb1 hg1
  have HS' := Lib.hid (show (putAt D.S k x).length = 1664 from putAt_len HS.out (by omega) Hx.out)
  have HN' := Lib.hid (show (putAt D.now k x).length = 1664 from putAt_len HN.out (by omega) Hx.out)
  have HG1 := Lib.hid ((hg1.block G (show G < w'.heap.size by omega) (by intro e; injection e with e; omega)).trans HG0.out)
  have hr1 := range_sec (k := k) (range_S hb1)
  rw [sec_put_same HS.out hk Hx.out, Nat.zero_add] at hr1
  have Hr1 := Lib.hid hr1
  have Hb1 := Lib.hid hb1
  have Hg1 := Lib.hid (show w'.grownBy w1 (some b) from ⟨hg1.os, hg1.tape, hg1.output, hg1.size, hg1.block⟩)
  clear hb1 hg1 hr1 hcG hG0
  go_wp2
  refine wp_region_still_tail 11 (by kernel_rfl) (by kernel_rfl) ?_
  simp only [List.take_succ_cons, List.take_zero, List.drop_succ_cons, List.drop_zero]
  change wpStill _ _ w1.drew _ _ _
  have hcG : w1.drew.cell? ⟨G, 0, none⟩ = some (.int .i64 (k : Int)) := cell_of_row w1 G 0 _ _ _ HG1.out
  still_step
  still_step
  still_step
  still_step
  still_step
  still_step
  still_step
  refine wpStill_load_mid rfl 94 _ (by rfl) b (k * 32) (by rfl) (x.map bv) _ ((World.rangeAt_drew _ _ _ _).2 Hr1.out) Try.underlying94 rfl (by rw [List.length_map, Hx.out]; exact size_sec) ?_
  repeat still_step
  refine wpStill_nil ?_
  change wpList _ _ _ _ _ w1.drew
  refine wpList_store_blk rfl 94 _ _ (by rfl) b (1664 + k * 32) (.agg (x.map bv).toArray) (by rfl) (by rfl) (dcells (putAt D.S k x) D.now pv D.f) 98 Hb1.out (x.map bv) (by rfl) 32 (by rw [List.length_map, Hx.out]) size_sec (by rw [dcells_len HS'.out HN.out]; omega) map_bv_one (dcells (putAt D.S k x) (putAt D.now k x) pv D.f) (spl_Nsec HS'.out HN.out hk Hx.out) ?_
  intro w2 hb2 hg2
  have hc12 : Chg (fun j => j = b) w' w2 := (chg_grown Hg1.out).trans (chg_grown hg2).ofDrew (fun _ _ e => e) |>.mono fun i _ e => by injection e with e; exact e.symm
  have hG2 := (hg2.block G (show G < w1.heap.size by have := Hg1.out.size; omega) (by intro e; injection e with e; omega)).trans HG1.out
  have hcG2 : w2.cell? ⟨G, 0, none⟩ = some (.int .i64 (k : Int)) := cell_of_row w2 G 0 _ _ _ hG2
  have hG2lt : G < w2.heap.size := (Array.getElem?_eq_some_iff.1 hG2).1
  have hown2 : w2.ownsRow B 104 33 pv D.ps.length (wcells D.ps) := own_chg H0.out.own hc12 fun j hj e => H0.out.ne (by rw [hj, e])
  have hcp := cell_dpv hb2 HS'.out HN'.out
  have CD := Lib.hid (deletef_any pv B D.ps G k w2 hown2 Hh.out.ok.ps hps hcG2 hG2lt (fun e => by have := (Hplt.out G e).2; omega))
  have Hb2 := Lib.hid hb2
  have Hc12 := Lib.hid hc12
  have hb2lt : b < w2.heap.size := (Array.getElem?_eq_some_iff.1 hb2).1
  have hmf : ∀ (fn : Fn) (first cap : Array Value) (w : World), (Instr.makeFunc fn first cap).run Try.prog w = .ok (.func fn first cap) w := fun _ _ _ _ => rfl
  clear hb2 hg2 hc12 hG2 hcG2 hown2 hcG
  go_wp2_with fail
  refine CD.out.mono ?_
  rintro e w3 ⟨v3, rfl, hown3, hc3, hv3⟩
  have Hb3 := Lib.hid ((hc3.block b hb2lt (Hh.out.ne)).trans Hb2.out)
  have hv1 : v3.oneCell' = true := by rcases hown3.2 with ⟨rfl, _⟩ | ⟨g, cap, cur, rfl, _⟩ <;> rfl
  have hvc : v3.cells = #[v3] := by rcases hown3.2 with ⟨rfl, _⟩ | ⟨g, cap, cur, rfl, _⟩ <;> rfl
  have Hown3 := Lib.hid hown3
  have Hc3 := Lib.hid hc3
  have Hv1 := Lib.hid hv1
  have Hvc := Lib.hid hvc
  clear hown3 hc3 hv1 hvc hcp
  go_wp2_with (refine wpList_store_blk rfl 96 _ _ (by rfl) b 3328 v3 (by rfl) (by rfl) (dcells (putAt D.S k x) (putAt D.now k x) pv D.f) 98 Hb3.out [v3] Hvc.out 1 (by rfl) size_pend (by rw [dcells_len HS'.out HN'.out]; omega) (by intro u hu; simp at hu; subst hu; exact Hv1.out) (dcells (putAt D.S k x) (putAt D.now k x) v3 D.f) (spl_pv HS'.out HN'.out) ?_; intro w4 h4 hg4)
  go_ret
  have hne : v3.ownBlock ≠ some b := fun e => Hh.out.ne (hv3 b e)
  refine ⟨v3, rfl, ⟨?_, ?_, Hh.out.le, hne, Hh.out.ok.damage hk Hx.out⟩, ?_, fun j hj => .inl (hv3 j hj)⟩
  · rw [Dsk.damage_now Hh.out.ok hk Hx.out]; exact h4
  · exact own_heap Hown3.out fun j hj => hg4.block j (Hown3.out.lt j hj).2 (by intro e; injection e with e; exact hne (by rw [hj, e]))
  · have c0 : Chg (DF b pv) w w' := by rw [← Hw0.out]; exact chg_below _ (below1 w _)
    exact ((c0.trans Hc12.out fun i _ e => .inl e).trans Hc3.out fun i _ e => .inr e).trans (chg_grown hg4) fun i _ e => .inl (by injection e with e; exact e.symm)
end
end Go.Proofs.Ytadfimimkkimmaa
end
section
namespace Go.Proofs.Ytadfimimkkimmaa
open Go.RowKit

theorem dsk_damage_any (B b : Nat) (pv : Value) (D : Dsk) (w : World) (h : DskAt w B b pv D) (k : Int) (x : List UInt8) (A : Option Addr) (n c : Nat) (hn : n = x.length) (hk : -9223372036854775808 ≤ k ∧ k ≤ 9223372036854775807) (hr : RdB w w.heap.size A x) (hps : D.ps.length ≤ 2000000) :
    Calls Try.prog 64 #[.pointer (some ⟨b, 0, none⟩), .int .i64 k, .slice A n c] w fun e w' => ∃ pv', e = .returned (.int .i64 (takeE D.f k n)) ∧ DskAt w' B b pv' (D.damageE k x) ∧ Chg (DF b pv) w w' ∧ NewOr w pv pv' := by
  subst hn
  unfold Dsk.damageE
  by_cases he : takeE D.f k x.length = 0
  · obtain ⟨hf, h0, h1, hl⟩ := takeE_zero he
    have e := dsk_damage_ok B b pv D w h k.toNat x A c hf (by omega) hl hr hps
    rw [Int.toNat_of_nonneg h0] at e
    rw [if_pos he, he, hl]
    exact e
  · rw [if_neg he]
    refine (dsk_damage_no B b pv D w h k A x.length c hk (by have := hr.1; omega) he).mono ?_
    rintro e w' ⟨rfl, hb⟩
    exact ⟨pv, rfl, h.below hb, chg_below _ hb, NewOr.refl _ _⟩
end Go.Proofs.Ytadfimimkkimmaa
end
section
namespace Go.Proofs.Ytadfimimkkimmaa
open Go.RowKit

def upd {α : Type} (f : Nat → α) (i : Nat) (x : α) : Nat → α := fun j => if j = i then x else f j
theorem upd_same {α : Type} (f : Nat → α) (i : Nat) (x : α) : upd f i x i = x := if_pos rfl
theorem upd_other {α : Type} (f : Nat → α) {i j : Nat} (x : α) (h : j ≠ i) : upd f i x j = f j := if_neg h
/-- How many writes are pending on the first disks. -/
def offs (D : Nat → Dsk) : Nat → Nat
  | 0 => 0
  | i + 1 => offs D i + (D i).ps.length
structure Bch where
  n : Nat
  D : Nat → Dsk
  done : Nat
  left : Int
  down : Bool
namespace Bch
def new (n : Nat) : Bch := ⟨n, fun _ => Dsk.new, 0, -1, false⟩
def set (N : Bch) (i : Nat) (X : Dsk) : Bch := { N with D := upd N.D i X }
def pickE (N : Bch) (d : Int) : Int := if d < 0 ∨ (N.n : Int) ≤ d then 1 else 0
def powE (N : Bch) (d : Int) : Int := if N.pickE d ≠ 0 then N.pickE d else if N.down = true then 6 else 0
def countE (N : Bch) : Int := if N.left = 0 then 6 else 0
def count (N : Bch) : Bch := if N.left = 0 then { N with down := true } else { N with done := N.done + 1, left := if N.left = -1 then -1 else N.left - 1 }
def at_ (N : Bch) (d : Int) : Dsk := N.D d.toNat
def limit (N : Bch) (v : Int) : Bch := if N.down = true then N else { N with left := max v (-1) }
def restore (N : Bch) : Bch := { N with left := -1, down := false }
/-- The first k disks have crashed. -/
def crTo (N : Bch) (ks : List Bool) (k : Nat) : Bch := { N with D := fun i => if i < k then (N.D i).crash (ks.drop (offs N.D i)) else N.D i }
def crash (N : Bch) (ks : List Bool) : Bch := (N.crTo ks N.n).restore
def pend (N : Bch) : Nat := offs N.D N.n
def readE (N : Bch) (d k : Int) : Int := if N.powE d ≠ 0 then N.powE d else reachE (N.at_ d).f k
def read (N : Bch) (d k : Int) : List UInt8 := if N.readE d k ≠ 0 then [] else secAt (N.at_ d).now k.toNat
def writeE (N : Bch) (d k : Int) (n : Nat) : Int := if N.powE d ≠ 0 then N.powE d else if takeE (N.at_ d).f k n ≠ 0 then takeE (N.at_ d).f k n else N.countE
def write (N : Bch) (d k : Int) (x : List UInt8) : Bch :=
  if N.powE d ≠ 0 then N else if takeE (N.at_ d).f k x.length ≠ 0 then N else if N.left = 0 then N.count else (N.set d.toNat ((N.at_ d).write k.toNat x)).count
def flushE (N : Bch) (d : Int) : Int := if N.powE d ≠ 0 then N.powE d else if (N.at_ d).f = true then 5 else 0
def flush (N : Bch) (d : Int) : Bch := if N.powE d ≠ 0 then N else N.set d.toNat (N.at_ d).flushE
def fail (N : Bch) (d : Int) : Bch := if N.pickE d ≠ 0 then N else N.set d.toNat Dsk.failed
def failed (N : Bch) (d : Int) : Bool := if N.pickE d ≠ 0 then false else (N.at_ d).f
def replaceE (N : Bch) (d : Int) : Int := if N.pickE d ≠ 0 then N.pickE d else if (N.at_ d).f = true then 0 else 9
def replace (N : Bch) (d : Int) : Bch := if N.replaceE d ≠ 0 then N else N.set d.toNat Dsk.new
def damageE (N : Bch) (d k : Int) (n : Nat) : Int := if N.pickE d ≠ 0 then N.pickE d else takeE (N.at_ d).f k n
def damage (N : Bch) (d k : Int) (x : List UInt8) : Bch := if N.pickE d ≠ 0 then N else N.set d.toNat ((N.at_ d).damageE k x)
structure Ok (N : Bch) : Prop where
  n : 1 ≤ N.n ∧ N.n ≤ 8
  left : -1 ≤ N.left ∧ N.left ≤ 9223372036854775807
theorem pickE_zero {N : Bch} {d : Int} (h : N.pickE d = 0) : 0 ≤ d ∧ d < (N.n : Int) := by
  unfold pickE at h
  by_cases c : d < 0 ∨ (N.n : Int) ≤ d
  · simp [c] at h
  · omega
theorem pickE_ok {N : Bch} {d : Int} (h0 : 0 ≤ d) (h1 : d < (N.n : Int)) : N.pickE d = 0 := by unfold pickE; rw [if_neg (by omega)]
theorem pickE_no {N : Bch} {d : Int} (h : ¬ (0 ≤ d ∧ d < (N.n : Int))) : N.pickE d = 1 := by unfold pickE; rw [if_pos (by omega)]
theorem powE_zero {N : Bch} {d : Int} (h : N.powE d = 0) : N.pickE d = 0 ∧ N.down = false := by
  unfold powE at h
  by_cases c : N.pickE d = 0
  · refine ⟨c, ?_⟩
    rw [if_neg (by simp [c])] at h
    cases hd : N.down with
    | false => rfl
    | true => simp [hd] at h
  · rw [if_pos c] at h; exact absurd h c
theorem powE_ok {N : Bch} {d : Int} (h : N.pickE d = 0) (hd : N.down = false) : N.powE d = 0 := by unfold powE; rw [if_neg (by simp [h]), hd]; rfl
theorem powE_down {N : Bch} {d : Int} (h : N.pickE d = 0) (hd : N.down = true) : N.powE d = 6 := by unfold powE; rw [if_neg (by simp [h]), hd]; rfl
theorem powE_no {N : Bch} {d : Int} (h : N.pickE d ≠ 0) : N.powE d = N.pickE d := by unfold powE; rw [if_pos h]
theorem count_n (N : Bch) : N.count.n = N.n := by unfold count; split <;> rfl
theorem count_D (N : Bch) : N.count.D = N.D := by unfold count; split <;> rfl
theorem write_n (N : Bch) (d k : Int) (x : List UInt8) : (N.write d k x).n = N.n := by
  unfold write
  repeat' split
  · rfl
  · rfl
  · exact count_n N
  · exact count_n _
theorem count_ok {N : Bch} (h : N.Ok) : N.count.Ok := by
  refine ⟨by rw [count_n]; exact h.n, ?_⟩
  have := h.left
  unfold count
  split
  · exact this
  · show -1 ≤ (if N.left = -1 then -1 else N.left - 1) ∧ (if N.left = -1 then -1 else N.left - 1) ≤ _
    split <;> omega
end Bch
theorem offs_pend (D : Nat → Dsk) : ∀ n, (∀ i, i < n → (D i).ps.length ≤ 2000000) → offs D n ≤ n * 2000000
  | 0, _ => Nat.zero_le _
  | n + 1, h => by
    have h1 := offs_pend D n fun i hi => h i (by omega)
    have h2 := h n (by omega)
    show offs D n + (D n).ps.length ≤ _
    omega
theorem offs_congr {D E : Nat → Dsk} : ∀ {n : Nat}, (∀ i, i < n → (D i).ps.length = (E i).ps.length) → offs D n = offs E n
  | 0, _ => rfl
  | n + 1, h => by
    show offs D n + _ = offs E n + _
    rw [offs_congr fun i hi => h i (by omega), h n (by omega)]
theorem offs_zero {D : Nat → Dsk} : ∀ {n : Nat}, (∀ i, i < n → (D i).ps = []) → offs D n = 0
  | 0, _ => rfl
  | n + 1, h => by
    show offs D n + _ = 0
    rw [offs_zero fun i hi => h i (by omega), h n (by omega)]; rfl
theorem keptOf_take : ∀ (ps : List (Nat × List UInt8)) (ks : List Bool), keptOf ps (ks.take (min ps.length ks.length)) = keptOf ps ks
  | [], _ => rfl
  | p :: ps, [] => by rw [List.take_nil]
  | p :: ps, k :: ks => by
    have ih := keptOf_take ps ks
    have hm : min (p :: ps).length (k :: ks).length = min ps.length ks.length + 1 := by simp only [List.length_cons]; omega
    rw [hm, List.take_succ_cons]
    show (if k then p :: keptOf ps (ks.take _) else keptOf ps (ks.take _)) = _
    rw [ih]
    rfl
theorem crash_take (D : Dsk) (ks : List Bool) : D.crash (ks.take (min D.ps.length ks.length)) = D.crash ks := by unfold Dsk.crash; rw [keptOf_take]

/-- Where a bench lies: the row of its disks, each disk's block, its pending writes. -/
structure BH where
  g : Nat
  bk : Nat → Nat
  pv : Nat → Value
def ptr (b : Nat) : Value := .pointer (some ⟨b, 0, none⟩)
def bcells (g n : Nat) (done : Nat) (left : Int) (down : Bool) : List Value := [.int .i64 (done : Int), .int .i64 left, .bool down, .slice (some ⟨g, 0, none⟩) n n]
def prow (n : Nat) (bk : Nat → Nat) : List Value := (List.range n).map fun i => ptr (bk i)
theorem prow_len (n : Nat) (bk : Nat → Nat) : (prow n bk).length = n := by unfold prow; simp
theorem prow_get {n i : Nat} (bk : Nat → Nat) (h : i < n) : (prow n bk)[i]? = some (ptr (bk i)) := by unfold prow; simp [h]
theorem prow_one {n : Nat} {bk : Nat → Nat} : ∀ u ∈ prow n bk, u.oneCell' = true := fun u hu => by
  unfold prow at hu
  obtain ⟨i, _, rfl⟩ := List.mem_map.1 hu
  rfl
theorem prow_congr {n : Nat} {bk bk' : Nat → Nat} (h : ∀ i, i < n → bk i = bk' i) : prow n bk = prow n bk' := List.map_congr_left fun i hi => by rw [h i (List.mem_range.1 hi)]
theorem prow_set {n i : Nat} (bk : Nat → Nat) (b : Nat) (h : i < n) : spl (prow n bk) i [ptr b] = prow n (upd bk i b) := by
  apply List.ext_getElem?
  intro j
  have hl : ((prow n bk).take i).length = i := by rw [List.length_take, prow_len]; omega
  unfold spl
  rw [List.append_assoc]
  by_cases hj : j < i
  · rw [List.getElem?_append_left (by omega), List.getElem?_take, if_pos hj, prow_get _ (by omega), prow_get _ (by omega), upd_other _ _ (by omega)]
  · rw [List.getElem?_append_right (by omega), hl]
    by_cases e : j = i
    · subst e; rw [Nat.sub_self, prow_get _ h, upd_same]; rfl
    · obtain ⟨k, hk⟩ : ∃ k, j - i = k + 1 := ⟨j - i - 1, by omega⟩
      rw [hk, List.cons_append, List.getElem?_cons_succ, List.nil_append, List.getElem?_drop]
      rw [show i + [ptr b].length + k = j by simp; omega]
      by_cases hjn : j < n
      · rw [prow_get _ hjn, prow_get _ hjn, upd_other _ _ e]
      · rw [List.getElem?_eq_none (by rw [prow_len]; omega), List.getElem?_eq_none (by rw [prow_len]; omega)]
/-- The bench N lies at block b. -/
structure BAt (w : World) (B b : Nat) (H : BH) (N : Bch) : Prop where
  blk : w.heap[b]? = some (.cells (bcells H.g N.n N.done N.left N.down).toArray 55 (0, 0))
  row : w.heap[H.g]? = some (.cells (prow N.n H.bk).toArray 76 (0, 0))
  dsk : ∀ i, i < N.n → DskAt w B (H.bk i) (H.pv i) (N.D i)
  le : B ≤ b ∧ B ≤ H.g
  ne : b ≠ H.g
  off : ∀ i, i < N.n → ∀ k, DF (H.bk i) (H.pv i) k → k ≠ b ∧ k ≠ H.g
  ap : ∀ i j, i < N.n → j < N.n → i ≠ j → Apart (H.bk i) (H.pv i) (H.bk j) (H.pv j)
  ok : N.Ok
/-- The blocks of a bench. -/
def BF (b : Nat) (H : BH) (n : Nat) (k : Nat) : Prop := k = b ∨ k = H.g ∨ ∃ i, i < n ∧ DF (H.bk i) (H.pv i) k
/-- What a call leaves of a bench. -/
def BTo (w w' : World) (B b : Nat) (H : BH) (n : Nat) (N' : Bch) : Prop :=
  ∃ H', BAt w' B b H' N' ∧ Chg (BF b H n) w w' ∧ (N'.n = n ∧ H'.g = H.g) ∧ ∀ k, BF b H' n k → BF b H n k ∨ w.heap.size ≤ k
theorem DskAt.flt {w : World} {B b : Nat} {pv : Value} {D : Dsk} (h : DskAt w B b pv D) {k : Nat} (hk : DF b pv k) : B ≤ k ∧ k < w.heap.size := by
  rcases hk with e | e
  · exact ⟨by rw [e]; exact h.le, by rw [e]; exact h.lt⟩
  · exact h.plt k e
section
variable {w w' : World} {B b : Nat} {H : BH} {N : Bch}
theorem BAt.lt (h : BAt w B b H N) : b < w.heap.size := (Array.getElem?_eq_some_iff.1 h.blk).1
theorem BAt.glt (h : BAt w B b H N) : H.g < w.heap.size := (Array.getElem?_eq_some_iff.1 h.row).1
theorem BAt.flt (h : BAt w B b H N) {k : Nat} (hk : BF b H N.n k) : B ≤ k ∧ k < w.heap.size := by
  rcases hk with e | e | ⟨i, hi, e⟩
  · exact ⟨by rw [e]; exact h.le.1, by rw [e]; exact h.lt⟩
  · exact ⟨by rw [e]; exact h.le.2, by rw [e]; exact h.glt⟩
  · exact (h.dsk i hi).flt e
theorem BAt.heap (h : BAt w B b H N) (hk : ∀ k, BF b H N.n k → w'.heap[k]? = w.heap[k]?) : BAt w' B b H N :=
  ⟨(hk b (.inl rfl)).trans h.blk, (hk H.g (.inr (.inl rfl))).trans h.row, fun i hi => (h.dsk i hi).heap (hk _ (.inr (.inr ⟨i, hi, .inl rfl⟩))) fun k e => hk k (.inr (.inr ⟨i, hi, .inr e⟩)), h.le, h.ne, h.off, h.ap, h.ok⟩
theorem BAt.chg {F : Nat → Prop} (h : BAt w B b H N) (hc : Chg F w w') (hn : ∀ k, BF b H N.n k → ¬ F k) : BAt w' B b H N := h.heap fun k hk => hc.block k (h.flt hk).2 (hn k hk)
theorem BAt.below (h : BAt w B b H N) (hb : Below w.heap.size w w') : BAt w' B b H N := h.heap fun k hk => hb.block k (h.flt hk).2
theorem BAt.drewN (h : BAt w B b H N) (n : Nat) : BAt (w.drewN n) B b H N := h.heap fun _ _ => rfl
theorem BAt.mono {B' : Nat} (h : BAt w B b H N) (hB : B' ≤ B) : BAt w B' b H N :=
  ⟨h.blk, h.row, fun i hi => (h.dsk i hi).mono hB, by have := h.le; omega, h.ne, h.off, h.ap, h.ok⟩
theorem BAt.self (h : BAt w B b H N) : BTo w w B b H N.n N := ⟨H, h, Chg.refl _ _, ⟨rfl, rfl⟩, fun _ h => .inl h⟩
theorem BAt.drew0 (h : BAt w B b H N) : BAt w.drew B b H N := h.heap fun _ _ => rfl
theorem BAt.grow (h : BAt w B b H N) (hb : Below w.heap.size w w') : BTo w w' B b H N.n N := ⟨H, h.below hb, chg_below _ hb, ⟨rfl, rfl⟩, fun _ h => .inl h⟩
/-- One disk has turned. -/
theorem BAt.step (h : BAt w B b H N) {i : Nat} (hi : i < N.n) {pv' : Value} {X : Dsk} (hd : DskAt w' B (H.bk i) pv' X) (hc : Chg (DF (H.bk i) (H.pv i)) w w') (hn : NewOr w (H.pv i) pv') : BTo w w' B b H N.n (N.set i X) := by
  have hnew : ∀ k, DF (H.bk i) pv' k → DF (H.bk i) (H.pv i) k ∨ w.heap.size ≤ k := fun k e => by
    rcases e with e | e
    · exact .inl (.inl e)
    · rcases hn k e with e | e
      · exact .inl (.inr e)
      · exact .inr e
  have hpv : ∀ j, j ≠ i → upd H.pv i pv' j = H.pv j := fun j hj => upd_other _ _ hj
  refine ⟨{ H with pv := upd H.pv i pv' }, ⟨?_, ?_, ?_, h.le, h.ne, ?_, ?_, ⟨h.ok.n, h.ok.left⟩⟩, hc.mono fun k _ e => .inr (.inr ⟨i, hi, e⟩), ⟨rfl, rfl⟩, ?_⟩
  · exact (hc.block b h.lt fun e => (h.off i hi b e).1 rfl).trans h.blk
  · exact (hc.block H.g h.glt fun e => (h.off i hi H.g e).2 rfl).trans h.row
  · intro j hj
    show DskAt w' B (H.bk j) (upd H.pv i pv' j) (upd N.D i X j)
    by_cases e : j = i
    · subst e; rw [upd_same, upd_same]; exact hd
    · rw [upd_other _ _ e, upd_other _ _ e]
      exact (h.dsk j hj).apart (h.ap j i hj hi e) hc
  · intro j hj k
    show DF (H.bk j) (upd H.pv i pv' j) k → _
    by_cases e : j = i
    · subst e
      rw [upd_same]
      intro hk
      rcases hnew k hk with h1 | h1
      · exact h.off j hj k h1
      · have := h.lt; have := h.glt; exact ⟨by omega, by show k ≠ H.g; omega⟩
    · rw [upd_other _ _ e]; exact h.off j hj k
  · intro j l hj hl hjl
    show Apart (H.bk j) (upd H.pv i pv' j) (H.bk l) (upd H.pv i pv' l)
    by_cases e : j = i
    · subst e
      rw [upd_same, upd_other _ _ (fun e => hjl e.symm)]
      intro k h1 h2
      rcases hnew k h1 with h3 | h3
      · exact h.ap j l hj hl hjl k h3 h2
      · have := ((h.dsk l hl).flt h2).2; omega
    · rw [upd_other _ _ e]
      by_cases e2 : l = i
      · subst e2
        rw [upd_same]
        intro k h1 h2
        rcases hnew k h2 with h3 | h3
        · exact h.ap j l hj hl hjl k h1 h3
        · have := ((h.dsk j hj).flt h1).2; omega
      · rw [upd_other _ _ e2]; exact h.ap j l hj hl hjl
  · intro k hk
    rcases hk with e | e | ⟨j, hj, e⟩
    · exact .inl (.inl e)
    · exact .inl (.inr (.inl e))
    · revert e
      show DF (H.bk j) (upd H.pv i pv' j) k → _
      by_cases e2 : j = i
      · subst e2
        rw [upd_same]
        intro e
        rcases hnew k e with h1 | h1
        · exact .inl (.inr (.inr ⟨j, hj, h1⟩))
        · exact .inr h1
      · rw [upd_other _ _ e2]
        intro e
        exact .inl (.inr (.inr ⟨j, hj, e⟩))
/-- What is counted has turned. -/
theorem BAt.cnt (h : BAt w B b H N) {done : Nat} {left : Int} {down : Bool} (hb : w'.heap[b]? = some (.cells (bcells H.g N.n done left down).toArray 55 (0, 0))) (hc : Chg (fun k => k = b) w w') (hl : -1 ≤ left ∧ left ≤ 9223372036854775807) :
    BTo w w' B b H N.n { N with done := done, left := left, down := down } :=
  ⟨H, ⟨hb, (hc.block H.g h.glt fun e => h.ne e.symm).trans h.row, fun i hi => (h.dsk i hi).chg hc (fun e => (h.off i hi _ (.inl rfl)).1 e) fun k hk e => (h.off i hi k (.inr hk)).1 e, h.le, h.ne, h.off, h.ap, ⟨h.ok.n, hl⟩⟩,
    hc.mono fun _ _ e => .inl e, ⟨rfl, rfl⟩, fun _ h => .inl h⟩
theorem BTo.seq {w1 w2 : World} {n : Nat} {H1 : BH} {N2 : Bch} (c1 : Chg (BF b H n) w w1) (g1 : H1.g = H.g) (n1 : ∀ k, BF b H1 n k → BF b H n k ∨ w.heap.size ≤ k) (h2 : BTo w1 w2 B b H1 n N2) : BTo w w2 B b H n N2 := by
  obtain ⟨H2, a2, c2, e2, n2⟩ := h2
  refine ⟨H2, a2, c1.trans c2 fun k hk e => ?_, ⟨e2.1, e2.2.trans g1⟩, fun k hk => ?_⟩
  · rcases n1 k e with h | h
    · exact h
    · omega
  · rcases n2 k hk with h | h
    · exact n1 k h
    · exact .inr (Nat.le_trans c1.size h)
theorem BTo.drew {w1 : World} {n : Nat} {N1 : Bch} (h : BTo w.drew w1 B b H n N1) : BTo w w1 B b H n N1 := by
  obtain ⟨H1, a, c, e, m⟩ := h
  exact ⟨H1, a, c.ofDrew, e, m⟩
theorem BAt.cell (h : BAt w B b H N) (j : Nat) (v : Value) (hj : (bcells H.g N.n N.done N.left N.down)[j]? = some v) : w.cell? ⟨b, j, none⟩ = some v := by
  rw [cell_of_row w b j _ _ _ h.blk, List.getElem?_toArray]; exact hj
theorem BAt.pcell (h : BAt w B b H N) {i : Nat} (hi : i < N.n) : w.cell? ⟨H.g, i, none⟩ = some (ptr (H.bk i)) := by
  rw [cell_of_row w H.g i _ _ _ h.row, List.getElem?_toArray]; exact prow_get _ hi
end
theorem size_bch : (Try.prog.info? 55).map (·.size) = some 4 := by kernel_rfl
theorem size_int1 : (Try.prog.info? 3).map (·.size) = some 1 := by kernel_rfl
theorem size_bool1 : (Try.prog.info? 4).map (·.size) = some 1 := by kernel_rfl
theorem size_pdisk : (Try.prog.info? 76).map (·.size) = some 1 := by kernel_rfl
end Go.Proofs.Ytadfimimkkimmaa
end
section
set_option linter.unusedVariables false
set_option linter.unusedSimpArgs false
namespace Go.Proofs.Ytadfimimkkimmaa

/-- What is done on each live disk, up to the first error. -/
def onTo (f : Bch → Nat → Int × Bch) (lv : List Bool) (N : Bch) : Nat → Int × Bch
  | 0 => (0, N)
  | i + 1 => if (onTo f lv N i).1 ≠ 0 then onTo f lv N i else if lv.getD i false = false then onTo f lv N i else
      if (f (onTo f lv N i).2 i).1 = 5 then (0, (f (onTo f lv N i).2 i).2) else f (onTo f lv N i).2 i
def wrF (at' : Nat) (x : List UInt8) (N : Bch) (i : Nat) : Int × Bch := (N.writeE (i : Int) (at' : Int) x.length, N.write (i : Int) (at' : Int) x)
def flF (N : Bch) (i : Nat) : Int × Bch := (N.flushE (i : Int), N.flush (i : Int))
section
variable {f : Bch → Nat → Int × Bch} {lv : List Bool} {N : Bch}
theorem onTo_skip {i : Nat} (h : (onTo f lv N i).1 = 0) (hl : lv.getD i false = false) : onTo f lv N (i + 1) = onTo f lv N i := by
  rw [onTo, if_neg (by simp [h]), if_pos hl]
theorem onTo_pass {i : Nat} (h : (onTo f lv N i).1 = 0) (hl : lv.getD i false = true) (hq : (f (onTo f lv N i).2 i).1 = 5) : onTo f lv N (i + 1) = (0, (f (onTo f lv N i).2 i).2) := by
  rw [onTo, if_neg (by simp [h]), if_neg (by simp only [hl]; decide), if_pos hq]
theorem onTo_goes {i : Nat} (h : (onTo f lv N i).1 = 0) (hl : lv.getD i false = true) (hq : (f (onTo f lv N i).2 i).1 ≠ 5) : onTo f lv N (i + 1) = f (onTo f lv N i).2 i := by
  rw [onTo, if_neg (by simp [h]), if_neg (by simp only [hl]; decide), if_neg hq]
theorem onTo_stop {i : Nat} (h : (onTo f lv N i).1 ≠ 0) : ∀ m, i ≤ m → onTo f lv N m = onTo f lv N i
  | 0, hm => by obtain rfl : i = 0 := by omega
                rfl
  | m + 1, hm => by
    by_cases e : i = m + 1
    · rw [e]
    · have ih := onTo_stop h m (by omega)
      rw [onTo, if_pos (by rw [ih]; exact h), ih]
theorem onTo_any (P : Bch → Prop) (h0 : P N) (hs : ∀ M i, P M → P (f M i).2) : ∀ i, P (onTo f lv N i).2
  | 0 => h0
  | i + 1 => by
    have ih := onTo_any P h0 hs i
    rw [onTo]
    repeat' split
    · exact ih
    · exact ih
    · exact hs _ _ ih
    · exact hs _ _ ih
end
theorem set_n (N : Bch) (i : Nat) (X : Dsk) : (N.set i X).n = N.n := rfl
theorem write_left (N : Bch) (d k : Int) (x : List UInt8) (h : N.left = -1) : (N.write d k x).left = -1 ∧ (N.write d k x).down = N.down := by
  unfold Bch.write
  repeat' split
  · exact ⟨h, rfl⟩
  · exact ⟨h, rfl⟩
  · omega
  · unfold Bch.count
    rw [if_neg (by show ¬ N.left = 0; omega)]
    exact ⟨by show (if N.left = -1 then (-1 : Int) else N.left - 1) = -1; rw [if_pos h], rfl⟩
theorem wrote_n {at' : Nat} {x : List UInt8} {lv : List Bool} {N : Bch} (i : Nat) : (onTo (wrF at' x) lv N i).2.n = N.n :=
  onTo_any (fun M => M.n = N.n) rfl (fun M i h => (Bch.write_n M _ _ _).trans h) i
theorem flush_n (N : Bch) (d : Int) : (N.flush d).n = N.n := by unfold Bch.flush; split <;> rfl
theorem flushed_n {lv : List Bool} {N : Bch} (i : Nat) : (onTo flF lv N i).2.n = N.n :=
  onTo_any (fun M => M.n = N.n) rfl (fun M i h => (flush_n M _).trans h) i
theorem count_done (N : Bch) : N.count.done ≤ N.done + 1 := by unfold Bch.count; split <;> simp
theorem write_done (N : Bch) (d k : Int) (x : List UInt8) : (N.write d k x).done ≤ N.done + 1 := by
  unfold Bch.write
  repeat' split
  · omega
  · omega
  · exact count_done N
  · exact count_done (N.set d.toNat ((N.at_ d).write k.toNat x))
theorem write_len (N : Bch) (d k : Int) (x : List UInt8) (j : Nat) : ((N.write d k x).D j).ps.length ≤ (N.D j).ps.length + 1 := by
  unfold Bch.write
  repeat' split
  · omega
  · omega
  · rw [Bch.count_D]; omega
  · rw [Bch.count_D]
    show ((upd N.D d.toNat _) j).ps.length ≤ _
    by_cases e : j = d.toNat
    · subst e; rw [upd_same]; simp [Bch.at_, Dsk.write]
    · rw [upd_other _ _ e]; omega
theorem wrote_done {at' : Nat} {x : List UInt8} {lv : List Bool} {N : Bch} : ∀ i, (onTo (wrF at' x) lv N i).2.done ≤ N.done + i
  | 0 => Nat.le_refl _
  | i + 1 => by
    have ih := wrote_done (at' := at') (x := x) (lv := lv) (N := N) i
    have h := write_done (onTo (wrF at' x) lv N i).2 (i : Int) (at' : Int) x
    rw [onTo]
    repeat' split
    · omega
    · omega
    · exact Nat.le_trans h (by omega)
    · exact Nat.le_trans h (by omega)
theorem wrote_len {at' : Nat} {x : List UInt8} {lv : List Bool} {N : Bch} (j : Nat) : ∀ i, ((onTo (wrF at' x) lv N i).2.D j).ps.length ≤ (N.D j).ps.length + i
  | 0 => Nat.le_refl _
  | i + 1 => by
    have ih := wrote_len (at' := at') (x := x) (lv := lv) (N := N) j i
    have h := write_len (onTo (wrF at' x) lv N i).2 (i : Int) (at' : Int) x j
    rw [onTo]
    repeat' split
    · omega
    · omega
    · exact Nat.le_trans h (by omega)
    · exact Nat.le_trans h (by omega)
end Go.Proofs.Ytadfimimkkimmaa
end
section
set_option linter.unusedVariables false
set_option linter.unusedSimpArgs false
namespace Go.Proofs.Ytadfimimkkimmaa

/-- A disk of the bench that is live; and has not failed. -/
def livD (N : Bch) (lv : List Bool) (i : Nat) : Bool := decide (i < N.n) && lv.getD i false
def srvD (N : Bch) (lv : List Bool) (i : Nat) : Bool := livD N lv i && !(N.D i).f
theorem livD_yes {N : Bch} {lv : List Bool} {i : Nat} (h : livD N lv i = true) : i < N.n ∧ lv.getD i false = true := by
  unfold livD at h; simpa using h
theorem srvD_yes {N : Bch} {lv : List Bool} {i : Nat} (h : srvD N lv i = true) : i < N.n ∧ lv.getD i false = true ∧ (N.D i).f = false := by
  unfold srvD livD at h
  simp only [Bool.and_eq_true, decide_eq_true_eq, Bool.not_eq_true'] at h
  exact ⟨h.1.1, h.1.2, h.2⟩
theorem srvD_mk {N : Bch} {lv : List Bool} {i : Nat} (h1 : i < N.n) (h2 : lv.getD i false = true) (h3 : (N.D i).f = false) : srvD N lv i = true := by
  unfold srvD livD; rw [h2, h3, decide_eq_true h1]; rfl
theorem srvD_no {N : Bch} {lv : List Bool} {i : Nat} (h : ¬ (i < N.n ∧ lv.getD i false = true ∧ (N.D i).f = false)) : srvD N lv i = false := by
  cases e : srvD N lv i with
  | false => rfl
  | true => exact absurd (srvD_yes e) h
theorem srvD_congr {N M : Bch} {lv : List Bool} {i : Nat} (hn : M.n = N.n) (hf : (M.D i).f = (N.D i).f) : srvD M lv i = srvD N lv i := by unfold srvD livD; rw [hn, hf]
/-- The sectors of a row, as far as disk k was asked. -/
def ssTo (N : Bch) (lv : List Bool) (a D k : Nat) : List (List UInt8) := (List.range D).map fun i => if i < k ∧ srvD N lv i = true then secAt (N.D i).now a else []
def ssL (N : Bch) (lv : List Bool) (a D : Nat) : List (List UInt8) := ssTo N lv a D D
theorem ssTo_len (N : Bch) (lv : List Bool) (a D k : Nat) : (ssTo N lv a D k).length = D := by simp [ssTo]
theorem ssL_len (N : Bch) (lv : List Bool) (a D : Nat) : (ssL N lv a D).length = D := ssTo_len _ _ _ _ _
theorem ssTo_get {N : Bch} {lv : List Bool} {a D k i : Nat} (hi : i < D) : (ssTo N lv a D k).getD i [] = if i < k ∧ srvD N lv i = true then secAt (N.D i).now a else [] := by
  simp [ssTo, List.getD_eq_getElem?_getD, hi]
theorem ssL_get {N : Bch} {lv : List Bool} {a D i : Nat} (hi : i < D) : (ssL N lv a D).getD i [] = if srvD N lv i = true then secAt (N.D i).now a else [] := by
  unfold ssL; rw [ssTo_get hi]; simp only [hi, true_and]
theorem ssTo_zero (N : Bch) (lv : List Bool) (a D : Nat) : ssTo N lv a D 0 = List.replicate D [] := by
  apply List.ext_getElem (by simp [ssTo])
  intro i h1 h2
  simp [ssTo]
theorem ssTo_skip {N : Bch} {lv : List Bool} {a D k : Nat} (hs : srvD N lv k = false) : ssTo N lv a D (k + 1) = ssTo N lv a D k := ext_getD (by rw [ssTo_len, ssTo_len]) fun i hi => by
  rw [ssTo_len] at hi
  rw [ssTo_get hi, ssTo_get hi]
  by_cases e : i = k
  · subst e; rw [if_neg (by rw [hs]; simp), if_neg (by omega)]
  · by_cases h : i < k
    · simp only [h, show i < k + 1 by omega]
    · rw [if_neg (by omega), if_neg (by omega)]
theorem ssTo_goes {N : Bch} {lv : List Bool} {a D k : Nat} (hk : k < D) (hs : srvD N lv k = true) : (ssTo N lv a D k).set k (secAt (N.D k).now a) = ssTo N lv a D (k + 1) := ext_getD (by rw [List.length_set, ssTo_len, ssTo_len]) fun i hi => by
  rw [List.length_set, ssTo_len] at hi
  rw [ssTo_get hi]
  by_cases e : k = i
  · subst e
    rw [getD_set_same (by rw [ssTo_len]; exact hi), if_pos ⟨by omega, hs⟩]
  · rw [getD_set_other e, ssTo_get hi]
    by_cases h : i < k
    · simp only [h, show i < k + 1 by omega]
    · rw [if_neg (by omega), if_neg (by omega)]
/-- What Read tells. -/
def anyS (N : Bch) (lv : List Bool) (k : Nat) : Bool := (List.range k).any (srvD N lv)
theorem anyS_no {N : Bch} {lv : List Bool} {k : Nat} (h : ∀ i, i < k → srvD N lv i = false) : anyS N lv k = false := by
  unfold anyS
  rw [List.any_eq_false]
  intro i hi
  simp [h i (List.mem_range.1 hi)]
theorem anyS_yes {N : Bch} {lv : List Bool} {k i : Nat} (hi : i < k) (h : srvD N lv i = true) : anyS N lv k = true := by
  unfold anyS
  rw [List.any_eq_true]
  exact ⟨i, List.mem_range.2 hi, h⟩
def srdE (N : Bch) (lv : List Bool) (l d c r : Int) : Int :=
  if plOk l d c r = false then 1 else if N.down = true ∧ anyS N lv (roD d) = true then 6 else if (roTake l d c r (ssL N lv (36 + r.toNat) (roD d))).isSome = true then 0 else 7
def srdL (N : Bch) (lv : List Bool) (l d c r : Int) : List (List UInt8) := if srdE N lv l d c r = 0 then (roTake l d c r (ssL N lv (36 + r.toNat) (roD d))).getD [] else []
theorem srdE_bad {N : Bch} {lv : List Bool} {l d c r : Int} (h : plOk l d c r = false) : srdE N lv l d c r = 1 ∧ srdL N lv l d c r = [] := by
  have e : srdE N lv l d c r = 1 := if_pos h
  exact ⟨e, by unfold srdL; rw [e]; rfl⟩
theorem srdE_down {N : Bch} {lv : List Bool} {l d c r : Int} (h : plOk l d c r = true) (hd : N.down = true) (ha : anyS N lv (roD d) = true) : srdE N lv l d c r = 6 ∧ srdL N lv l d c r = [] := by
  have e : srdE N lv l d c r = 6 := by unfold srdE; rw [if_neg (by simp [h]), if_pos ⟨hd, ha⟩]
  exact ⟨e, by unfold srdL; rw [e]; rfl⟩
theorem srdE_lost {N : Bch} {lv : List Bool} {l d c r : Int} (h : plOk l d c r = true) (hd : N.down = false ∨ anyS N lv (roD d) = false) (ht : roTake l d c r (ssL N lv (36 + r.toNat) (roD d)) = none) : srdE N lv l d c r = 7 ∧ srdL N lv l d c r = [] := by
  have e : srdE N lv l d c r = 7 := by
    unfold srdE; rw [if_neg (by simp [h]), if_neg, ht]; rfl
    rintro ⟨h1, h2⟩
    rcases hd with e | e
    · rw [e] at h1; cases h1
    · rw [e] at h2; cases h2
  exact ⟨e, by unfold srdL; rw [e]; rfl⟩
theorem srdE_ok {N : Bch} {lv : List Bool} {l d c r : Int} {rs : List (List UInt8)} (h : plOk l d c r = true) (hd : N.down = false ∨ anyS N lv (roD d) = false) (ht : roTake l d c r (ssL N lv (36 + r.toNat) (roD d)) = some rs) : srdE N lv l d c r = 0 ∧ srdL N lv l d c r = rs := by
  have e : srdE N lv l d c r = 0 := by
    unfold srdE; rw [if_neg (by simp [h]), if_neg, ht]; rfl
    rintro ⟨h1, h2⟩
    rcases hd with e | e
    · rw [e] at h1; cases h1
    · rw [e] at h2; cases h2
  exact ⟨e, by unfold srdL; rw [if_pos e, ht]; rfl⟩
/-- What One tells. -/
def kOf (l d c n : Int) : Nat := (n / c % (d - (l - 4))).toNat
def soneE (N : Bch) (lv : List Bool) (l d c n : Int) : Int :=
  if plOfOk l d c n = false then 4 else if srvD N lv (plOfD l d c n).toNat = true then (if N.down = true then 6 else 0) else srdE N lv l d c (plOfR l d c n)
def soneB (N : Bch) (lv : List Bool) (l d c n : Int) : List UInt8 :=
  if soneE N lv l d c n ≠ 0 then [] else if srvD N lv (plOfD l d c n).toNat = true then secAt (N.D (plOfD l d c n).toNat).now (36 + (plOfR l d c n).toNat) else (srdL N lv l d c (plOfR l d c n)).getD (kOf l d c n) []
/-- What Write leaves. -/
def wrX (a : Nat) (xs : List (List UInt8)) (N : Bch) (i : Nat) : Int × Bch := (N.writeE (i : Int) (a : Int) (xs.getD i []).length, N.write (i : Int) (a : Int) (xs.getD i []))
def swTo (lv : List Bool) (a : Nat) (xs : List (List UInt8)) (N : Bch) : Nat → Int × Bch
  | 0 => (0, N)
  | i + 1 => if (swTo lv a xs N i).1 ≠ 0 then swTo lv a xs N i else if srvD (swTo lv a xs N i).2 lv i = false then swTo lv a xs N i else wrX a xs (swTo lv a xs N i).2 i
def swrS (N : Bch) (lv : List Bool) (l d c r : Int) (rs : List (List UInt8)) : Int × Bch :=
  if fillOk l d c r rs = false then (1, N) else swTo lv (36 + r.toNat) (fillL (roD d) (roF l d c r) rs) N (roD d)
def sflS (N : Bch) (lv : List Bool) : Int × Bch := onTo flF lv N N.n
section
variable {lv : List Bool} {a : Nat} {xs : List (List UInt8)} {N : Bch}
theorem swTo_skip {i : Nat} (h : (swTo lv a xs N i).1 = 0) (hl : srvD (swTo lv a xs N i).2 lv i = false) : swTo lv a xs N (i + 1) = swTo lv a xs N i := by
  rw [swTo, if_neg (by simp [h]), if_pos hl]
theorem swTo_goes {i : Nat} (h : (swTo lv a xs N i).1 = 0) (hl : srvD (swTo lv a xs N i).2 lv i = true) : swTo lv a xs N (i + 1) = wrX a xs (swTo lv a xs N i).2 i := by
  rw [swTo, if_neg (by simp [h]), if_neg (by simp [hl])]
theorem swTo_stop {i : Nat} (h : (swTo lv a xs N i).1 ≠ 0) : ∀ m, i ≤ m → swTo lv a xs N m = swTo lv a xs N i
  | 0, hm => by obtain rfl : i = 0 := by omega
                rfl
  | m + 1, hm => by
    by_cases e : i = m + 1
    · rw [e]
    · have ih := swTo_stop h m (by omega)
      rw [swTo, if_pos (by rw [ih]; exact h), ih]
theorem swTo_any (P : Bch → Prop) (h0 : P N) (hs : ∀ M i, P M → P (M.write (i : Nat) (a : Int) (xs.getD i []))) : ∀ i, P (swTo lv a xs N i).2
  | 0 => h0
  | i + 1 => by
    have ih := swTo_any P h0 hs i
    rw [swTo]
    repeat' split
    · exact ih
    · exact ih
    · exact hs _ _ ih
theorem swTo_n (i : Nat) : (swTo lv a xs N i).2.n = N.n := swTo_any (fun M => M.n = N.n) rfl (fun M i h => (Bch.write_n M _ _ _).trans h) i
theorem swTo_done : ∀ i, (swTo lv a xs N i).2.done ≤ N.done + i
  | 0 => Nat.le_refl _
  | i + 1 => by
    have ih := swTo_done i
    have h := write_done (swTo lv a xs N i).2 (i : Int) (a : Int) (xs.getD i [])
    rw [swTo]
    repeat' split
    · omega
    · omega
    · exact Nat.le_trans h (by omega)
theorem swTo_pend (j : Nat) : ∀ i, ((swTo lv a xs N i).2.D j).ps.length ≤ (N.D j).ps.length + i
  | 0 => Nat.le_refl _
  | i + 1 => by
    have ih := swTo_pend j i
    have h := write_len (swTo lv a xs N i).2 (i : Int) (a : Int) (xs.getD i []) j
    rw [swTo]
    repeat' split
    · omega
    · omega
    · exact Nat.le_trans h (by omega)
end
end Go.Proofs.Ytadfimimkkimmaa
end
