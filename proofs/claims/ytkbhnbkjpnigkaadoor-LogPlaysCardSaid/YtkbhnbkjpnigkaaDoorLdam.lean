/- Texts put together: DskDelete, DskDamage, RecSec, RecEnc, Rw. -/
import Derived.Test.YtkbhnbkjpnigkaaDoorLdak
import Derived.Lib.SliceRun
import Derived.Test.YtkbhnbkjpnigkaaDoorLdaj
import Derived.Test.YtkbhnbkjpnigkaaDoorLdag
import Derived.Test.YtkbhnbkjpnigkaaDoorLdac
import Derived.Test.YtkbhnbkjpnigkaaDoorLdae
import Derived.Laws.OwnMore
section
set_option maxRecDepth 8000
namespace Go.Proofs.YtkbhnbkjpnigkaaDoor
open Go.RowKit

section
variable {P : Program}
theorem wpList_clear_blk {ops : Array Oper} {rest : List Oper} {op : Oper} {a : Act} {w : World} {Q : Exit → Act → World → Prop} (hgd : op.guard = none) (x : Operand) (t e : TypeId) (ho : op.op = .call { callee := .builtin .clear, args := #[x], argTypes := #[t] })
    (g o n c sz : Nat) (hx : a.eval x = .slice (some ⟨g, o, none⟩) n c) (hn : 0 < n) (ht : P.underlying t = some (.slice e)) (z : Value) (hz : ∀ w, (zeroValue e).run P w = .ok z w) (hzs : z.cells.size = sz) (hz1 : ∀ i, i < sz → (z.cells[i]!).oneCell' = true) (hsz : 0 < sz)
    (cur : List Value) (t' : TypeId) (hb : w.heap[g]? = some (.cells cur.toArray t' (0, 0))) (hl : o + n * sz ≤ cur.length)
    (h : ∀ w' vs, vs.length = n * sz → w'.heap[g]? = some (.cells (spl cur o vs).toArray t' (0, 0)) → w.grownBy w' (some g) → wpList P ops Q rest (a.put op.dst (.tuple #[])) w') : wpList P ops Q (op :: rest) a w := by
  refine wpList_plain hgd fun K hK => ?_
  have hzl : (Builtin.zeroCells z.cells n).toList.length = n * sz := by simp [Builtin.zeroCells, hzs]
  have h1 : ∀ u ∈ (Builtin.zeroCells z.cells n).toList, u.oneCell' = true := fun u hu => by
    simp only [Builtin.zeroCells, Array.toList_map, List.mem_map] at hu
    obtain ⟨i, _, rfl⟩ := hu
    exact hz1 _ (by rw [hzs]; exact Nat.mod_lt _ hsz)
  have hst := run_storeCells_at P g o t' (Builtin.zeroCells z.cells n).toList 0 cur.toArray w hb (by rw [hzl]; simpa using hl) h1
  have hrun : (Builtin.clear_ #[t] op.type #[.slice (some ⟨g, o, none⟩) n c]).run P w = .ok (.tuple #[]) (w.setRow g (spl cur o (Builtin.zeroCells z.cells n).toList).toArray) := by
    obtain ⟨m, rfl⟩ : ∃ m, n = m + 1 := ⟨n - 1, by omega⟩
    simp only [Nat.add_zero] at hst
    simp [Builtin.clear_, run_underlying ht, hz, hst, spl]
  unfold Oper.wp execOp
  simp only [ho, resolve, invoke, builtin, Sem.run_bind, Sem.run_pure, Result.andThen_ok, List.map_toArray, List.map_cons, List.map_nil, hx, hrun]
  refine hK _ _ (h _ _ hzl ?_ ?_)
  · exact setRow_heap w g _ _ t' (0, 0) hb
  · exact ⟨rfl, rfl, rfl, by simp, fun k _ hk => setRow_other w g k _ (fun e => hk (by rw [e]))⟩
end
theorem closure_any (p : Nat × List UInt8) (G k : Nat) (w : World) (hc : w.cell? ⟨G, 0, none⟩ = some (.int .i64 (k : Int))) (hG : G < w.heap.size) :
    Calls Tryd.prog 56 #[.agg (wcell p).toArray, .pointer (some ⟨G, 0, none⟩)] w fun e w' => e = .returned (.bool (decide (p.1 = k))) ∧ Below w.heap.size w w' := by
  obtain ⟨i, x⟩ := p
  show Calls Tryd.prog 56 #[.agg (Value.int .i64 (i : Int) :: x.map bv).toArray, .pointer (some ⟨G, 0, none⟩)] w fun e w' => e = .returned (.bool (decide (i = k))) ∧ Below w.heap.size w w'
  have hb := below1 w (.cells (Value.int .i64 (i : Int) :: x.map bv).toArray 100)
  have hne : G ≠ w.heap.size := by omega
  have Hd : Hid (((i : Int) == (k : Int)) = decide (i = k)) := by
    show _ = _
    by_cases h : i = k
    · subst h; simp
    · rw [decide_eq_false h, beq_eq_false_iff_ne]; omega
  go_enter Tryd.func56, Tryd.ntmps56
  go_wp2
  go_ret
  exact ⟨by rw [← Hd.out]; rfl, hb⟩
/-- Which is the first write to sector k? -/
def FirstI (ps : List (Nat × List UInt8)) (k : Nat) (r : Int) : Prop :=
  (r = -1 ∧ ∀ p ∈ ps, p.1 ≠ k) ∨ (∃ i : Nat, r = (i : Int) ∧ i < ps.length ∧ (ps.getD i (0, [])).1 = k ∧ ∀ p ∈ ps.take i, p.1 ≠ k)
theorem take_getD_succ {ps : List (Nat × List UInt8)} {i : Nat} (hi : i < ps.length) : ps.take (i + 1) = ps.take i ++ [ps.getD i (0, [])] := by
  rw [List.take_succ_eq_append_getElem hi]; simp [hi]
set_option maxHeartbeats 800000 in
theorem indexf_any (pv : Value) (B : Nat) (ps : List (Nat × List UInt8)) (G k : Nat) (w : World) (h : w.ownsRow B 100 33 pv ps.length (wcells ps)) (hok : WOk ps) (hps : ps.length ≤ 2000000) (hc : w.cell? ⟨G, 0, none⟩ = some (.int .i64 (k : Int))) (hG : G < w.heap.size) :
    Calls Tryd.prog 73 #[pv, .func (.func 56) #[] #[.pointer (some ⟨G, 0, none⟩)]] w fun e w' => ∃ r : Int, e = .returned (.int .i64 r) ∧ FirstI ps k r ∧ Below w.heap.size w w' := by
  have Hown := Lib.hid h
  have Hok := Lib.hid hok
  obtain ⟨P, pc, rfl, hpc, Hpg⟩ := own_form h
  clear h hok
  go_enter Tryd.func73, Tryd.ntmps73
  go_wp2
  go_loopw [8] (fun i wr => ∃ j : Nat, j ≤ ps.length ∧ i = .int .i64 j ∧ (∀ p ∈ ps.take j, p.1 ≠ k) ∧ Below w.heap.size w wr) (fun i _ => ps.length - (intOf i).toNat)
  case atStart => exact ⟨0, Nat.zero_le _, rfl, fun p hp => by simp at hp, Below.refl _ _⟩
  case round =>
    obtain ⟨j, hj, rfl, hall, hbr⟩ := hrel
    have Hall := Lib.hid hall
    clear hall
    by_cases hlt : j < ps.length
    · obtain ⟨g, rfl, hBg⟩ := Hpg (by omega)
      have hglt : g < w.heap.size := (Hown.out.lt g rfl).2
      have hrp := range_heap (range_pend Hown.out Hok.out (i := j) hlt) (hbr.block g hglt)
      have hpm : ps.getD j (0, []) ∈ ps := by simp [hlt]
      have Hwl := Lib.hid (wcell_len (Hok.out _ hpm).2)
      have Hts := Lib.hid (take_getD_succ hlt)
      have Hget : Hid ((ps.getD j (0, [])) = ps.getD j (0, [])) := rfl
      have hcr : wr.cell? ⟨G, 0, none⟩ = some (.int .i64 (k : Int)) := (hbr.cell (p := ⟨G, 0, none⟩) hG).trans hc
      have CL := Lib.hid (closure_any (ps.getD j (0, [])) G k wr hcr (Nat.lt_of_lt_of_le hG hbr.size))
      generalize hp : ps.getD j (0, []) = p at hrp Hwl Hts CL
      have Hp := Lib.hid hp
      have Hrp := Lib.hid hrp
      have k0 : (0 : Int) ≤ (j : Int) := by omega
      have k1 : (j : Int) < (ps.length : Int) := by omega
      clear hrp hp hpm hcr Hget
      by_cases hpk : p.1 = k
      · rw [decide_eq_true hpk] at CL
        have Hpk := Lib.hid hpk
        clear hpk
        go_wp2_with (first
          | (refine wpList_load_mid rfl 100 _ (by rfl) g (j * 33) (by rfl) (wcell p) _ Hrp.out Tryd.underlying100 rfl (by rw [Hwl.out]; exact (by kernel_rfl : (Tryd.prog.info? 100).map (·.size) = some 33)) ?_)
          | (go_at_call 56; refine CL.out.mono ?_; rintro e w1 ⟨rfl, hb1⟩))
        go_ret
        exact ⟨_, rfl, .inr ⟨j, rfl, hlt, by rw [Hp.out]; exact Hpk.out, Hall.out⟩, hbr.trans (hb1.mono hbr.size)⟩
      · rw [decide_eq_false hpk] at CL
        have Hpk := Lib.hid hpk
        clear hpk
        go_wp2_with (first
          | (refine wpList_load_mid rfl 100 _ (by rfl) g (j * 33) (by rfl) (wcell p) _ Hrp.out Tryd.underlying100 rfl (by rw [Hwl.out]; exact (by kernel_rfl : (Tryd.prog.info? 100).map (·.size) = some 33)) ?_)
          | (go_at_call 56; refine CL.out.mono ?_; rintro e w1 ⟨rfl, hb1⟩))
        go_roundw
        case rel => exact ⟨j + 1, by omega, by go_num, by rw [Hts.out]; intro q hq; rcases List.mem_append.1 hq with h1 | h1; exact Hall.out q h1; rw [List.mem_singleton.1 h1]; exact Hpk.out, hbr.trans (hb1.mono hbr.size)⟩
        case measure => simp [intOf]; omega
    · obtain rfl : j = ps.length := by omega
      go_wp2
      go_ret
      exact ⟨-1, rfl, .inl ⟨rfl, by have := Hall.out; rwa [List.take_length] at this⟩, hbr⟩
end Go.Proofs.YtkbhnbkjpnigkaaDoor
end
section
set_option maxRecDepth 8000
namespace Go.Proofs.YtkbhnbkjpnigkaaDoor
open Go.RowKit

theorem zw_one : ∀ i, i < 33 → ((Value.agg (Value.int .i64 0 :: List.replicate 32 (Value.int .u8 0)).toArray).cells[i]!).oneCell' = true := by decide
def keepW (k : Nat) (ps : List (Nat × List UInt8)) : List (Nat × List UInt8) := ps.filter fun p => decide (p.1 ≠ k)
theorem keepW_all {k : Nat} {ps : List (Nat × List UInt8)} (h : ∀ p ∈ ps, p.1 ≠ k) : keepW k ps = ps := List.filter_eq_self.2 fun p hp => by simpa using h p hp
theorem keepW_snoc_yes {k : Nat} {ps : List (Nat × List UInt8)} {p : Nat × List UInt8} (h : p.1 ≠ k) : keepW k (ps ++ [p]) = keepW k ps ++ [p] := by simp [keepW, h]
theorem keepW_snoc_no {k : Nat} {ps : List (Nat × List UInt8)} {p : Nat × List UInt8} (h : p.1 = k) : keepW k (ps ++ [p]) = keepW k ps := by simp [keepW, h]
theorem keepW_ok {k : Nat} {ps : List (Nat × List UInt8)} (h : WOk ps) : WOk (keepW k ps) := h.filter _
theorem wcells_append (ps qs : List (Nat × List UInt8)) : wcells (ps ++ qs) = wcells ps ++ wcells qs := by simp [wcells]
theorem wcells_drop {ps : List (Nat × List UInt8)} {j : Nat} (hj : j < ps.length) : wcells (ps.drop j) = wcell (ps.getD j (0, [])) ++ wcells (ps.drop (j + 1)) := by
  have e : ps.getD j (0, []) = ps[j] := by simp [hj]
  rw [e, List.drop_eq_getElem_cons hj]
  rfl
/-- The row of writes while some are struck: those that stay, then what is left over, then those not yet looked at, then spare cells. -/
def delCells (k : Nat) (ps : List (Nat × List UInt8)) (Z : List Value) (j : Nat) (M : List Value) : List Value := wcells (keepW k (ps.take j)) ++ M ++ wcells (ps.drop j) ++ Z
theorem range_list {w : World} {g : Nat} {A X C : List Value} {t : TypeId} (hb : w.heap[g]? = some (.cells (A ++ X ++ C).toArray t (0, 0))) {o : Nat} (ho : A.length = o) : w.rangeAt g o X := fun j v hj => by
  have hl : j < X.length := (List.getElem?_eq_some_iff.1 hj).1
  rw [cell_of_row w g _ _ t (0, 0) hb, List.getElem?_toArray, List.append_assoc, List.getElem?_append_right (by omega), ho, Nat.add_sub_cancel_left, List.getElem?_append_left hl]
  exact hj
theorem own_split {w : World} {B g n cap : Nat} {e : TypeId} {size : Nat} {xs : List Value} (h : w.ownsRow B e size (.slice (some ⟨g, 0, none⟩) n cap) n xs) : ∃ Z, w.heap[g]? = some (.cells (xs ++ Z).toArray e (0, 0)) ∧ (xs ++ Z).length = cap * size ∧ n ≤ cap ∧ cap ≤ maxLen := by
  rcases h.2 with ⟨h1, _⟩ | ⟨g', cap', cur, h1, h2, h3, h4, h5, h6, h7⟩
  · cases h1
  · injection h1 with h8 _ h9
    injection h8 with h8
    injection h8 with h8 _ _
    subst h8 h9
    refine ⟨cur.toList.drop (n * size), ?_, ?_, h4, h5⟩
    · rw [← h7, List.take_append_drop]; exact h3
    · rw [← h7, List.take_append_drop, Array.length_toList]; exact h6
theorem own_join {w : World} {B g n cap : Nat} {e : TypeId} {size : Nat} {xs Z : List Value} (hx : xs.length = n * size) (hB : B ≤ g) (hg : w.heap[g]? = some (.cells (xs ++ Z).toArray e (0, 0))) (hl : (xs ++ Z).length = cap * size) (hn : n ≤ cap) (hm : cap ≤ maxLen) :
    w.ownsRow B e size (.slice (some ⟨g, 0, none⟩) n cap) n xs :=
  ⟨hx, .inr ⟨g, cap, _, rfl, hB, hg, hn, hm, by simpa using hl, by rw [List.toList_toArray, ← hx, List.take_left]⟩⟩
set_option maxHeartbeats 1600000 in
theorem deletef_any (pv : Value) (B : Nat) (ps : List (Nat × List UInt8)) (G k : Nat) (w : World) (h : w.ownsRow B 100 33 pv ps.length (wcells ps)) (hok : WOk ps) (hps : ps.length ≤ 2000000) (hc : w.cell? ⟨G, 0, none⟩ = some (.int .i64 (k : Int))) (hG : G < w.heap.size) (hGp : pv.ownBlock ≠ some G) :
    Calls Tryd.prog 55 #[pv, .func (.func 56) #[] #[.pointer (some ⟨G, 0, none⟩)]] w fun e w' => ∃ v, e = .returned v ∧ w'.ownsRow B 100 33 v (keepW k ps).length (wcells (keepW k ps)) ∧ Chg (fun j => pv.ownBlock = some j) w w' ∧ ∀ j, v.ownBlock = some j → pv.ownBlock = some j := by
  have CI := Lib.hid (indexf_any pv B ps G k w h hok hps hc hG)
  have Hown := Lib.hid h
  have Hok := Lib.hid hok
  obtain ⟨P, pc, rfl, hpc, Hpg⟩ := own_form h
  clear h hok
  go_enter Tryd.func55, Tryd.ntmps55
  go_wp2_with fail
  refine CI.out.mono ?_
  rintro e w1 ⟨r, rfl, hfi, hb1⟩
  rcases hfi with ⟨rfl, hall⟩ | ⟨i0, rfl, hi0, hik, hall⟩
  · have Hall := Lib.hid (keepW_all hall)
    clear hall
    go_wp2
    go_ret
    exact ⟨_, rfl, by rw [Hall.out]; exact own_heap Hown.out fun j hj => hb1.block j (Hown.out.lt j hj).2, (chg_below _ hb1), fun j hj => hj⟩
  · obtain ⟨g, rfl, hBg⟩ := Hpg (by omega)
    have hGg : G ≠ g := fun e => hGp (by rw [e]; rfl)
    have hglt : g < w.heap.size := (Hown.out.lt g rfl).2
    have hown1 : w1.ownsRow B 100 33 (.slice (some ⟨g, 0, none⟩) ps.length pc) ps.length (wcells ps) := own_heap Hown.out fun j hj => hb1.block j (Hown.out.lt j hj).2
    obtain ⟨Z, hgZ, hlZ, _, hmax⟩ := own_split hown1
    have Hk0 := Lib.hid (keepW_all hall)
    have hts := take_getD_succ hi0
    have Hk1 := Lib.hid (show keepW k (ps.take (i0 + 1)) = ps.take i0 by rw [hts, keepW_snoc_no hik, Hk0.out])
    have hpm0 : ps.getD i0 (0, []) ∈ ps := by simp [hi0]
    have Hg0 := Lib.hid (show w1.heap[g]? = some (.cells (delCells k ps Z (i0 + 1) (wcell (ps.getD i0 (0, [])))).toArray 100 (0, 0)) by
      rw [hgZ, delCells, Hk1.out, ← wcells_snoc, ← hts, ← wcells_append, List.take_append_drop])
    have Hl0 := Lib.hid (wcell_len (Hok.out _ hpm0).2)
    have hc1 : w1.cell? ⟨G, 0, none⟩ = some (.int .i64 (k : Int)) := (hb1.cell (p := ⟨G, 0, none⟩) hG).trans hc
    have HlZ := Lib.hid hlZ
    have hn1 : IntKind.i64.wrap ((i0 : Int) + 1) = (i0 : Int) + 1 := by rw [IntKind.wrap_i64]; omega
    have hbq : ((i0 : Int) == -1) = false := by rw [beq_eq_false_iff_ne]; omega
    clear hgZ hlZ hall hts hpm0 hik hown1
    generalize wcell (ps.getD i0 (0, [])) = M0 at Hg0 Hl0
    go_wp2
    go_loopw [5, 6] (fun si sj wr => ∃ (i j : Nat) (M : List Value), j ≤ ps.length ∧ i + 1 ≤ j ∧ si = .int .i64 i ∧ sj = .int .i64 j ∧ (keepW k (ps.take j)).length = i ∧ M.length = (j - i) * 33 ∧ wr.heap[g]? = some (.cells (delCells k ps Z j M).toArray 100 (0, 0)) ∧ Chg (fun x => x = g) w1 wr) (fun _ sj _ => ps.length - (intOf sj).toNat)
    case atStart => exact ⟨i0, i0 + 1, M0, by omega, by omega, rfl, by go_num, by rw [Hk1.out, List.length_take]; omega, by rw [Hl0.out]; omega, Hg0.out, Chg.refl _ _⟩
    case round =>
      obtain ⟨i, j, M, hj, hij, rfl, rfl, hfl, hMl, hbg, hch⟩ := hrel
      have Hfl := Lib.hid hfl
      have Hch := Lib.hid hch
      have i0' : (0 : Int) ≤ (i : Int) := by omega
      have i1' : (i : Int) < (ps.length : Int) := by omega
      have hglr : g < wr.heap.size := (Array.getElem?_eq_some_iff.1 hbg).1
      have HFl := Lib.hid (show (wcells (keepW k (ps.take j))).length = i * 33 by rw [wcells_len (keepW_ok (fun q hq => Hok.out q (List.mem_of_mem_take hq))), hfl])
      clear hfl hch
      by_cases hlt : j < ps.length
      · have hpm : ps.getD j (0, []) ∈ ps := by simp [hlt]
        have Hwl := Lib.hid (wcell_len (Hok.out _ hpm).2)
        have Hts := Lib.hid (take_getD_succ hlt)
        have Hone := Lib.hid (show ∀ u ∈ wcell (ps.getD j (0, [])), u.oneCell' = true from fun u hu => by
          rcases List.mem_cons.1 hu with rfl | hu
          · rfl
          · exact map_bv_one u hu)
        have Hbg := Lib.hid (show wr.heap[g]? = some (.cells (wcells (keepW k (ps.take j)) ++ M ++ wcell (ps.getD j (0, [])) ++ (wcells (ps.drop (j + 1)) ++ Z)).toArray 100 (0, 0)) by
          rw [hbg, delCells, wcells_drop hlt]; simp)
        have HE := Lib.hid (show ∀ (F : List (Nat × List UInt8)) (M' : List Value), keepW k (ps.take (j + 1)) = F → delCells k ps Z (j + 1) M' = wcells F ++ M' ++ wcells (ps.drop (j + 1)) ++ Z from fun F M' e => by rw [← e]; rfl)
        have hcr : wr.cell? ⟨G, 0, none⟩ = some (.int .i64 (k : Int)) := (World.cell?_of_block (a := ⟨G, 0, none⟩) (Hch.out.block G (Nat.lt_of_lt_of_le hG hb1.size) hGg)).trans hc1
        have hGr : G < wr.heap.size := Nat.lt_of_lt_of_le (Nat.lt_of_lt_of_le hG hb1.size) Hch.out.size
        generalize ps.getD j (0, []) = p at Hwl Hts Hone Hbg
        have Hkp := Lib.hid (fun (h : p.1 ≠ k) => (by rw [Hts.out]; exact keepW_snoc_yes h : keepW k (ps.take (j + 1)) = keepW k (ps.take j) ++ [p]))
        have Hkn := Lib.hid (fun (h : p.1 = k) => (by rw [Hts.out]; exact keepW_snoc_no h : keepW k (ps.take (j + 1)) = keepW k (ps.take j)))
        generalize keepW k (ps.take j) = F at HFl Hfl Hbg Hkp Hkn
        have Hrp := Lib.hid (range_list Hbg.out (show (wcells F ++ M).length = j * 33 by rw [List.length_append, HFl.out, hMl]; omega))
        have CL := Lib.hid (fun W hc hG => closure_any p G k W hc hG)
        have Hcr := Lib.hid hcr
        have k0 : (0 : Int) ≤ (j : Int) := by omega
        have k1 : (j : Int) < (ps.length : Int) := by omega
        have hn2 : IntKind.i64.wrap ((j : Int) + 1) = (j : Int) + 1 := by rw [IntKind.wrap_i64]; omega
        have hn3 : IntKind.i64.wrap ((i : Int) + 1) = (i : Int) + 1 := by rw [IntKind.wrap_i64]; omega
        clear hbg hpm hcr hn1
        by_cases hpk : p.1 = k
        · have Hks := Lib.hid (Hkn.out hpk)
          rw [decide_eq_true hpk] at CL
          clear hpk Hkp Hkn
          go_wp2_with (first
            | (refine wpList_load_mid rfl 100 _ (by rfl) g (j * 33) (by rfl) (wcell p) _ Hrp.out Tryd.underlying100 rfl (by rw [Hwl.out]; exact (by kernel_rfl : (Tryd.prog.info? 100).map (·.size) = some 33)) ?_)
            | (refine wpList_store_blk rfl 100 _ _ (by rfl) wr.heap.size 0 (.agg (wcell p).toArray) (by rfl) (by rfl) (Value.int .i64 0 :: List.replicate 32 (Value.int .u8 0)) 100 (heap_alloc_new _ _) (wcell p) (by rfl) 33 Hwl.out (by kernel_rfl) (by decide) Hone.out (wcell p) (spl_all (by rw [Hwl.out]; rfl)) ?_
               intro w2 h2 hg2
               have hB2 : Below wr.heap.size wr w2 := (below1 wr _).grown hg2 (by simp) (fun x hx => by injection hx with hx; omega)
               have HB2 := Lib.hid hB2
               have Hr2 := Lib.hid (show w2.rangeAt wr.heap.size 0 (wcell p) from fun x v hx => by rw [Nat.zero_add, cell_of_row _ _ _ _ _ _ h2]; simpa using hx)
               have HG2 := Lib.hid ((hB2.cell (p := ⟨G, 0, none⟩) hGr).trans Hcr.out)
               have Hg2lt := Lib.hid (Nat.lt_of_lt_of_le hglr hB2.size)
               have HGlt := Lib.hid (Nat.lt_of_lt_of_le hGr hB2.size)
               have Hg2 := Lib.hid ((hB2.block g hglr).trans Hbg.out)
               have Hslt := Lib.hid ((Array.getElem?_eq_some_iff.1 h2).1)
               clear h2 hg2 hB2)
            | (refine wpList_load_mid rfl 100 _ (by rfl) wr.heap.size 0 (by rfl) (wcell p) _ Hr2.out Tryd.underlying100 rfl (by rw [Hwl.out]; exact (by kernel_rfl : (Tryd.prog.info? 100).map (·.size) = some 33)) ?_)
            | (go_at_call 56
               refine (CL.out w2 HG2.out HGlt.out).mono ?_
               rintro e w3 ⟨rfl, hb3⟩))
          go_roundw
          case rel => exact ⟨i, j + 1, M ++ wcell p, by omega, by omega, rfl, by go_num, by rw [Hks.out]; exact Hfl.out, by rw [List.length_append, hMl, Hwl.out]; omega,
            by rw [HE.out _ _ Hks.out, hb3.block g Hg2lt.out, Hg2.out]; simp, ((Hch.out.trans (chg_below (fun x => x = g) HB2.out) fun _ _ e => e).trans (chg_below (fun x => x = g) hb3) fun _ _ e => e)⟩
          case measure => simp [intOf]; omega
        · have Hks := Lib.hid (Hkp.out hpk)
          rw [decide_eq_false hpk] at CL
          clear hpk Hkp Hkn
          have HM1 := Lib.hid (show (M.take 33).length = 33 by rw [List.length_take, hMl]; omega)
          have HM2 := Lib.hid (show (M.drop 33).length = (j - i) * 33 - 33 by rw [List.length_drop, hMl])
          have HM := Lib.hid (List.take_append_drop 33 M).symm
          go_wp2_with (first
            | (refine wpList_load_mid rfl 100 _ (by rfl) g (j * 33) (by rfl) (wcell p) _ Hrp.out Tryd.underlying100 rfl (by rw [Hwl.out]; exact (by kernel_rfl : (Tryd.prog.info? 100).map (·.size) = some 33)) ?_)
            | (refine wpList_store_blk rfl 100 _ _ (by rfl) wr.heap.size 0 (.agg (wcell p).toArray) (by rfl) (by rfl) (Value.int .i64 0 :: List.replicate 32 (Value.int .u8 0)) 100 (heap_alloc_new _ _) (wcell p) (by rfl) 33 Hwl.out (by kernel_rfl) (by decide) Hone.out (wcell p) (spl_all (by rw [Hwl.out]; rfl)) ?_
               intro w2 h2 hg2
               have hB2 : Below wr.heap.size wr w2 := (below1 wr _).grown hg2 (by simp) (fun x hx => by injection hx with hx; omega)
               have HB2 := Lib.hid hB2
               have Hr2 := Lib.hid (show w2.rangeAt wr.heap.size 0 (wcell p) from fun x v hx => by rw [Nat.zero_add, cell_of_row _ _ _ _ _ _ h2]; simpa using hx)
               have HG2 := Lib.hid ((hB2.cell (p := ⟨G, 0, none⟩) hGr).trans Hcr.out)
               have Hg2lt := Lib.hid (Nat.lt_of_lt_of_le hglr hB2.size)
               have HGlt := Lib.hid (Nat.lt_of_lt_of_le hGr hB2.size)
               have Hg2 := Lib.hid ((hB2.block g hglr).trans Hbg.out)
               have Hslt := Lib.hid ((Array.getElem?_eq_some_iff.1 h2).1)
               clear h2 hg2 hB2)
            | (refine wpList_load_mid rfl 100 _ (by rfl) wr.heap.size 0 (by rfl) (wcell p) _ Hr2.out Tryd.underlying100 rfl (by rw [Hwl.out]; exact (by kernel_rfl : (Tryd.prog.info? 100).map (·.size) = some 33)) ?_)
            | (go_at_call 56
               refine (CL.out w2 HG2.out HGlt.out).mono ?_
               rintro e w3 ⟨rfl, hb3⟩
               have HB3 := Lib.hid hb3
               have Hr3 := Lib.hid (range_heap Hr2.out (hb3.block _ Hslt.out))
               have Hg3 := Lib.hid (show w3.heap[g]? = some (.cells (wcells F ++ M.take 33 ++ (M.drop 33 ++ wcell p ++ (wcells (ps.drop (j + 1)) ++ Z))).toArray 100 (0, 0)) by
                 rw [hb3.block g Hg2lt.out, Hg2.out]
                 have e := HM.out
                 generalize M.take 33 = Ma at e
                 generalize M.drop 33 = Mb at e
                 rw [e]; simp)
               clear hb3)
            | (refine wpList_load_mid rfl 100 _ (by rfl) wr.heap.size 0 (by rfl) (wcell p) _ Hr3.out Tryd.underlying100 rfl (by rw [Hwl.out]; exact (by kernel_rfl : (Tryd.prog.info? 100).map (·.size) = some 33)) ?_)
            | (refine wpList_store_blk rfl 100 _ _ (by rfl) g (i * 33) (.agg (wcell p).toArray) (by rfl) (by rfl) (wcells F ++ M.take 33 ++ (M.drop 33 ++ wcell p ++ (wcells (ps.drop (j + 1)) ++ Z))) 100 Hg3.out (wcell p) (by rfl) 33 Hwl.out (by kernel_rfl) (by rw [List.length_append, List.length_append, HFl.out, HM1.out]; omega) Hone.out _ (spl_mid HFl.out (by rw [HM1.out, Hwl.out])) ?_
               intro w4 h4 hg4
               have Hb4 := Lib.hid h4
               have Hg4 := Lib.hid hg4
               clear h4 hg4))
          go_roundw
          case rel => exact ⟨i + 1, j + 1, M.drop 33 ++ wcell p, by omega, by omega, by go_num, by go_num, by rw [Hks.out, List.length_append, Hfl.out]; rfl, by rw [List.length_append, HM2.out, Hwl.out]; omega,
            by rw [HE.out _ _ Hks.out, Hb4.out, wcells_snoc]; simp, (((Hch.out.trans (chg_below (fun x => x = g) HB2.out) fun _ _ e => e).trans (chg_below (fun x => x = g) HB3.out) fun _ _ e => e).trans (chg_grown Hg4.out) fun x _ e => by injection e with e; exact e.symm)⟩
          case measure => simp [intOf]; omega
      · obtain rfl : j = ps.length := by omega
        rw [List.take_length] at Hfl HFl
        have Hbg := Lib.hid (show wr.heap[g]? = some (.cells (wcells (keepW k ps) ++ (M ++ Z)).toArray 100 (0, 0)) by
          rw [hbg, delCells, List.take_length, List.drop_length]; simp [wcells])
        have hMZ := HlZ.out
        rw [List.length_append, wcells_len Hok.out] at hMZ
        have HLa := Lib.hid (show (wcells (keepW k ps) ++ (M ++ Z)).length = pc * 33 by rw [List.length_append, HFl.out, List.length_append, hMl]; omega)
        have hic : (i : Int) ≤ (pc : Int) := by omega
        have hil : (i : Int) ≤ (ps.length : Int) := by omega
        have hine : ¬ pc = i := by omega
        have hz : ∀ w, (zeroValue 100).run Tryd.prog w = .ok (.agg (Value.int .i64 0 :: List.replicate 32 (Value.int .u8 0)).toArray) w := fun w => (Tryd.zeroValue100 w).trans rfl
        have Hz := Lib.hid hz
        clear hbg hMZ hz
        go_wp2_with (refine wpList_clear_blk rfl _ 87 100 rfl g (i * 33) (ps.length - i) (pc - i) 33 (by rfl) (by omega) Tryd.underlying87 (.agg (Value.int .i64 0 :: List.replicate 32 (Value.int .u8 0)).toArray) Hz.out rfl zw_one (by omega) (wcells (keepW k ps) ++ (M ++ Z)) 100 Hbg.out (by rw [HLa.out]; have : (i + (ps.length - i)) * 33 ≤ pc * 33 := Nat.mul_le_mul_right _ (by omega); omega) ?_; intro w5 vs hvl h5 hg5)
        go_ret
        have e5 : spl (wcells (keepW k ps) ++ (M ++ Z)) (i * 33) vs = wcells (keepW k ps) ++ (vs ++ (M ++ Z).drop vs.length) := by
          unfold spl
          rw [← HFl.out, List.take_left, List.append_assoc]
          congr 2
          rw [List.drop_append, List.drop_of_length_le (by omega), List.nil_append]
          congr 1
          omega
        rw [e5] at h5
        refine ⟨_, rfl, ?_, ((chg_below (fun x => (Value.slice (some ⟨g, 0, none⟩) ps.length pc).ownBlock = some x) hb1).trans Hch.out fun x _ e => by rw [e]; rfl).trans (chg_grown hg5) fun x _ e => e, fun x hx => hx⟩
        rw [Hfl.out]
        exact own_join (by rw [HFl.out]) hBg h5 (by rw [← e5, spl_len (by rw [HLa.out, hvl]; have : (i + (ps.length - i)) * 33 ≤ pc * 33 := Nat.mul_le_mul_right _ (by omega); omega), HLa.out]) (by omega) hmax
end Go.Proofs.YtkbhnbkjpnigkaaDoor
end
section
set_option maxRecDepth 8000
set_option linter.unusedVariables false
set_option linter.unusedSimpArgs false
namespace Go.Proofs.YtkbhnbkjpnigkaaDoor
open Go.RowKit

theorem info_rw : (Tryd.prog.info? 41).map (fun i => (i.zero, i.size, i.bytes)) = some (some (.slice none 0 0), 1, 24) := by kernel_rfl
theorem make_four (w : World) :
    (Instr.makeSlice 57 (.int .i64 4) (.int .i64 4)).run Tryd.prog w = .ok (.slice (some ⟨w.heap.size, 0, none⟩) 4 4) (w.alloc (.cells (madeCells #[.slice none 0 0] 4) 41)) :=
  run_make_row' _ _ _ 24 Tryd.underlying57 info_rw rfl _ _ 4 (by omega) (by omega) w
/-- What a place of the row holds: a sector's slice, or nothing yet. -/
def slv (bk : Nat → Nat) (n k : Nat) : Value := if k < n then .slice (some ⟨bk k, 0, none⟩) 32 32 else .slice none 0 0
theorem slv_yes {bk : Nat → Nat} {n k : Nat} (h : k < n) : slv bk n k = .slice (some ⟨bk k, 0, none⟩) 32 32 := if_pos h
theorem slv_no {bk : Nat → Nat} {n k : Nat} (h : ¬ k < n) : slv bk n k = .slice none 0 0 := if_neg h
structure P4 (lo : Nat) (W : World) (g : Nat) (bk : Nat → Nat) (rs : List (List UInt8)) : Prop where
  n : rs.length ≤ 4
  gl : lo ≤ g
  row : ∀ k, k < 4 → W.cell? ⟨g, k, none⟩ = some (slv bk rs.length k)
  fz : ∀ k, W.frozen? ⟨g, k, none⟩ = false
  len : ∀ k, k < rs.length → (rs.getD k []).length = 32
  own : ∀ k, k < rs.length → OwB 5 W lo (.slice (some ⟨bk k, 0, none⟩) 32 32) (rs.getD k [])
  ne : ∀ k, k < rs.length → bk k ≠ g
  inj : ∀ j k, j < rs.length → k < rs.length → bk j = bk k → j = k
section
variable {lo : Nat} {W W' : World} {g : Nat} {bk : Nat → Nat} {rs : List (List UInt8)}
/-- A row with no sector yet. -/
theorem p4_new (W : World) : P4 W.heap.size (W.alloc (.cells (madeCells #[.slice none 0 0] 4) 41)) W.heap.size bk [] :=
  ⟨by simp, Nat.le_refl _, fun k hk => by
    rw [cell_of_row _ _ k _ _ _ (heap_alloc_new W _), ← Array.getElem?_toList, toList_madeCells_one, List.getElem?_replicate, if_pos hk]
    rfl, fun k => World.frozen?_alloc_new _ _ _ _, fun k hk => by simp at hk, fun k hk => by simp at hk, fun k hk => by simp at hk, fun j k hj => by simp at hj⟩
end
end Go.Proofs.YtkbhnbkjpnigkaaDoor
end
section
set_option maxRecDepth 8000
set_option linter.unusedVariables false
set_option linter.unusedSimpArgs false
namespace Go.Proofs.YtkbhnbkjpnigkaaDoor
open Go.RowKit

theorem copyB_zeros {b : List UInt8} (h : b.length ≤ 32) : copyB z32 b = b ++ List.replicate (32 - b.length) 0 := by
  unfold copyB z32
  rw [List.length_replicate, List.take_of_length_le h, List.drop_replicate]
theorem copyB_32 {b : List UInt8} (h : b.length = 32) : copyB z32 b = b := by
  rw [copyB_zeros (by omega), h]; simp
theorem copyB_head {s : Int} {l : List It} (h : l.length ≤ 3) : copyB z32 (hdB s l) = fullB s l := by
  rw [copyB_zeros (by rw [hdB_len]; omega)]; rfl
/-- The sectors, with the Data of the first j Items, not sealed yet. -/
def stgB (s : Int) (l : List It) (j : Nat) : List (List UInt8) := fullB s l :: partsB (l.take j)
theorem stgB_len (s : Int) (l : List It) {j : Nat} (h : l.length ≤ 3) : (stgB s l j).length = 4 := by
  show (partsB (l.take j)).length + 1 = 4
  rw [partsB_len (by simp; omega)]
theorem stgB_zero {s : Int} {l : List It} (h : l.length ≤ 3) : (List.replicate 4 z32).set 0 (copyB z32 (hdB s l)) = stgB s l 0 := by
  rw [copyB_head h]; rfl
theorem stgB_get {s : Int} {l : List It} {j : Nat} (h : l.length ≤ 3) (hj : j < l.length) : (stgB s l j).getD (1 + j) [] = z32 := by
  have e : (stgB s l j).getD (1 + j) [] = (partsB (l.take j)).getD j [] := by rw [Nat.add_comm]; simp [stgB, List.getD_eq_getElem?_getD]
  rw [e]
  unfold partsB
  have hl : (List.map (fun x => x.b) (l.take j)).length = j := by simp; omega
  rw [List.getD_eq_getElem?_getD, List.getElem?_append_right (by omega), hl, Nat.sub_self, List.getElem?_replicate, if_pos (by simp; omega)]
  rfl
theorem stgB_succ {s : Int} {l : List It} {j : Nat} (h : l.length ≤ 3) (hj : j < l.length) : (stgB s l j).set (1 + j) (itN l j).b = stgB s l (j + 1) := by
  have hl : (List.map (fun x => x.b) (l.take j)).length = j := by simp; omega
  have hlt : (l.take j).length = j := by simp; omega
  have hlt2 : (l.take (j + 1)).length = j + 1 := by simp; omega
  show (fullB s l :: partsB (l.take j)).set (1 + j) _ = fullB s l :: partsB (l.take (j + 1))
  rw [Nat.add_comm, List.set_cons_succ]
  congr 1
  unfold partsB
  rw [hlt, hlt2, List.set_append_right _ _ (by omega), hl, Nat.sub_self, show 3 - j = (3 - (j + 1)) + 1 by omega, List.replicate_succ, List.set_cons_zero, its_take hj, List.map_append, List.append_assoc]
  rfl
theorem stgB_all {s : Int} {l : List It} : (stgB s l l.length).set 0 (stamped (fullB s l) (partsB l)) = recB s l := by
  unfold stgB; rw [List.take_length]; rfl
theorem rep_snoc (k : Nat) : List.replicate k z32 ++ [List.replicate 32 (0 : UInt8)] = List.replicate (k + 1) z32 := by
  show List.replicate k z32 ++ [z32] = _
  exact List.replicate_succ'.symm
/-- What stays while Encode makes its sectors. -/
def EnS (w : World) (s : Int) (A : Option Addr) (n c g : Nat) (bk : Nat → Nat) (rs : List (List UInt8)) (V : World) : Prop :=
  P4 (w.heap.size + 1) V g bk rs ∧ Below w.heap.size w V ∧ V.cell? ⟨w.heap.size, 0, none⟩ = some (.int .i64 s) ∧ V.cell? ⟨w.heap.size, 1, none⟩ = some (.slice A n c)
section
variable {w V V' : World} {s : Int} {A : Option Addr} {n c g : Nat} {bk : Nat → Nat} {rs : List (List UInt8)}
theorem EnS.drew (h : EnS w s A n c g bk rs V) : EnS w s A n c g bk rs V.drew := ⟨h.1.below ((Below.refl _ _).drew), h.2.1.drew, h.2.2.1, h.2.2.2⟩
theorem EnS.below (h : EnS w s A n c g bk rs V) (hb : Below V.heap.size V V') : EnS w s A n c g bk rs V' :=
  ⟨h.1.below hb, h.2.1.trans (hb.mono h.2.1.size), (hb.cell (p := ⟨w.heap.size, 0, none⟩) h.plt).trans h.2.2.1, (hb.cell (p := ⟨w.heap.size, 1, none⟩) h.plt).trans h.2.2.2⟩
theorem EnS.c0 (h : EnS w s A n c g bk rs V) (hn : 0 < rs.length) : V.cell? ⟨g, 0, none⟩ = some (.slice (some ⟨bk 0, 0, none⟩) 32 32) := by
  have := h.1.row 0 (by omega); rwa [slv_yes hn] at this
theorem EnS.cj {j : Nat} (h : EnS w s A n c g bk rs V) (hn : 1 + j < rs.length) : V.cell? ⟨g, 1 + j, none⟩ = some (.slice (some ⟨bk (1 + j), 0, none⟩) 32 32) := by
  have := h.1.row (1 + j) (by have := h.1.n; omega); rwa [slv_yes hn] at this
theorem EnS.set (h : EnS w s A n c g bk rs V) (k : Nat) (hk : k < rs.length) {b : List UInt8} (ho : OwB 5 V' (w.heap.size + 1) (.slice (some ⟨bk k, 0, none⟩) 32 32) b) (hb : b.length = 32) (hg : V.grownBy V' (some (bk k))) : EnS w s A n c g bk (rs.set k b) V' :=
  ⟨h.1.set k hk ho hb hg, h.far hg (h.1.blt k hk).1⟩
theorem EnS.start {W : World} (h0 : W.cell? ⟨w.heap.size, 0, none⟩ = some (.int .i64 s)) (h1 : W.cell? ⟨w.heap.size, 1, none⟩ = some (.slice A n c)) (hb : Below w.heap.size w W) (bk : Nat → Nat) :
    EnS w s A n c W.heap.size bk [] (W.alloc (.cells (madeCells #[.slice none 0 0] 4) 41)) := by
  have hp := World.block_lt_of_cell? _ _ h0
  have k := fun (i : Nat) (u : Value) (e : W.cell? ⟨w.heap.size, i, none⟩ = some u) => (World.cell?_alloc_lt W (.cells (madeCells #[.slice none 0 0] 4) 41) ⟨w.heap.size, i, none⟩ hp).trans e
  exact ⟨(p4_new W).le hp, hb.alloc hb.size _, k _ _ h0, k _ _ h1⟩
/-- With an Item's box beside it. -/
def EnJ (w : World) (s : Int) (A : Option Addr) (n c g : Nat) (bk : Nat → Nat) (rs : List (List UInt8)) (q : Nat) (D : Option Addr) (cd : Nat) (V : World) : Prop :=
  EnS w s A n c g bk rs V ∧ V.cell? ⟨q, 2, none⟩ = some (.slice D 32 cd)
end
theorem encode_no (A : Option Addr) (n c : Nat) (s : Int) (l : List It) (w : World) (hn : l.length = n) (hnc : n ≤ c) (hs : (-9223372036854775808 ≤ s ∧ s ≤ 9223372036854775807)) (h : RdI w w.heap.size A l) (h64 : Its64 l) (hk : Hid (recOk s l = false)) :
    Calls Tryd.prog 32 #[.agg #[.int .i64 s, .slice A n c]] w fun e w' => e = .returned (.tuple #[.slice none 0 0, .int .i64 1]) ∧ Below w.heap.size w w' := by
  have CC := Lib.hid fun W (hW : Below w.heap.size w W) => recCheck_no A n c s l W hn hnc hs (h.keep hW.size fun p hp => hW.cell hp) h64 hk
  have B1 := Lib.hid (below1 w (.cells #[.int .i64 s, .slice A n c] 29))
  clear h h64 hk hn
  go_enter Tryd.func32, Tryd.ntmps32
  go_wp2_with fail
  refine (CC.out _ B1.out).mono ?_
  rintro e w1 ⟨rfl, hb⟩
  have B2 := B1.out.trans (hb.mono B1.out.size)
  go_wp2
  go_ret2
  exact ⟨rfl, B2⟩
set_option maxHeartbeats 4000000 in
theorem encode_yes (A : Option Addr) (n c : Nat) (s : Int) (l : List It) (w : World) (hn : l.length = n) (hnc : n ≤ c) (hs : (-9223372036854775808 ≤ s ∧ s ≤ 9223372036854775807)) (h : RdI w w.heap.size A l) (h64 : Its64 l) (hk : Hid (recOk s l = true)) (ht : TabOk w) :
    Calls Tryd.prog 32 #[.agg #[.int .i64 s, .slice A n c]] w fun e w' => ∃ g bk, e = .returned (.tuple #[.slice (some ⟨g, 0, none⟩) 4 4, .int .i64 0]) ∧ P4 w.heap.size w' g bk (recB s l) ∧ Below w.heap.size w w' := by
  subst hn
  have hs3 := ((recOk_iff s l).1 hk.out).1.2.2
  have CC := Lib.hid fun W (hW : Below w.heap.size w W) => recCheck_yes A l.length c s l W rfl hnc hs (h.keep hW.size fun p hp => hW.cell hp) h64 hk
  have CH := Lib.hid fun W (hW : Below w.heap.size w W) => head_any A l.length c s l W rfl hnc (h.keep hW.size fun p hp => hW.cell hp) hk.out
  have HK := Lib.hid (fun (j : Nat) (hj : j < l.length) => (recOk_may hk.out _ (itN_mem hj)).2.2.2.2)
  have H := Lib.hid h
  have HT := Lib.hid fun W (hW : Below w.heap.size w W) => ht.below hW ht.pos
  have B1 := Lib.hid (below1 w (.cells #[.int .i64 s, .slice A l.length c] 29))
  have c' := fun i => cell_of_row _ _ i _ _ _ (heap_alloc_new w (.cells #[.int .i64 s, .slice A l.length c] 29))
  have hm4 := make_four
  have hmk : ∀ w, (Instr.makeSlice 41 (.int .i64 32) (.int .i64 32)).run Tryd.prog w = .ok (.slice (some ⟨w.heap.size, 0, none⟩) 32 32) (w.alloc (.cells (zcells 32) 5)) := make_bytes 32 (by omega)
  have C0 := Lib.hid (c' 0)
  have C1 := Lib.hid (c' 1)
  clear h h64 hk ht c'
  go_enter Tryd.func32, Tryd.ntmps32
  go_wp2_with fail
  refine (CC.out _ B1.out).mono ?_
  rintro e w1 ⟨rfl, hb⟩
  have B2 := Lib.hid (B1.out.trans (hb.mono B1.out.size))
  have S0 := Lib.hid (EnS.start ((hb.cell (by simp)).trans C0.out) ((hb.cell (by simp)).trans C1.out) B2.out (fun _ => 0))
  clear C0 C1 CC B1 hb
  obtain ⟨g, hg⟩ : ∃ g, w1.heap.size = g := ⟨_, rfl⟩
  rw [hg] at S0
  have Hg := Lib.hid hg
  go_wp2
  clear hg
  go_loopw [17] (fun i wr => ∃ (k : Nat) (bk : Nat → Nat), k ≤ 4 ∧ i = .int .i64 k ∧ EnS w s A l.length c g bk (List.replicate k z32) wr) (fun i _ => 4 - (intOf i).toNat)
  case atStart => exact ⟨0, _, by omega, rfl, S0.out⟩
  case round =>
    obtain ⟨k, bk, hk, rfl, hst⟩ := hrel
    have Hst := Lib.hid hst
    clear hst
    clear S0 B2 hm4
    by_cases hlt : k < 4
    · have hc : wr.cell? ⟨g, k, none⟩ = some (.slice none 0 0) := by have := Hst.out.1.row k hlt; rwa [slv_no (by simp)] at this
      have hf : wr.frozen? ⟨g, k, none⟩ = false := Hst.out.1.fz k
      have hgl := Hst.out.1.lt
      have HP := Lib.hid (Hst.out.push k (by simp) hlt)
      rw [rep_snoc] at HP
      go_wp2
      go_roundw
      case rel =>
        have HP2 := HP.out
        rw [World.setCell_alloc_past _ _ _ _ hgl] at HP2
        exact ⟨k + 1, _, by omega, by go_num, HP2⟩
      case measure => simp [intOf]; omega
    · obtain rfl : k = 4 := by omega
      clear hmk
      have CP := Lib.hid (@copyB_head s l hs3)
      go_wp2
      refine wp_region_noPanic (region_ord 5 [] (fun V => EnS w s A l.length c g bk (List.replicate 4 z32) V) (by kernel_rfl) (by kernel_rfl) (fun _ _ _ _ _ h => h) fun R => ?_)
      change anyI _ _ _ _ _ _ 6 _ _ wr.drew
      have HS0 := Lib.hid (show (fun V => EnS w s A l.length c g bk (List.replicate 4 z32) V) wr.drew from EnS.drew Hst.out)
      refine' anyI_take R 0 rfl (v := ?_) (by kernel_rfl) (by rfl) (fun V hV => ?hy) HS0.out ?_
      case hy => ((try dsimp only at hV);  have r0 := EnS.c0 hV (by simp); obtain ⟨_, _, q0, q1⟩ := hV; go_simp; try with_reducible rfl)
      try simp only [Act.put, List.getElem_toArray, List.getElem_cons_succ, List.getElem_cons_zero, List.setIfInBounds_toArray, List.set_cons_zero, List.set_cons_succ]
      refine' anyI_take R 1 rfl (v := ?_) (by kernel_rfl) (by rfl) (fun V hV => ?hy) HS0.out ?_
      case hy => ((try dsimp only at hV);  have r0 := EnS.c0 hV (by simp); obtain ⟨_, _, q0, q1⟩ := hV; go_simp; try with_reducible rfl)
      try simp only [Act.put, List.getElem_toArray, List.getElem_cons_succ, List.getElem_cons_zero, List.setIfInBounds_toArray, List.set_cons_zero, List.set_cons_succ]
      refine' anyI_take R 2 rfl (v := ?_) (by kernel_rfl) (by rfl) (fun V hV => ?hy) HS0.out ?_
      case hy => ((try dsimp only at hV);  have r0 := EnS.c0 hV (by simp); obtain ⟨_, _, q0, q1⟩ := hV; go_simp; try with_reducible rfl)
      try simp only [Act.put, List.getElem_toArray, List.getElem_cons_succ, List.getElem_cons_zero, List.setIfInBounds_toArray, List.set_cons_zero, List.set_cons_succ]
      refine' anyI_take R 3 rfl (v := ?_) (by kernel_rfl) (by rfl) (fun V hV => ?hy) HS0.out ?_
      case hy => ((try dsimp only at hV);  have r0 := EnS.c0 hV (by simp); obtain ⟨_, _, q0, q1⟩ := hV; go_simp; try with_reducible rfl)
      try simp only [Act.put, List.getElem_toArray, List.getElem_cons_succ, List.getElem_cons_zero, List.setIfInBounds_toArray, List.set_cons_zero, List.set_cons_succ]
      refine anyI_one 4 (by kernel_rfl) rfl ?_
      try simp only [List.getElem_toArray, List.getElem_cons_succ, List.getElem_cons_zero]
      refine opE_step ?_
      rw [if_pos (by rfl)]
      go_simp
      go_at_call 48
      refine (CH.out _ HS0.out.2.1).mono ?_
      rintro e w1 ⟨v1, rfl, OV, hb⟩
      replace HS0 := Lib.hid (EnS.below HS0.out hb)
      clear hb
      dsimp only
      refine ⟨HS0.out, ?_⟩
      try simp only [Act.put, List.getElem_toArray, List.getElem_cons_succ, List.getElem_cons_zero, List.setIfInBounds_toArray, List.set_cons_zero, List.set_cons_succ]
      refine anyI_tail (by kernel_rfl) ?_
      try simp only [List.drop_succ_cons, List.drop_zero]
      clear R
      obtain ⟨A1, cap1, rfl, _, hr1⟩ := OV.rd
      clear OV
      refine wpList_copy_B rfl _ _ _ rfl 5 Tryd.underlying41 (by kernel_rfl) (bk 0) 32 32 (w.heap.size + 1) z32 rfl (HS0.out.1.own 0 (by simp)) rfl _ A1 (hdB s l).length cap1 (hdB s l) rfl rfl hr1 ?_
      intro w3 O3 g3 _
      have HS3 := Lib.hid (EnS.set HS0.out 0 (by simp) O3 (by rw [copyB_len]; rfl) g3)
      rw [stgB_zero hs3] at HS3
      clear HS0 O3 g3 hr1
      go_wp2_with fail
      refine NoPanic.normal ?_
      refine ‹∀ (a : Act) (w : World), Code.wp _ (Code.seq _ _) _ a w → _› _ _ ?_
      obtain ⟨_, _, q0, q1⟩ := HS3.out
      go_wp2
      clear q0 q1 Hst
      go_loopw [34] (fun i wr => ∃ j : Nat, j ≤ l.length ∧ i = .int .i64 j ∧ EnS w s A l.length c g bk (stgB s l j) wr) (fun i _ => l.length - (intOf i).toNat)
      case atStart => exact ⟨0, Nat.zero_le _, rfl, HS3.out⟩
      case round =>
        obtain ⟨j, hj, rfl, hst⟩ := hrel
        have Hst := Lib.hid hst
        clear hst HS3
        by_cases hlt : j < l.length
        · obtain ⟨ga, rfl, hg, hc⟩ := (H.out.below Hst.out.2.1 (Nat.le_refl _)).2 (by omega)
          obtain ⟨D', c', hrp, hrd⟩ := hc j hlt
          clear hc
          have hx := HK.out j hlt
          have Hsu := Lib.hid (stgB_succ (s := s) hs3 hlt)
          have Hge := Lib.hid (stgB_get (s := s) hs3 hlt)
          generalize itN l j = y at hrp hrd hx Hsu
          rw [hx] at hrp
          have Hrp := Lib.hid hrp
          have Hrd := Lib.hid hrd
          have HB := Lib.hid (below1 wr (.cells #[.int .i64 y.d, .int .i64 y.a, .slice D' 32 c'] 43))
          have HJ : Hid (EnJ w s (some ⟨ga, 0, none⟩) l.length c g bk (stgB s l j) wr.heap.size D' c' (wr.alloc (.cells #[.int .i64 y.d, .int .i64 y.a, .slice D' 32 c'] 43))) := ⟨Hst.out.below HB.out, cell_of_row _ _ 2 _ _ _ (heap_alloc_new wr _)⟩
          have HL := Lib.hid Hst.out.2.1.size
          obtain ⟨q, hq⟩ : ∃ q, wr.heap.size = q := ⟨_, rfl⟩
          have k0 : (0 : Int) ≤ (j : Int) := by omega
          have k1 : (j : Int) < (l.length : Int) := by omega
          have k2 : IntKind.i64.wrap (1 + (j : Int)) = 1 + (j : Int) := by rw [IntKind.wrap_i64]; omega
          have k3 : 0 ≤ 1 + (j : Int) ∧ 1 + (j : Int) < 4 := by omega
          have k4 : (1 + (j : Int)).toNat = 1 + j := by omega
          clear hrp hrd
          go_wp2_with (
              ((with_reducible refine (id ?_ : wpList _ _ _ (⟨some 38, _, _, _, _, _⟩ :: _) _ _)); refine wpList_load_mid rfl 43 _ (by rfl) ga (j * 3) (by rfl) [.int .i64 y.d, .int .i64 y.a, .slice D' 32 c'] _ Hrp.out Tryd.underlying43 rfl (by kernel_rfl) ?_))
          rw [hq] at HJ
          try rw [hq]
          go_name_world wz hwz
          have Hwz := Lib.hid hwz
          rw [hwz] at HJ HB
          clear hwz
          refine wp_region_noPanic (region_ord 7 [] (fun V => EnJ w s (some ⟨ga, 0, none⟩) l.length c g bk (stgB s l j) q D' c' V) (by kernel_rfl) (by kernel_rfl) (fun _ _ _ _ _ h => h) fun R => ?_)
          change anyI _ _ _ _ _ _ 8 _ _ wz.drew
          have HS0 := Lib.hid (show (fun V => EnJ w s (some ⟨ga, 0, none⟩) l.length c g bk (stgB s l j) q D' c' V) wz.drew from HJ.out.drew)
          refine' anyI_take R 0 rfl (v := ?_) (by kernel_rfl) (by rfl) (fun V hV => ?hy) HS0.out ?_
          case hy => ((try dsimp only at hV);  have r0 := EnS.cj hV.1 (j := j) (by rw [stgB_len _ _ (by omega)]; omega); obtain ⟨_, q2⟩ := hV; go_simp; try with_reducible rfl)
          try simp only [Act.put, List.getElem_toArray, List.getElem_cons_succ, List.getElem_cons_zero, List.setIfInBounds_toArray, List.set_cons_zero, List.set_cons_succ]
          refine' anyI_take R 1 rfl (v := ?_) (by kernel_rfl) (by rfl) (fun V hV => ?hy) HS0.out ?_
          case hy => ((try dsimp only at hV);  have r0 := EnS.cj hV.1 (j := j) (by rw [stgB_len _ _ (by omega)]; omega); obtain ⟨_, q2⟩ := hV; go_simp; try with_reducible rfl)
          try simp only [Act.put, List.getElem_toArray, List.getElem_cons_succ, List.getElem_cons_zero, List.setIfInBounds_toArray, List.set_cons_zero, List.set_cons_succ]
          refine' anyI_take R 2 rfl (v := ?_) (by kernel_rfl) (by rfl) (fun V hV => ?hy) HS0.out ?_
          case hy => ((try dsimp only at hV);  have r0 := EnS.cj hV.1 (j := j) (by rw [stgB_len _ _ (by omega)]; omega); obtain ⟨_, q2⟩ := hV; go_simp; try with_reducible rfl)
          try simp only [Act.put, List.getElem_toArray, List.getElem_cons_succ, List.getElem_cons_zero, List.setIfInBounds_toArray, List.set_cons_zero, List.set_cons_succ]
          refine' anyI_take R 3 rfl (v := ?_) (by kernel_rfl) (by rfl) (fun V hV => ?hy) HS0.out ?_
          case hy => ((try dsimp only at hV);  have r0 := EnS.cj hV.1 (j := j) (by rw [stgB_len _ _ (by omega)]; omega); obtain ⟨_, q2⟩ := hV; go_simp; try with_reducible rfl)
          try simp only [Act.put, List.getElem_toArray, List.getElem_cons_succ, List.getElem_cons_zero, List.setIfInBounds_toArray, List.set_cons_zero, List.set_cons_succ]
          refine' anyI_take R 4 rfl (v := ?_) (by kernel_rfl) (by rfl) (fun V hV => ?hy) HS0.out ?_
          case hy => ((try dsimp only at hV);  have r0 := EnS.cj hV.1 (j := j) (by rw [stgB_len _ _ (by omega)]; omega); obtain ⟨_, q2⟩ := hV; go_simp; try with_reducible rfl)
          try simp only [Act.put, List.getElem_toArray, List.getElem_cons_succ, List.getElem_cons_zero, List.setIfInBounds_toArray, List.set_cons_zero, List.set_cons_succ]
          refine' anyI_take R 5 rfl (v := ?_) (by kernel_rfl) (by rfl) (fun V hV => ?hy) HS0.out ?_
          case hy => ((try dsimp only at hV);  have r0 := EnS.cj hV.1 (j := j) (by rw [stgB_len _ _ (by omega)]; omega); obtain ⟨_, q2⟩ := hV; go_simp; try with_reducible rfl)
          try simp only [Act.put, List.getElem_toArray, List.getElem_cons_succ, List.getElem_cons_zero, List.setIfInBounds_toArray, List.set_cons_zero, List.set_cons_succ]
          refine' anyI_take R 6 rfl (v := ?_) (by kernel_rfl) (by rfl) (fun V hV => ?hy) HS0.out ?_
          case hy => ((try dsimp only at hV);  have r0 := EnS.cj hV.1 (j := j) (by rw [stgB_len _ _ (by omega)]; omega); obtain ⟨_, q2⟩ := hV; go_simp; try with_reducible rfl)
          try simp only [Act.put, List.getElem_toArray, List.getElem_cons_succ, List.getElem_cons_zero, List.setIfInBounds_toArray, List.set_cons_zero, List.set_cons_succ]
          refine anyI_tail (by kernel_rfl) ?_
          try simp only [List.drop_succ_cons, List.drop_zero]
          clear R
          refine wpList_copy_B rfl _ _ _ rfl 5 Tryd.underlying41 (by kernel_rfl) (bk (1 + j)) 32 32 (w.heap.size + 1) z32 rfl (by have := HS0.out.1.1.own (1 + j) (by rw [stgB_len _ _ hs3]; omega); rwa [Hge.out] at this) rfl _ D' 32 c' y.b rfl hx.symm ((Hrd.out.below HB.out HL.out).below (Below.refl w.heap.size _).drew (Nat.le_refl _)) ?_
          intro w3 O3 g3 _
          have HS3 := Lib.hid (EnS.set HS0.out.1 (1 + j) (by rw [stgB_len _ _ hs3]; omega) O3 (by rw [copyB_len]; rfl) g3)
          rw [copyB_32 hx, Hsu.out] at HS3
          clear HS0 O3 g3 HJ
          go_wp2_with fail
          refine NoPanic.normal ?_
          go_wp2
          go_roundw
          case rel => exact ⟨j + 1, by omega, by go_num, HS3.out⟩
          case measure => simp [intOf]; omega
        · obtain rfl : j = l.length := by omega
          have CS := Lib.hid fun V (hV : EnS w s A l.length c g bk (stgB s l l.length) V) => stamp_any (bk 0) 32 (w.heap.size + 1) (some ⟨g, 1, none⟩) 3 (fullB s l) (partsB l) 3 V (partsB_len hs3) (hV.1.own 0 (by rw [stgB_len _ _ hs3]; omega)) (fullB_len hs3) (by have := hV.1.rdr1; rwa [show (stgB s l l.length).drop 1 = partsB l by unfold stgB; rw [List.take_length]; rfl] at this) (HT.out _ hV.2.1)
          go_wp2
          refine wp_region_noPanic (region_ord 6 [] (fun V => V.cell? ⟨g, 0, none⟩ = some (.slice (some ⟨bk 0, 0, none⟩) 32 32)) (by kernel_rfl) (by kernel_rfl) (fun _ _ _ _ _ h => h) fun R => ?_)
          change anyI _ _ _ _ _ _ 6 _ _ wr.drew
          have HS0 := Lib.hid (show (fun V => V.cell? ⟨g, 0, none⟩ = some (.slice (some ⟨bk 0, 0, none⟩) 32 32)) wr.drew from EnS.c0 Hst.out.drew (by rw [stgB_len _ _ hs3]; omega))
          refine' anyI_take R 0 rfl (v := ?_) (by kernel_rfl) (by rfl) (fun V hV => ?hy) HS0.out ?_
          case hy => ((try dsimp only at hV);  have r0 := hV; go_simp; try with_reducible rfl)
          try simp only [Act.put, List.getElem_toArray, List.getElem_cons_succ, List.getElem_cons_zero, List.setIfInBounds_toArray, List.set_cons_zero, List.set_cons_succ]
          refine' anyI_take R 1 rfl (v := ?_) (by kernel_rfl) (by rfl) (fun V hV => ?hy) HS0.out ?_
          case hy => ((try dsimp only at hV);  have r0 := hV; go_simp; try with_reducible rfl)
          try simp only [Act.put, List.getElem_toArray, List.getElem_cons_succ, List.getElem_cons_zero, List.setIfInBounds_toArray, List.set_cons_zero, List.set_cons_succ]
          refine' anyI_take R 2 rfl (v := ?_) (by kernel_rfl) (by rfl) (fun V hV => ?hy) HS0.out ?_
          case hy => ((try dsimp only at hV);  have r0 := hV; go_simp; try with_reducible rfl)
          try simp only [Act.put, List.getElem_toArray, List.getElem_cons_succ, List.getElem_cons_zero, List.setIfInBounds_toArray, List.set_cons_zero, List.set_cons_succ]
          refine' anyI_take R 3 rfl (v := ?_) (by kernel_rfl) (by rfl) (fun V hV => ?hy) HS0.out ?_
          case hy => ((try dsimp only at hV);  have r0 := hV; go_simp; try with_reducible rfl)
          try simp only [Act.put, List.getElem_toArray, List.getElem_cons_succ, List.getElem_cons_zero, List.setIfInBounds_toArray, List.set_cons_zero, List.set_cons_succ]
          refine' anyI_take R 4 rfl (v := ?_) (by kernel_rfl) (by rfl) (fun V hV => ?hy) HS0.out ?_
          case hy => ((try dsimp only at hV);  have r0 := hV; go_simp; try with_reducible rfl)
          try simp only [Act.put, List.getElem_toArray, List.getElem_cons_succ, List.getElem_cons_zero, List.setIfInBounds_toArray, List.set_cons_zero, List.set_cons_succ]
          refine anyI_one 5 (by kernel_rfl) rfl ?_
          try simp only [List.getElem_toArray, List.getElem_cons_succ, List.getElem_cons_zero]
          refine opE_step ?_
          rw [if_pos (by rfl)]
          go_simp
          go_at_call 49
          refine (CS.out _ Hst.out.drew).mono ?_
          rintro e w5 ⟨rfl, O5, g5⟩
          have HS5 := Lib.hid (EnS.set Hst.out.drew 0 (by rw [stgB_len _ _ hs3]; omega) O5 (stamped_len _ _ (fullB_len hs3)) g5)
          replace HS0 := Lib.hid (EnS.c0 HS5.out (by rw [List.length_set, stgB_len _ _ hs3]; omega))
          clear g5 O5
          dsimp only
          refine ⟨HS0.out, ?_⟩
          try simp only [Act.put, List.getElem_toArray, List.getElem_cons_succ, List.getElem_cons_zero, List.setIfInBounds_toArray, List.set_cons_zero, List.set_cons_succ]
          refine anyI_tail (by kernel_rfl) ?_
          try simp only [List.drop_succ_cons, List.drop_zero]
          clear R
          go_wp2_with fail
          refine NoPanic.normal ?_
          rw [stgB_all] at HS5
          go_wp2
          go_ret2
          exact ⟨g, bk, rfl, HS5.out.1.le (Nat.le_succ _), HS5.out.2.1⟩
end Go.Proofs.YtkbhnbkjpnigkaaDoor
end
section
set_option maxRecDepth 8000
set_option linter.unusedVariables false
set_option linter.unusedSimpArgs false
namespace Go.Proofs.YtkbhnbkjpnigkaaDoor
open Go.RowKit

def rwv (bk cp : Nat → Nat) (k : Nat) : Value := .slice (some ⟨bk k, 0, none⟩) 32 (cp k)
def rwvs (bk cp : Nat → Nat) (n : Nat) : List Value := (List.range n).map (rwv bk cp)
structure Rw (lo : Nat) (W : World) (g cap n : Nat) (bk cp : Nat → Nat) (rs : List (List UInt8)) : Prop where
  row : W.ownsRow lo 41 1 (.slice (some ⟨g, 0, none⟩) n cap) n (rwvs bk cp n)
  nn : rs.length = n
  n9 : n ≤ 9
  len : ∀ k, k < n → (rs.getD k []).length = 32
  own : ∀ k, k < n → OwB 5 W lo (.slice (some ⟨bk k, 0, none⟩) 32 (cp k)) (rs.getD k [])
  ne : ∀ k, k < n → bk k ≠ g
  inj : ∀ j k, j < n → k < n → bk j = bk k → j = k
section
variable {lo : Nat} {W W' : World} {g cap n : Nat} {bk cp : Nat → Nat} {rs : List (List UInt8)}
theorem rwvs_one (bk cp : Nat → Nat) (n : Nat) : ∀ u ∈ rwvs bk cp n, u.oneCell' = true := fun u hu => by
  simp only [rwvs, List.mem_map] at hu
  obtain ⟨k, _, rfl⟩ := hu
  rfl
end
/-- Sectors of zeros, made one after the other. -/
structure Mk (lo : Nat) (V : World) (bs : List Nat) : Prop where
  own : ∀ b ∈ bs, OwB 5 V lo (.slice (some ⟨b, 0, none⟩) 32 32) z32
  nd : bs.Nodup
  lo : lo ≤ V.heap.size
theorem Mk.nil (V : World) (lo : Nat) (h : lo ≤ V.heap.size) : Mk lo V [] := ⟨fun b hb => by simp at hb, by simp, h⟩
end Go.Proofs.YtkbhnbkjpnigkaaDoor
end
