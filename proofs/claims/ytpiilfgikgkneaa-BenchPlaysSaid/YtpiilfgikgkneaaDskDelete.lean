/- What slices.DeleteFunc makes of pending writes, with Damage's own function. -/
import Derived.Test.YtpiilfgikgkneaaDskClone
import Derived.Lib.SliceRun
namespace Go.Proofs.Ytpiilfgikgkneaa
open Go.RowKit

section
variable {P : Program}
theorem wpList_clear_blk {ops : Array Oper} {rest : List Oper} {op : Oper} {a : Act} {w : World} {Q : Exit → Act → World → Prop} (hgd : op.guard = none) (x : Operand) (t e : TypeId) (ho : op.op = .call { callee := .builtin .clear, args := #[x], argTypes := #[t] })
    (g o n c sz : Nat) (hx : a.eval x = .slice (some ⟨g, o, none⟩) n c) (hn : 0 < n) (ht : P.underlying t = some (.slice e)) (z : Value) (hz : ∀ w, (zeroValue e).run P w = .ok z w) (hzs : z.cells.size = sz) (hz1 : ∀ i, i < sz → (z.cells[i]!).oneCell' = true) (hsz : 0 < sz)
    (cur : List Value) (t' : TypeId) (hb : w.heap[g]? = some (.cells cur.toArray t' (0, 0))) (hl : o + n * sz ≤ cur.length)
    (h : ∀ w' vs, vs.length = n * sz → w'.heap[g]? = some (.cells (spl cur o vs).toArray t' (0, 0)) → w.grownBy w' (some g) → wpList P ops Q rest (a.put op.dst (.tuple #[])) w') : wpList P ops Q (op :: rest) a w := by
  refine wpList_plain hgd fun K hK => ?_
  have hzl : (Builtin.zeroCells z.cells n).toList.length = n * sz := by simp [Builtin.zeroCells, hzs]
  have h1 : ∀ u ∈ (Builtin.zeroCells z.cells n).toList, u.oneCell' = true := fun u hu => by
    simp only [Builtin.zeroCells, Array.toList_map, List.mem_map] at hu
    obtain ⟨i, _, rfl⟩ := hu
    exact hz1 _ (by rw [hzs]; exact Nat.mod_lt _ hsz)
  have hst := run_storeCells_at P g o t' (Builtin.zeroCells z.cells n).toList 0 cur.toArray w hb (by rw [hzl]; simpa using hl) h1
  have hrun : (Builtin.clear_ #[t] op.type #[.slice (some ⟨g, o, none⟩) n c]).run P w = .ok (.tuple #[]) (w.setRow g (spl cur o (Builtin.zeroCells z.cells n).toList).toArray) := by
    obtain ⟨m, rfl⟩ : ∃ m, n = m + 1 := ⟨n - 1, by omega⟩
    simp only [Nat.add_zero] at hst
    simp [Builtin.clear_, run_underlying ht, hz, hst, spl]
  unfold Oper.wp execOp
  simp only [ho, resolve, invoke, builtin, Sem.run_bind, Sem.run_pure, Result.andThen_ok, List.map_toArray, List.map_cons, List.map_nil, hx, hrun]
  refine hK _ _ (h _ _ hzl ?_ ?_)
  · exact setRow_heap w g _ _ t' (0, 0) hb
  · exact ⟨rfl, rfl, rfl, by simp, fun k _ hk => setRow_other w g k _ (fun e => hk (by rw [e]))⟩
end
theorem closure_any (p : Nat × List UInt8) (G k : Nat) (w : World) (hc : w.cell? ⟨G, 0, none⟩ = some (.int .i64 (k : Int))) (hG : G < w.heap.size) :
    Calls Try.prog 55 #[.agg (wcell p).toArray, .pointer (some ⟨G, 0, none⟩)] w fun e w' => e = .returned (.bool (decide (p.1 = k))) ∧ Below w.heap.size w w' := by
  obtain ⟨i, x⟩ := p
  show Calls Try.prog 55 #[.agg (Value.int .i64 (i : Int) :: x.map bv).toArray, .pointer (some ⟨G, 0, none⟩)] w fun e w' => e = .returned (.bool (decide (i = k))) ∧ Below w.heap.size w w'
  have hb := below1 w (.cells (Value.int .i64 (i : Int) :: x.map bv).toArray 79)
  have hne : G ≠ w.heap.size := by omega
  have Hd : Hid (((i : Int) == (k : Int)) = decide (i = k)) := by
    show _ = _
    by_cases h : i = k
    · subst h; simp
    · rw [decide_eq_false h, beq_eq_false_iff_ne]; omega
  go_enter Try.func55, Try.ntmps55
  go_wp2
  go_ret
  exact ⟨by rw [← Hd.out]; rfl, hb⟩
/-- Which is the first write to sector k? -/
def FirstI (ps : List (Nat × List UInt8)) (k : Nat) (r : Int) : Prop :=
  (r = -1 ∧ ∀ p ∈ ps, p.1 ≠ k) ∨ (∃ i : Nat, r = (i : Int) ∧ i < ps.length ∧ (ps.getD i (0, [])).1 = k ∧ ∀ p ∈ ps.take i, p.1 ≠ k)
theorem take_getD_succ {ps : List (Nat × List UInt8)} {i : Nat} (hi : i < ps.length) : ps.take (i + 1) = ps.take i ++ [ps.getD i (0, [])] := by
  rw [List.take_succ_eq_append_getElem hi]; simp [hi]
set_option maxHeartbeats 800000 in
theorem indexf_any (pv : Value) (B : Nat) (ps : List (Nat × List UInt8)) (G k : Nat) (w : World) (h : w.ownsRow B 79 33 pv ps.length (wcells ps)) (hok : WOk ps) (hps : ps.length ≤ 2000000) (hc : w.cell? ⟨G, 0, none⟩ = some (.int .i64 (k : Int))) (hG : G < w.heap.size) :
    Calls Try.prog 56 #[pv, .func (.func 55) #[] #[.pointer (some ⟨G, 0, none⟩)]] w fun e w' => ∃ r : Int, e = .returned (.int .i64 r) ∧ FirstI ps k r ∧ Below w.heap.size w w' := by
  have Hown := Lib.hid h
  have Hok := Lib.hid hok
  obtain ⟨P, pc, rfl, hpc, Hpg⟩ := own_form h
  clear h hok
  go_enter Try.func56, Try.ntmps56
  go_wp2
  go_loopw [8] (fun i wr => ∃ j : Nat, j ≤ ps.length ∧ i = .int .i64 j ∧ (∀ p ∈ ps.take j, p.1 ≠ k) ∧ Below w.heap.size w wr) (fun i _ => ps.length - (intOf i).toNat)
  case atStart => exact ⟨0, Nat.zero_le _, rfl, fun p hp => by simp at hp, Below.refl _ _⟩
  case round =>
    obtain ⟨j, hj, rfl, hall, hbr⟩ := hrel
    have Hall := Lib.hid hall
    clear hall
    by_cases hlt : j < ps.length
    · obtain ⟨g, rfl, hBg⟩ := Hpg (by omega)
      have hglt : g < w.heap.size := (Hown.out.lt g rfl).2
      have hrp := range_heap (range_pend Hown.out Hok.out (i := j) hlt) (hbr.block g hglt)
      have hpm : ps.getD j (0, []) ∈ ps := by simp [hlt]
      have Hwl := Lib.hid (wcell_len (Hok.out _ hpm).2)
      have Hts := Lib.hid (take_getD_succ hlt)
      have Hget : Hid ((ps.getD j (0, [])) = ps.getD j (0, [])) := rfl
      have hcr : wr.cell? ⟨G, 0, none⟩ = some (.int .i64 (k : Int)) := (hbr.cell (p := ⟨G, 0, none⟩) hG).trans hc
      have CL := Lib.hid (closure_any (ps.getD j (0, [])) G k wr hcr (Nat.lt_of_lt_of_le hG hbr.size))
      generalize hp : ps.getD j (0, []) = p at hrp Hwl Hts CL
      have Hp := Lib.hid hp
      have Hrp := Lib.hid hrp
      have k0 : (0 : Int) ≤ (j : Int) := by omega
      have k1 : (j : Int) < (ps.length : Int) := by omega
      clear hrp hp hpm hcr Hget
      by_cases hpk : p.1 = k
      · rw [decide_eq_true hpk] at CL
        have Hpk := Lib.hid hpk
        clear hpk
        go_wp2_with (first
          | (refine wpList_load_mid rfl 79 _ (by rfl) g (j * 33) (by rfl) (wcell p) _ Hrp.out Try.underlying79 rfl (by rw [Hwl.out]; exact (by kernel_rfl : (Try.prog.info? 79).map (·.size) = some 33)) ?_)
          | (go_at_call 55; refine CL.out.mono ?_; rintro e w1 ⟨rfl, hb1⟩))
        go_ret
        exact ⟨_, rfl, .inr ⟨j, rfl, hlt, by rw [Hp.out]; exact Hpk.out, Hall.out⟩, hbr.trans (hb1.mono hbr.size)⟩
      · rw [decide_eq_false hpk] at CL
        have Hpk := Lib.hid hpk
        clear hpk
        go_wp2_with (first
          | (refine wpList_load_mid rfl 79 _ (by rfl) g (j * 33) (by rfl) (wcell p) _ Hrp.out Try.underlying79 rfl (by rw [Hwl.out]; exact (by kernel_rfl : (Try.prog.info? 79).map (·.size) = some 33)) ?_)
          | (go_at_call 55; refine CL.out.mono ?_; rintro e w1 ⟨rfl, hb1⟩))
        go_roundw
        case rel => exact ⟨j + 1, by omega, by go_num, by rw [Hts.out]; intro q hq; rcases List.mem_append.1 hq with h1 | h1; exact Hall.out q h1; rw [List.mem_singleton.1 h1]; exact Hpk.out, hbr.trans (hb1.mono hbr.size)⟩
        case measure => simp [intOf]; omega
    · obtain rfl : j = ps.length := by omega
      go_wp2
      go_ret
      exact ⟨-1, rfl, .inl ⟨rfl, by have := Hall.out; rwa [List.take_length] at this⟩, hbr⟩
end Go.Proofs.Ytpiilfgikgkneaa
