/- Two own rows that grow beside one another, in a region that draws its order. -/
import Derived.Test.YtcgajfjlkojnlaaOwnStep
import Derived.Test.YtcgajfjlkojnlaaOrd
import Derived.Test.YtcgajfjlkojnlaaMapStr
namespace Go.Proofs.Ytcgajfjlkojnlaa
open Go.RowKit

section
variable {P : Program}
theorem run_append_one (w : World) (base : Nat) (t ty e : TypeId) (z : Value) (bytes : Nat) (ht : P.underlying t = some (.slice e)) (hinfo : (P.info? e).map (fun i => (i.zero, i.size, i.bytes)) = some (some z, 1, bytes)) (hz1 : z.cells.size = 1)
    (v : Value) (n : Nat) (xs : List Value) (hown : w.ownsRow base e 1 v n xs) (g : Nat) (u : Value) (hg : w.heap[g]? = some (.cells #[u] e (0, 0))) (h1 : u.oneCell' = true) (h63 : n + 1 ≤ maxLen) (hbytes : (n + 1) * bytes ≤ 140737488355328) (hbase : base ≤ w.heap.size) :
    ∃ v' w', (Builtin.append_ #[t, t] ty #[v, .slice (some ⟨g, 0, none⟩) 1 1]).run P w = .ok v' w' ∧ w'.ownsRow base e 1 v' (n + 1) (xs ++ [u]) ∧ w.grownBy w' v.ownBlock ∧ (v'.ownBlock = v.ownBlock ∨ v'.ownBlock = some w.heap.size) := by
  obtain ⟨i, hi, hzz⟩ := Option.map_eq_some_iff.1 hinfo
  simp only [Prod.mk.injEq] at hzz
  obtain ⟨hz, hsz, hb⟩ := hzz
  have hcells : ∀ j x, ([u] : List Value)[j]? = some x → w.cell? ((⟨g, 0, none⟩ : Addr).add j) = some x := by
    intro j x hx
    obtain ⟨hj, _⟩ := List.getElem?_eq_some_iff.1 hx
    obtain rfl : j = 0 := by simpa using hj
    have e1 : ((⟨g, 0, none⟩ : Addr).add 0) = ⟨g, 0, none⟩ := by unfold Addr.add; simp
    rw [e1, cell_of_row w g 0 _ _ _ hg]
    simpa using hx
  obtain ⟨v', w', hrun, h2, h3, _, h5⟩ := run_append_own_at (P := P) w base t ty e i _ 1 bytes ht hi hz hsz hb hz1 (by omega) v n xs hown ⟨g, 0, none⟩ 1 1 [u] (by simp) hcells (by intro x hx; simp at hx; subst hx; exact h1) h63 hbytes hbase
  exact ⟨v', w', hrun, h2, h3, h5⟩
/-- Two own rows, as they have grown since w0. -/
structure Grow (e1 e2 : TypeId) (w0 w : World) (B : Nat) (av0 xv0 av xv : Value) (na nx : Nat) (xs ys : List Value) : Prop where
  a : w.ownsRow B e1 1 av na xs
  x : w.ownsRow B e2 1 xv nx ys
  d : ∀ k, av.ownBlock = some k → xv.ownBlock ≠ some k
  c : Chg (fun k => av0.ownBlock = some k ∨ xv0.ownBlock = some k) w0 w
  ea : ∀ k, av.ownBlock = some k → av0.ownBlock = some k ∨ w0.heap.size ≤ k
  ex : ∀ k, xv.ownBlock = some k → xv0.ownBlock = some k ∨ w0.heap.size ≤ k
section
variable {e1 e2 : TypeId} {w0 w : World} {B : Nat} {av0 xv0 av xv : Value} {na nx : Nat} {xs ys : List Value}
theorem Grow.start (ha : w.ownsRow B e1 1 av na xs) (hx : w.ownsRow B e2 1 xv nx ys) (hd : ∀ k, av.ownBlock = some k → xv.ownBlock ≠ some k) : Grow e1 e2 w w B av xv av xv na nx xs ys :=
  ⟨ha, hx, hd, Chg.refl _ _, fun _ h => .inl h, fun _ h => .inl h⟩
theorem Grow.drew (h : Grow e1 e2 w0 w B av0 xv0 av xv na nx xs ys) : Grow e1 e2 w0 w.drew B av0 xv0 av xv na nx xs ys := ⟨h.a, h.x, h.d, h.c.drewN 1, h.ea, h.ex⟩
theorem Grow.ofDrew (h : Grow e1 e2 w0.drew w B av0 xv0 av xv na nx xs ys) : Grow e1 e2 w0 w B av0 xv0 av xv na nx xs ys := ⟨h.a, h.x, h.d, h.c.ofDrew, h.ea, h.ex⟩
theorem Grow.alloc (h : Grow e1 e2 w0 w B av0 xv0 av xv na nx xs ys) (o : Obj) : Grow e1 e2 w0 (w.alloc o) B av0 xv0 av xv na nx xs ys :=
  ⟨own_heap h.a fun k hk => (below1 w o).block k (h.a.lt k hk).2, own_heap h.x fun k hk => (below1 w o).block k (h.x.lt k hk).2, h.d, h.c.alloc o, h.ea, h.ex⟩
theorem Grow.pushA (h : Grow e1 e2 w0 w B av0 xv0 av xv na nx xs ys) (t ty : TypeId) (z : Value) (bytes : Nat) (ht : P.underlying t = some (.slice e1)) (hinfo : (P.info? e1).map (fun i => (i.zero, i.size, i.bytes)) = some (some z, 1, bytes)) (hz1 : z.cells.size = 1)
    (g : Nat) (u : Value) (hg : w.heap[g]? = some (.cells #[u] e1 (0, 0))) (h1 : u.oneCell' = true) (hn : na ≤ 2000000) (hb : bytes ≤ 100) (hB : B ≤ w0.heap.size) :
    ∃ v' w', (Builtin.append_ #[t, t] ty #[av, .slice (some ⟨g, 0, none⟩) 1 1]).run P w = .ok v' w' ∧ Grow e1 e2 w0 w' B av0 xv0 v' xv (na + 1) nx (xs ++ [u]) ys ∧ w.grownBy w' av.ownBlock := by
  obtain ⟨v', w', hr, ho, hgr, hv⟩ := run_append_one w B t ty e1 z bytes ht hinfo hz1 av na xs h.a g u hg h1 (by unfold maxLen; omega) (Nat.le_trans (Nat.mul_le_mul (show na + 1 ≤ 2000001 by omega) hb) (by omega)) (Nat.le_trans hB h.c.size)
  refine ⟨v', w', hr, ⟨ho, own_chg h.x (chg_grown hgr) fun k hk e => h.d k e hk, fun k hk => ?_, h.c.trans (chg_grown hgr) fun i hi e => ?_, fun k hk => ?_, h.ex⟩, hgr⟩
  · rcases hv with e | e
    · exact h.d k (e ▸ hk)
    · intro e2
      have := (h.x.lt k e2).2
      rw [hk] at e; injection e with e; omega
  · rcases h.ea i e with e | e
    · exact .inl e
    · omega
  · rcases hv with e | e
    · exact h.ea k (e ▸ hk)
    · rw [hk] at e; injection e with e; have := h.c.size; exact .inr (by omega)
theorem Grow.swap (h : Grow e1 e2 w0 w B av0 xv0 av xv na nx xs ys) : Grow e2 e1 w0 w B xv0 av0 xv av nx na ys xs :=
  ⟨h.x, h.a, fun k hk e => h.d k e hk, h.c.mono fun _ _ e => e.symm, h.ex, h.ea⟩
theorem Grow.pushX (h : Grow e1 e2 w0 w B av0 xv0 av xv na nx xs ys) (t ty : TypeId) (z : Value) (bytes : Nat) (ht : P.underlying t = some (.slice e2)) (hinfo : (P.info? e2).map (fun i => (i.zero, i.size, i.bytes)) = some (some z, 1, bytes)) (hz1 : z.cells.size = 1)
    (g : Nat) (u : Value) (hg : w.heap[g]? = some (.cells #[u] e2 (0, 0))) (h1 : u.oneCell' = true) (hn : nx ≤ 2000000) (hb : bytes ≤ 100) (hB : B ≤ w0.heap.size) :
    ∃ v' w', (Builtin.append_ #[t, t] ty #[xv, .slice (some ⟨g, 0, none⟩) 1 1]).run P w = .ok v' w' ∧ Grow e1 e2 w0 w' B av0 xv0 av v' na (nx + 1) xs (ys ++ [u]) ∧ w.grownBy w' xv.ownBlock := by
  obtain ⟨v', w', hr, hG, hg⟩ := h.swap.pushA t ty z bytes ht hinfo hz1 g u hg h1 hn hb hB
  exact ⟨v', w', hr, hG.swap, hg⟩
/-- A block outside both stays. -/
theorem Grow.stays (h : Grow e1 e2 w0 w B av0 xv0 av xv na nx xs ys) {k : Nat} (hk : k < w0.heap.size) (h1 : av0.ownBlock ≠ some k) (h2 : xv0.ownBlock ≠ some k) : w.heap[k]? = w0.heap[k]? := h.c.block k hk fun e => e.elim h1 h2
end
theorem opE_run {ops : Array Oper} {Q : Exit → Act → World → Prop} {o : Oper} {K : Act → World → Prop} {a : Act} {w w' : World} {v : Value} (hw : Region.wanted o (yielded ops a.tmps) = true) (hr : (execOp a.eval o).run P w = .ok (.value v) w') (h : K (a.put o.dst v) w') : opE P ops Q o K a w := by
  refine opE_step ?_
  rw [if_pos hw]
  unfold Oper.wp
  rw [hr]
  exact h
theorem exec_build {o : Oper} {a : Act} {w w' : World} {v u : Value} (t : TypeId) (x : Operand) (ho : o.op = .buildSlice t 1 #[(0, x)]) (hx : a.eval x = u) (hr : (Instr.buildSlice t 1 #[(0, u)]).run P w = .ok v w') : (execOp a.eval o).run P w = .ok (.value v) w' := by
  unfold execOp
  simp only [ho, List.map_toArray, List.map_cons, List.map_nil, hx, Sem.run_bind, hr, Result.andThen_ok]
  rfl
theorem exec_append {o : Oper} {a : Act} {w w' : World} {v l x : Value} (t : TypeId) (y z : Operand) (ho : o.op = .call { callee := .builtin .append, args := #[y, z], argTypes := #[t, t] }) (hy : a.eval y = l) (hz : a.eval z = x) (hr : (Builtin.append_ #[t, t] o.type #[l, x]).run P w = .ok v w') : (execOp a.eval o).run P w = .ok (.value v) w' := by
  unfold execOp
  simp only [ho, resolve, invoke, builtin, Sem.run_bind, Sem.run_pure, Result.andThen_ok, List.map_toArray, List.map_cons, List.map_nil, hy, hz, hr]
end
theorem build_int (x : Int) (w : World) : (Instr.buildSlice 39 1 #[(0, .int .i64 x)]).run Try.prog w = .ok (.slice (some ⟨w.heap.size, 0, none⟩) 1 1) (w.alloc (.cells #[.int .i64 x] 3)) := by kernel_rfl
theorem build_str (x : List UInt8) (w : World) : (Instr.buildSlice 48 1 #[(0, str x)]).run Try.prog w = .ok (.slice (some ⟨w.heap.size, 0, none⟩) 1 1) (w.alloc (.cells #[str x] 9)) := by kernel_rfl
theorem info_int : (Try.prog.info? 3).map (fun i => (i.zero, i.size, i.bytes)) = some (some (.int .i64 0), 1, 8) := by kernel_rfl
theorem info_str : (Try.prog.info? 9).map (fun i => (i.zero, i.size, i.bytes)) = some (some (.string ⟨#[]⟩), 1, 16) := by kernel_rfl
end Go.Proofs.Ytcgajfjlkojnlaa
