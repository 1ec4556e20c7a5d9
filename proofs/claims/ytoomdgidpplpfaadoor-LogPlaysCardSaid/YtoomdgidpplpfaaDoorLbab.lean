/- Texts put together: Take, DskOps, DskWrite, CloneB, DskRest, Bools, DskRow. -/
import Derived.Test.YtoomdgidpplpfaaDoorLbaa
import Derived.StillTail
import Derived.OrdersHeld
import Derived.Deep.MidRow
import Derived.StillTailTactics
import Derived.Great.FillDense
import Derived.Great.BuildSlice
import Derived.Deep.AppendLies
import Derived.Deep.DrawnRows
section
namespace Go.Proofs.YtoomdgidpplpfaaDoor
open Go.RowKit

section
variable {P : Program} {ops : Array Oper} {Q : Exit → Act → World → Prop} {md : Region.Mode} {S : World → Prop} {n : Nat}
/-- Whatever order is picked, S holds behind each operation but those from n on. -/
def anyE (P : Program) (md : Region.Mode) (ops : Array Oper) (Q : Exit → Act → World → Prop) (S : World → Prop) (n : Nat) : Nat → Array Bool → Act → World → Prop
  | 0, listed, a, w => Region.ready md ops listed = [] ∧ Q .normal a w
  | f + 1, listed, a, w => (Region.ready md ops listed = [] → Q .normal a w) ∧
    ∀ i ∈ Region.ready md ops listed, wpOp P ops Q i (fun a' w' => (i < n → S w') ∧ anyE P md ops Q S n f (listed.setIfInBounds i true) a' w') a w
theorem any_of_E : ∀ (f : Nat) (listed : Array Bool) (a : Act) (w : World), anyE P md ops Q S n f listed a w → wpAny P md ops Q f listed a w
  | 0, _, _, _, h => h
  | f + 1, _, _, _, h => ⟨h.1, fun i hi => wpOp_mono (fun a' w' h' => any_of_E f _ a' w' h'.2) (h.2 i hi)⟩
theorem anyE_first {i : Nat} {oi : Oper} {v : Value} (hi : ops[i]? = some oi) (hsel : ∀ (j : Nat) (o : Oper) cs b, ops[j]? = some o → o.op ≠ .select cs b) (hQ : ∀ c a w, Q (.panic c) (a.put oi.dst v) w → Q (.panic c) a w)
    (hs : Region.sinkB md ops n = true) (hc : Region.chainB md ops n = true) (hn : n < ops.size) (hin : i < n) :
    ∀ (f : Nat) (listed : Array Bool) (a : Act) (w : World), HeadInv md ops n listed →
      (∀ j oj, ops[j]? = some oj → j ≠ i → listed.getD j true = false → (∀ e ∈ oj.after, Region.binds md e = true → e.on ≠ i) → oi.apart ops oj = true) →
      i ∈ Region.ready md ops listed → YieldsIf P ops S oi v a → S w →
      anyE P md ops Q S n f (listed.setIfInBounds i true) (a.put oi.dst v) w → anyE P md ops Q S n (f + 1) listed a w := by
  intro f
  induction f with
  | zero =>
    intro listed a w _ _ hr hy hS H
    refine ⟨fun h => (by rw [h] at hr; cases hr), fun j hj => ?_⟩
    by_cases hji : j = i
    · subst hji; exact hy.wpOp hi hS ⟨fun _ => hS, H⟩
    · have h1 := ready_mono (i := i) hj hji
      rw [H.1] at h1
      cases h1
  | succ f ih =>
    intro listed a w inv hfree hr hy hS H
    have hun := (mem_ready.1 hr).1
    refine ⟨fun h => (by rw [h] at hr; cases hr), fun j hj => ?_⟩
    have hjn : j < n := Nat.lt_of_not_le fun h => tail_waits hs hc hn inv _ i rfl hin hun j h hj
    by_cases hji : j = i
    · subst hji; exact hy.wpOp hi hS ⟨fun _ => hS, H⟩
    · obtain ⟨hjun, oj, hoj, hall⟩ := mem_ready.1 hj
      have hnot : ∀ e ∈ oj.after, Region.binds md e = true → e.on ≠ i := fun e he hb heq => by
        have h1 := hall e he hb
        rw [heq, getD_both hun] at h1
        cases h1
      have hap := hfree j oj hoj hji hjun hnot
      have h2 := wpOp_putIf hoj hap (fun cs b => hsel i oi cs b hi) (fun cs b => hsel j oj cs b hoj) hQ hy (H.2 j (ready_mono hj hji))
      refine wpOp_mono (fun a' w' h3 => ⟨h3.2.1, ?_⟩) h2
      refine ih (listed.setIfInBounds j true) a' w' (inv.set hj hjn) (fun k ok hk hki hku hno => hfree k ok hk hki ?_ hno) (ready_mono hr (Ne.symm hji)) h3.1 (h3.2.1 hjn) ?_
      · by_cases hjk : j = k
        · subst hjk; exact hjun
        · rw [getD_set_ne true hjk] at hku; exact hku
      · rw [Array.setIfInBounds_comm _ _ hji]
        exact h3.2.2
/-- These operations, one by one, each of which yields wherever S holds. -/
def takesE (P : Program) (ops : Array Oper) (S : World → Prop) (K : Act → Prop) : List Oper → Act → Prop
  | [], a => K a
  | o :: rest, a => ∃ v, YieldsIf P ops S o v a ∧ takesE P ops S K rest (a.put o.dst v)
/-- One operation. -/
def opE (P : Program) (ops : Array Oper) (Q : Exit → Act → World → Prop) (o : Oper) (K : Act → World → Prop) (a : Act) (w : World) : Prop :=
  if Region.wanted o (yielded ops a.tmps) then o.wp P a w K Q ∨ (o.asks P a w ∧ LetsOut Q) else K (a.put o.dst undef) w
/-- The rest, one by one; S holds behind each but the last. -/
def listE (P : Program) (ops : Array Oper) (Q : Exit → Act → World → Prop) (S : World → Prop) : List Oper → Act → World → Prop
  | [], a, w => Q .normal a w
  | o :: rest, a, w => opE P ops Q o (fun a' w' => (rest ≠ [] → S w') ∧ listE P ops Q S rest a' w') a w
theorem wpOp_of_opE {i : Nat} {o : Oper} {K : Act → World → Prop} {a : Act} {w : World} (hi : ops[i]? = some o) (h : opE P ops Q o K a w) : wpOp P ops Q i K a w := by
  unfold opE at h
  unfold wpOp
  simp only [hi]
  split at h
  · rename_i hw; simp only [hw, if_true]; exact h
  · rename_i hw; simp only [hw]; exact h
theorem anyE_of_list : ∀ (l : List Oper) (k : Nat) (listed : Array Bool) (a : Act) (w : World), (∀ j, l[j]? = ops[k + j]?) → (l = [] ∨ k + l.length = n + 1) →
    Region.seqB md ops l.length k listed = true → listE P ops Q S l a w → anyE P md ops Q S n l.length listed a w
  | [], k, listed, a, w, _, _, hB, h => ⟨by simpa [Region.seqB] using hB, h⟩
  | o :: l, k, listed, a, w, hl, hk, hB, h => by
    have h0 : ops[k]? = some o := by simpa using (hl 0).symm
    have hk' : k + (l.length + 1) = n + 1 := by
      rcases hk with h | h
      · cases h
      · simpa using h
    simp only [List.length_cons, Region.seqB, Bool.and_eq_true, decide_eq_true_eq] at hB
    refine ⟨fun h1 => (by rw [hB.1] at h1; cases h1), fun i hi => ?_⟩
    rw [hB.1] at hi
    obtain rfl : i = k := by simpa using hi
    refine wpOp_mono (fun a' w' h' => ⟨fun hin => h'.1 (by intro e; subst e; simp at hk'; omega), ?_⟩) (wpOp_of_opE h0 h)
    refine anyE_of_list l (i + 1) _ a' w' (fun j => by have := hl (j + 1); simpa [Nat.add_assoc, Nat.add_comm 1 j] using this) ?_ hB.2 h'.2
    by_cases he : l = []
    · exact .inl he
    · exact .inr (by omega)
theorem anyE_of_takes {g k0 : Nat} (hsel : ∀ (j : Nat) (o : Oper) cs b, ops[j]? = some o → o.op ≠ .select cs b) (hQ : ∀ c a d v w, Q (.panic c) (Act.put a d v) w → Q (.panic c) a w)
    (hs : Region.sinkB md ops n = true) (hc : Region.chainB md ops n = true) (hn : n < ops.size) (hkn : k0 ≤ n) {w : World} (hS : S w) {K : Act → Prop}
    (hK : ∀ listed a, Region.seqB md ops g k0 listed = true → K a → anyE P md ops Q S n g listed a w) :
    ∀ (l : List Oper) (k : Nat) (listed : Array Bool) (a : Act), (∀ j, j < l.length → l[j]? = ops[k + j]?) → k + l.length = k0 → HeadInv md ops n listed → Region.lexHead md ops g l.length k listed = true →
    takesE P ops S K l a → anyE P md ops Q S n (l.length + g) listed a w
  | [], k, listed, a, _, hk, _, hB, h => by
    obtain rfl : k = k0 := by simpa using hk
    rw [List.length_nil, Nat.zero_add]
    exact hK listed a (by simpa [Region.lexHead] using hB) h
  | o :: l, k, listed, a, hl, hk, inv, hB, h => by
    have h0 : ops[k]? = some o := by simpa using (hl 0 (by simp)).symm
    simp only [List.length_cons, Region.lexHead, Bool.and_eq_true] at hB
    obtain ⟨⟨hr, hf⟩, hB'⟩ := hB
    have hkn' : k < n := by simp only [List.length_cons] at hk; omega
    have hr' : k ∈ Region.ready md ops listed := by simpa using hr
    obtain ⟨v, hy, hT⟩ := h
    have ih := anyE_of_takes hsel hQ hs hc hn hkn hS hK l (k + 1) (listed.setIfInBounds k true) (a.put o.dst v) (fun j hj => by have := hl (j + 1) (by simp; omega); simpa [Nat.add_assoc, Nat.add_comm 1 j] using this)
      (by simp only [List.length_cons] at hk; omega) (inv.set hr' hkn') hB' hT
    rw [List.length_cons, show l.length + 1 + g = (l.length + g) + 1 by omega]
    exact anyE_first h0 hsel (fun c a w h => hQ c a _ _ w h) hs hc hn hkn' _ listed a w inv (Region.free_spec h0 hf) hr' hy hS ih
def takeB (md : Region.Mode) (ops : Array Oper) (k : Nat) : Bool :=
  Region.noSelect ops && decide (k < ops.size) && Region.sinkB md ops (ops.size - 1) && Region.chainB md ops (ops.size - 1) && Region.lexHead md ops (ops.size - k) k 0 (Array.replicate ops.size false)
theorem region_take {id : Nat} {a : Act} {w : World} {l : List Oper} (k : Nat) (S : World → Prop) (hm : P.follows .mixedOrders = true) (hB : takeB .any l.toArray k = true) (hQ : ∀ c a d v w, Q (.panic c) (Act.put a d v) w → Q (.panic c) a w)
    (hS : S w.drew) (h : takesE P l.toArray S (fun a' => listE P l.toArray Q S (l.drop k) a' w.drew) (l.take k) a) : (Code.region id l.toArray true).wp P Q a w := by
  simp only [takeB, Bool.and_eq_true, decide_eq_true_eq] at hB
  obtain ⟨⟨⟨⟨hsel, hk⟩, hs⟩, hc⟩, hlex⟩ := hB
  have hk' : k < l.length := by simpa using hk
  have hsz : l.toArray.size = l.length := by simp
  have htl : (l.take k).length = k := by simp; omega
  have hdl : (l.drop k).length = l.toArray.size - k := by simp
  have inv0 : HeadInv .any l.toArray (l.toArray.size - 1) (Array.replicate l.toArray.size false) :=
    ⟨by simp, fun j oj _ hl => (by rw [getD_replicate_false] at hl; cases hl), fun t _ ht => getD_in (by simpa using ht) (getD_replicate_false _ _)⟩
  refine wp_region_any hm (any_of_E (S := S) (n := l.toArray.size - 1) _ _ _ _ ?_)
  have := anyE_of_takes (md := .any) (P := P) (Q := Q) (S := S) (n := l.toArray.size - 1) (g := l.toArray.size - k) (k0 := k) (Region.noSelect_spec hsel) hQ hs hc (by omega) (by omega) (w := w.drew) hS
    (K := fun a' => listE P l.toArray Q S (l.drop k) a' w.drew) (fun listed a' hseq hK => by
      have := anyE_of_list (md := .any) (P := P) (Q := Q) (S := S) (n := l.toArray.size - 1) (l.drop k) k listed a' w.drew (fun j => by simp [List.getElem?_drop]) (.inr (by rw [hdl]; omega)) (by rw [hdl]; exact hseq) hK
      rwa [hdl] at this) (l.take k) 0 _ a (fun j hj => by
      have hj' : j < k := by rw [htl] at hj; exact hj
      simp [hj']) (by simpa using htl) inv0 (by rw [htl]; exact hlex) h
  rw [htl, show k + (l.toArray.size - k) = l.toArray.size by omega] at this
  exact this
/-! The moves. -/
theorem take_of {o : Oper} {rest : List Oper} {K : Act → Prop} {a : Act} {v : Value} (hw : Region.wanted o (yielded ops a.tmps) = true) (hv : ∀ w, S w → (execOp a.eval o).run P w = .ok (.value v) w) (h : takesE P ops S K rest (a.put o.dst v)) : takesE P ops S K (o :: rest) a :=
  ⟨v, .inl ⟨hw, hv⟩, h⟩
theorem take_mid {op : Oper} {rest : List Oper} {K : Act → Prop} {a : Act} (hw : Region.wanted op (yielded ops a.tmps) = true) (ty : TypeId) (x : Operand) (ho : op.op = .load ty x) (b o : Nat) (hx : a.eval x = .pointer (some ⟨b, o, none⟩)) (cs : List Value) (d : TypeDesc)
    (hS : ∀ w, S w → w.rangeAt b o cs) (hu : P.underlying ty = some d) (hd : d.isRow = true) (hi : (P.info? ty).map (·.size) = some cs.length) (h : takesE P ops S K rest (a.put op.dst (.agg cs.toArray))) : takesE P ops S K (op :: rest) a :=
  ⟨_, yieldsIf_load_mid hw ty x ho b o hx cs d hS hu hd hi, h⟩
/-- The last operation. -/
theorem listE_last {o : Oper} {a : Act} {w : World} (h : wpList P ops Q [o] a w) : listE P ops Q S [o] a w := by
  unfold listE opE
  have h' : (if Region.wanted o (yielded ops a.tmps) then o.wp P a w (wpList P ops Q []) Q ∨ (o.asks P a w ∧ LetsOut Q) else wpList P ops Q [] (a.put o.dst undef) w) := h
  split at h'
  · rename_i hw; rw [if_pos hw]; exact h'.imp (Oper.wp_mono fun a w h => ⟨fun e => absurd rfl e, h⟩) id
  · rename_i hw; rw [if_neg hw]; exact ⟨fun e => absurd rfl e, h'⟩
/-- An operation ahead of the last. -/
theorem listE_step {o o2 : Oper} {rest : List Oper} {a : Act} {w : World} (h : ∀ K : Act → World → Prop, (∀ a' w', S w' → listE P ops Q S (o2 :: rest) a' w' → K a' w') → if Region.wanted o (yielded ops a.tmps) = true then o.wp P a w K Q else K (a.put o.dst undef) w) : listE P ops Q S (o :: o2 :: rest) a w := by
  have h' := h (fun a' w' => (o2 :: rest ≠ [] → S w') ∧ listE P ops Q S (o2 :: rest) a' w') fun a' w' h1 h2 => ⟨fun _ => h1, h2⟩
  rw [listE, opE]
  split at h'
  · rename_i hw; rw [if_pos hw]; exact .inl h'
  · rename_i hw; rw [if_neg hw]; exact h'
end
end Go.Proofs.YtoomdgidpplpfaaDoor
end
section
set_option maxRecDepth 8000
namespace Go.Proofs.YtoomdgidpplpfaaDoor
open Go.RowKit

theorem range_heap {w w' : World} {b o : Nat} {cs : List Value} (h : w.rangeAt b o cs) (hb : w'.heap[b]? = w.heap[b]?) : w'.rangeAt b o cs := fun j v hj => (World.cell?_of_block (a := ⟨b, o + j, none⟩) hb).trans (h j v hj)
theorem range_setCell {w : World} {b o b' j : Nat} {cs : List Value} {v : Value} (h : w.rangeAt b o cs) (hne : b' ≠ b) : (w.setCell ⟨b', j, none⟩ v).rangeAt b o cs := fun i u hi => by
  rw [World.cell?_setCell_other _ _ _ _ (by intro e; injection e with e; exact hne e)]; exact h i u hi
section
variable {P : Program}
theorem wpStill_load_mid {ops : Array Oper} {rest : List Oper} {op : Oper} {a : Act} {w : World} {Q : Act → Prop} (hgd : op.guard = none) (ty : TypeId) (x : Operand) (ho : op.op = .load ty x)
    (b o : Nat) (hx : a.eval x = .pointer (some ⟨b, o, none⟩)) (cs : List Value) (d : TypeDesc) (hc : w.rangeAt b o cs) (hu : P.underlying ty = some d) (hd : d.isRow = true) (hi : (P.info? ty).map (·.size) = some cs.length)
    (h : wpStill P ops w Q rest (a.put op.dst (.agg cs.toArray))) : wpStill P ops w Q (op :: rest) a := by
  refine wpStill_step (fun K hK => ?_)
  rw [if_pos (by simp [Region.wanted, hgd])]
  unfold Oper.still execOp
  simp only [ho, hx, Instr.loadAt, Instr.sureAddr, Sem.run_bind, Sem.run_pure, Result.andThen_ok, run_loadVar_mid w b o ty cs d hc hu hd hi]
  exact ⟨rfl, hK _ h⟩
/-- One cell stored into a block that is known whole. -/
theorem heap_setCell (w : World) (b o : Nat) (v : Value) (cur : List Value) (t : TypeId) (hb : w.heap[b]? = some (.cells cur.toArray t (0, 0))) (ho : o + 1 ≤ cur.length) (h1 : v.oneCell' = true) :
    (w.setCell ⟨b, o, none⟩ v).heap[b]? = some (.cells (spl cur o [v]).toArray t (0, 0)) ∧ w.grownBy (w.setCell ⟨b, o, none⟩ v) (some b) := by
  have hc : w.cell? ⟨b, o, none⟩ = some (cur[o]'(by omega)) := by rw [cell_of_row w b o _ t (0, 0) hb]; simp
  have hf : w.frozen? ⟨b, o, none⟩ = false := by simp [World.frozen?, hb]
  have e1 := run_storeCells_cells (P := Tryd.prog) b o [v] 0 w (fun j hj => by obtain rfl : j = 0 := (by simp at hj; omega); simp only [Nat.add_zero]; rw [hc]; rfl) (fun j hj => by obtain rfl : j = 0 := (by simp at hj; omega); simpa using hf) (fun u hu => by simp at hu; subst hu; exact h1)
  have e2 := run_storeCells_at Tryd.prog b o t [v] 0 cur.toArray w hb (by simpa using ho) (fun u hu => by simp at hu; subst hu; exact h1)
  have e3 := e1.symm.trans e2
  injection e3 with e4 e5
  have e6 : w.setCell ⟨b, o, none⟩ v = w.setRow b (spl cur o [v]).toArray := by
    simp only [Nat.add_zero] at e5
    exact e5
  rw [e6]
  exact ⟨setRow_heap w b _ _ t (0, 0) hb, rfl, rfl, rfl, by simp, fun k _ hk => setRow_other w b k _ (fun e => hk (by rw [e]))⟩

theorem spl_all {cur vs : List Value} (h : vs.length = cur.length) : spl cur 0 vs = vs := by
  unfold spl; simp [h]
/-- Some cells set in an array, as build sets them. -/
theorem foldl_spl (o : Nat) (vs : Array Value) (z : Array Value) (h : o + vs.size ≤ z.size) : vs.zipIdx.foldl (fun cs (x : Value × Nat) => cs.setIfInBounds (o + x.2) x.1) z = (spl z.toList o vs.toList).toArray := by
  obtain ⟨h1, h2⟩ := Go.Great.foldl_set o vs.toList 0 z
  have e : vs.zipIdx.foldl (fun cs (x : Value × Nat) => cs.setIfInBounds (o + x.2) x.1) z = (vs.toList.zipIdx 0).foldl (fun cs (x : Value × Nat) => cs.setIfInBounds (o + x.2) x.1) z := by
    rw [← Array.foldl_toList, Array.toList_zipIdx]
  rw [e]
  apply Array.ext_getElem?
  intro k
  have hl1 : (z.toList.take o).length = o := by rw [List.length_take, Array.length_toList]; omega
  have e3 : ∀ l : List Value, l.toArray[k]? = l[k]? := fun l => by simp
  rw [h2 k, e3 (spl z.toList o vs.toList)]
  unfold spl
  simp only [Nat.add_zero, Array.length_toList]
  by_cases c1 : k < o
  · rw [if_neg (by omega), List.append_assoc, List.getElem?_append_left (by omega), List.getElem?_take, if_pos c1, Array.getElem?_toList]
  · by_cases c2 : k < o + vs.size
    · rw [if_pos (by omega), List.append_assoc, List.getElem?_append_right (by omega), hl1, List.getElem?_append_left (by rw [Array.length_toList]; omega)]
    · rw [if_neg (by omega), List.getElem?_append_right (l₁ := z.toList.take o ++ vs.toList) (by rw [List.length_append, hl1, Array.length_toList]; omega), List.length_append, hl1, Array.length_toList, List.getElem?_drop, Array.getElem?_toList]
      congr 1
      omega
theorem fill_step (place : Nat → Option (Nat × Nat)) (z : Array Value) (i o : Nat) (v : Value) (rest : List (Nat × Value)) (hp : place i = some (o, v.cells.size)) (h : o + v.cells.size ≤ z.size) :
    Instr.fill place z ((i, v) :: rest) = Instr.fill place (spl z.toList o v.cells.toList).toArray rest := by
  rw [Instr.fill]
  simp only [hp]
  rw [if_neg (by simp; omega), ← foldl_spl o v.cells z h]
end
/-- write{k, x} as a value. -/
theorem build_write (u v : Value) (hu : u.cells.size = 1) (hv : v.cells.size = 32) (w : World) : (Instr.build 100 #[(0, u), (1, v)]).run Tryd.prog w = .ok (.agg (u.cells ++ v.cells)) w := by
  refine run_build w _ _ _ ?_
  have e : Tryd.prog.built 100 [(0, u), (1, v)] = Instr.fill ((#[(0, 1), (1, 32)] : Array (Nat × Nat))[·]?) (Value.int .i64 0 :: List.replicate 32 (Value.int .u8 0)).toArray [(0, u), (1, v)] := by kernel_rfl
  refine e.trans ?_
  generalize hU : u.cells = U at hu
  generalize hV : v.cells = V at hv
  obtain ⟨x, rfl⟩ : ∃ x, U = #[x] := ⟨U[0]'(by omega), by
    apply Array.ext
    · simpa using hu
    · intro i h1 h2
      obtain rfl : i = 0 := by simp at h2; omega
      rfl⟩
  rw [fill_step _ _ 0 0 _ _ (by rw [hU]; rfl) (by rw [hU]; simp), fill_step _ _ 1 1 _ _ (by rw [hV, hv]; rfl) (by rw [hU, hV]; simp [spl, hv]), Instr.fill, hU, hV]
  congr 1
  have e2 : spl (Value.int .i64 0 :: List.replicate 32 (Value.int .u8 0)) 0 [x] = [x] ++ List.replicate 32 (Value.int .u8 0) ++ [] := rfl
  have e3 := spl_mid (A := [x]) (X := List.replicate 32 (Value.int .u8 0)) (C := []) (vs := V.toList) (o := 1) rfl (by simp [hv])
  apply Array.ext'
  simp only [Array.toList_append]
  rw [e2, e3]
  simp
theorem built_slice (v : Value) (hv : v.cells.size = 33) (w : World) : (Instr.buildSlice 87 1 #[(0, v)]).run Tryd.prog w = .ok (.slice (some ⟨w.heap.size, 0, none⟩) 1 1) (w.alloc (.cells v.cells 100)) := by
  have hi : (Tryd.prog.info? 100).map (fun i => (i.zero, i.size)) = some (some (.agg (Value.int .i64 0 :: List.replicate 32 (Value.int .u8 0)).toArray), 33) := by kernel_rfl
  obtain ⟨i, hi, hzz⟩ := Option.map_eq_some_iff.1 hi
  simp only [Prod.mk.injEq] at hzz
  obtain ⟨hz, hs⟩ := hzz
  refine run_buildSlice w _ _ 1 _ _ i _ Tryd.underlying87 hi hz (by rw [hs]; decide) (by rw [hs]; decide) ?_
  rw [hs]
  rw [fill_step _ _ 0 0 _ _ (by simp [hv]) (by simp [hv]), Instr.fill]
  congr 1
  rw [spl_all (by simp [hv])]
theorem wp_build_write {dst : Option Tmp} {x y : Operand} {ty : TypeId} {pos : String} {after : Array Edge} {a : Act} {w : World} {K : Act → World → Prop} {Q : Exit → Act → World → Prop} (hx : (a.eval x).cells.size = 1) (hy : (a.eval y).cells.size = 32) :
    Oper.wp Tryd.prog ⟨dst, .build 100 #[(0, x), (1, y)], ty, pos, after, none⟩ a w K Q = K (a.put dst (.agg ((a.eval x).cells ++ (a.eval y).cells))) w := by
  unfold Oper.wp execOp
  simp only [List.map_toArray, List.map_cons, List.map_nil, Sem.run_bind, build_write _ _ hx hy, Result.andThen_ok]
  simp [Oper.upon_value]
theorem exec_build_write {dst : Option Tmp} {x y : Operand} {ty : TypeId} {pos : String} {after : Array Edge} {a : Act} {w : World} (hx : (a.eval x).cells.size = 1) (hy : (a.eval y).cells.size = 32) :
    Sem.run Tryd.prog (execOp a.eval ⟨dst, .build 100 #[(0, x), (1, y)], ty, pos, after, none⟩) w = .ok (.value (.agg ((a.eval x).cells ++ (a.eval y).cells))) w := by
  unfold execOp
  simp only [List.map_toArray, List.map_cons, List.map_nil, Sem.run_bind, build_write _ _ hx hy, Result.andThen_ok]
  simp
theorem wp_built_slice {dst : Option Tmp} {x : Operand} {ty : TypeId} {pos : String} {after : Array Edge} {a : Act} {w : World} {K : Act → World → Prop} {Q : Exit → Act → World → Prop} (hx : (a.eval x).cells.size = 33) :
    Oper.wp Tryd.prog ⟨dst, .buildSlice 87 1 #[(0, x)], ty, pos, after, none⟩ a w K Q = K (a.put dst (.slice (some ⟨w.heap.size, 0, none⟩) 1 1)) (w.alloc (.cells (a.eval x).cells 100)) := by
  unfold Oper.wp execOp
  simp only [List.map_toArray, List.map_cons, List.map_nil, Sem.run_bind, built_slice _ hx, Result.andThen_ok]
  simp [Oper.upon_value]
theorem arr_at (A : Option Addr) (n c : Nat) (hn : 32 ≤ n) (w : World) : (Instr.arrayAt 85 (.slice A n c)).run Tryd.prog w = .ok (.pointer A) w := by
  have h : ¬ n < 32 := by omega
  simp [Instr.arrayAt, run_underlying Tryd.underlying85, h]
end Go.Proofs.YtoomdgidpplpfaaDoor
end
section
set_option maxRecDepth 8000
namespace Go.Proofs.YtoomdgidpplpfaaDoor
open Go.RowKit

theorem size_pw : (Tryd.prog.info? 100).map (fun i => (i.zero, i.size, i.bytes)) = some (some (.agg (Value.int .i64 0 :: List.replicate 32 (Value.int .u8 0)).toArray), 33, 40) := by kernel_rfl
theorem dsk_write_end {w0 w1 w2 w3 w4 : World} {B b : Nat} {pv : Value} {D : Dsk} {k : Nat} {x : List UInt8} {o : Obj} {g cap : Nat} (h0 : DskAt w0 B b pv D) (hk : k < 52) (hx : x.length = 32) (hB1 : Below w0.heap.size w0 w1) (hg2 : w1.grownBy w2 (some b))
    (hg3 : (w2.drew.alloc o).grownBy w3 pv.ownBlock) (hat : pv.ownBlock = some g ∨ g = w2.heap.size + 1)
    (hown3 : w3.ownsRow B 100 33 (.slice (some ⟨g, 0, none⟩) (D.ps.length + 1) cap) (D.ps.length + 1) (wcells D.ps ++ wcell (k, x)))
    (hb4 : w4.heap[b]? = some (.cells (dcells D.S (putAt D.now k x) (.slice (some ⟨g, 0, none⟩) (D.ps.length + 1) cap) D.f).toArray 89 (0, 0))) (hg4 : w3.grownBy w4 (some b)) :
    DskAt w4 B b (.slice (some ⟨g, 0, none⟩) (D.ps.length + 1) cap) (D.write k x) ∧ Chg (DF b pv) w0 w4 ∧ NewOr w0 pv (.slice (some ⟨g, 0, none⟩) (D.ps.length + 1) cap) := by
  have hblt := h0.lt
  have hs1 := hB1.size
  have hs2 := hg2.size
  have hgb : g ≠ b := by
    rcases hat with h | h
    · intro e; subst e; exact h0.ne h
    · omega
  generalize hpv : Value.slice (some ⟨g, 0, none⟩) (D.ps.length + 1) cap = pv' at hown3 hb4 ⊢
  have hob : pv'.ownBlock = some g := by rw [← hpv]; rfl
  refine ⟨⟨?_, ?_, h0.le, ?_, h0.ok.write hk hx⟩, ?_, ?_⟩
  · rw [Dsk.write_now]; exact hb4
  · have : (D.write k x).ps.length = D.ps.length + 1 := by simp [Dsk.write]
    rw [this, show wcells (D.write k x).ps = wcells D.ps ++ wcell (k, x) from wcells_snoc _ _]
    exact own_heap hown3 fun j hj => by
      rw [hob] at hj; injection hj with hj; subst hj
      exact hg4.block _ (hown3.lt _ hob).2 (by intro e; injection e with e; exact hgb e)
  · rw [hob]; intro e; injection e with e; exact hgb e
  · have c1 : Chg (DF b pv) w0 w2 := (chg_below _ hB1).trans (chg_grown hg2) fun i _ e => .inl (by injection e with e; exact e.symm)
    have c2 : Chg (DF b pv) w0 w3 := ((c1.drewN 1).alloc o).trans (chg_grown hg3) fun i _ e => .inr e
    exact c2.trans (chg_grown hg4) fun i _ e => .inl (by injection e with e; exact e.symm)
  · intro j hj
    rw [hob] at hj; injection hj with hj; subst hj
    rcases hat with h | h
    · exact .inl h
    · exact .inr (by omega)
section
attribute [local go_sem ↓] wp_build_write exec_build_write wp_built_slice
set_option maxHeartbeats 800000 in
theorem dsk_write_ok (B b : Nat) (pv : Value) (D : Dsk) (k : Nat) (x : List UInt8) (A : Option Addr) (c : Nat) (w : World) (h : DskAt w B b pv D) (hf : D.f = false) (hk : k < 52) (hx : x.length = 32) (hr : RdB w w.heap.size A x) (hps : D.ps.length ≤ 2000000) :
    Calls Tryd.prog 66 #[.pointer (some ⟨b, 0, none⟩), .int .i64 (k : Int), .slice A 32 c] w fun e w' => ∃ pv', e = .returned (.int .i64 0) ∧ DskAt w' B b pv' (D.write k x) ∧ Chg (DF b pv) w w' ∧ NewOr w pv pv' := by
  have C := Lib.hid (dsk_take_any B b pv D w h (k : Int) A 32 c (by omega) (by omega))
  have hE : takeE D.f (k : Int) 32 = 0 := by
    have : reachE D.f (k : Int) = 0 := by unfold reachE; rw [hf, if_neg (by simp), if_neg (by omega)]
    unfold takeE; rw [this]; rfl
  rw [hE] at C
  obtain ⟨g, off, rfl, hg, hcells⟩ := hr.2 (by omega)
  have hra : w.rangeAt g off (x.map bv) := fun j v hj => by
    obtain ⟨hj1, rfl⟩ := List.getElem?_eq_some_iff.1 hj
    have hj2 : j < x.length := by simpa using hj1
    rw [hcells j hj2]
    simp [bv, hj2]
  have Hx := Lib.hid hx
  have Hra := Lib.hid hra
  clear hcells hra hr hE hx
  have Hh := Lib.hid h
  have harr := arr_at (some ⟨g, off, none⟩) 32 c (Nat.le_refl _)
  have k0 : (0 : Int) ≤ (k : Int) := by omega
  have k1 : (k : Int) < 52 := by omega
  clear h
  go_enter Tryd.func66, Tryd.ntmps66
  go_wp2_with fail
  refine C.out.mono ?_
  rintro e w' ⟨rfl, rfl⟩
  go_wp2_with (first
    | (refine wpList_load_mid rfl 85 _ (by rfl) g off (by rfl) (x.map bv) _ Hra.out Tryd.underlying85 rfl (by rw [List.length_map, Hx.out]; exact size_sec) ?_)
    | (refine wpList_store_blk rfl 85 _ _ (by rfl) w'.heap.size 0 (.agg (x.map bv).toArray) (by rfl) (by rfl) (List.replicate 32 (.int .u8 0)) 85 (heap_alloc_new _ _) (x.map bv) (by rfl) 32 (by rw [List.length_map, Hx.out]) size_sec (by decide) map_bv_one (x.map bv) (spl_all (by rw [List.length_map, Hx.out]; rfl)) ?_; intro w1 h1 hg1)
    | fail)
  have hB1 : Below w'.heap.size w' w1 := (below1 w' _).grown hg1 (by simp) (fun j hj => by injection hj with hj; omega)
  clear hg1
  have HD := Lib.hid (Hh.out.below hB1)
  have hG : w'.heap.size < w1.heap.size := (Array.getElem?_eq_some_iff.1 h1).1
  have hbG := Hh.out.lt
  have Hp := Lib.hid (Hh.out.plt)
  generalize hGe : w'.heap.size = G at h1 hG hbG Hp ⊢
  have HG := Lib.hid hGe
  clear hGe
  refine wp_region_still_tail 6 (by kernel_rfl) (by kernel_rfl) ?_
  simp only [List.take_succ_cons, List.take_zero, List.drop_succ_cons, List.drop_zero]
  change wpStill _ _ w1.drew _ _ _
  have hra1 : w1.drew.rangeAt G 0 (x.map bv) := fun j v hj => by rw [Nat.zero_add, cell_of_row _ _ _ _ _ _ (show w1.drew.heap[G]? = _ from h1)]; simpa using hj
  have Hra1 := Lib.hid hra1
  clear hra1
  still_step
  still_step
  refine wpStill_load_mid rfl 85 _ (by rfl) G 0 (by rfl) (x.map bv) _ Hra1.out Tryd.underlying85 rfl (by rw [List.length_map, Hx.out]; exact size_sec) ?_
  repeat still_step
  refine wpStill_nil ?_
  change wpList _ _ _ _ _ w1.drew
  have HS := Lib.hid Hh.out.ok.S
  have HN := Lib.hid Hh.out.ok.now
  refine wpList_store_blk rfl 85 _ _ (by rfl) b (1664 + k * 32) (.agg (x.map bv).toArray) (by rfl) (by rfl) (dcells D.S D.now pv D.f) 89 HD.out.blk (x.map bv) (by rfl) 32 (by rw [List.length_map, Hx.out]) size_sec (by rw [dcells_len HS.out HN.out]; omega) map_bv_one (dcells D.S (putAt D.now k x) pv D.f) (spl_Nsec HS.out HN.out hk Hx.out) ?_
  intro w2 hb2 hg2
  have hN' : (putAt D.now k x).length = 1664 := putAt_len HN.out (by omega) Hx.out
  have hc2 := cell_dpv hb2 HS.out hN'
  have hG2 : w2.heap[G]? = some (.cells (x.map bv).toArray 85 (0, 0)) := (hg2.block G hG (by intro e; injection e with e; omega)).trans h1
  have hra2 : w2.drew.rangeAt G 0 (x.map bv) := fun j v hj => by rw [Nat.zero_add, cell_of_row _ _ _ _ _ _ (show w2.drew.heap[G]? = _ from hG2)]; simpa using hj
  have hown2 : w2.ownsRow B 100 33 pv D.ps.length (wcells D.ps) := own_chg HD.out.own (chg_grown hg2).ofDrew (fun j hj e => HD.out.ne (hj.trans e.symm))
  have hsz2 := hg2.size
  have Hhb2 := Lib.hid hb2
  have Hg2 := Lib.hid (show w1.grownBy w2 (some b) from ⟨hg2.os, hg2.tape, hg2.output, hg2.size, hg2.block⟩)
  have Hown2 := Lib.hid hown2
  have Hra2 := Lib.hid hra2
  have hb2lt : b < w2.heap.size := (Array.getElem?_eq_some_iff.1 hb2).1
  clear hg2 hb2 hG2 hra2 hown2 h1
  go_wp2
  rw [show ∀ (a : Act) (v : Value), a.put none v = a from fun _ _ => rfl]
  have hu := Tryd.underlying85
  have hi : (Tryd.prog.info? 85).map (·.size) = some (x.map bv).length := by rw [List.length_map, Hx.out]; exact size_sec
  have hx32 := Hx.out
  have HO := Lib.hid (show ∀ o : Obj, (w2.drew.alloc o).ownsRow B 100 33 pv D.ps.length (wcells D.ps) from fun o => own_heap Hown2.out fun j hj => heap_alloc_old w2.drew o (Hown2.out.lt j hj).2)
  obtain ⟨iw, hiw, hzz⟩ := Option.map_eq_some_iff.1 size_pw
  simp only [Prod.mk.injEq] at hzz
  have Hzw := Lib.hid hzz.1
  have Hsw := Lib.hid hzz.2.1
  have Hbw := Lib.hid hzz.2.2
  have Hiw := Lib.hid hiw
  have HBw := Lib.hid (show B ≤ w2.heap.size by have := Hh.out.le; omega)
  have HbD := Lib.hid (show ∀ o : Obj, (w2.drew.alloc o).heap[b]? = w2.heap[b]? from fun o => heap_alloc_old w2.drew o hb2lt)
  have Hbs := Lib.hid (show ∀ o : Obj, b < (w2.drew.alloc o).heap.size from fun o => by simp; omega)
  have Hbn := Lib.hid (show some b ≠ pv.ownBlock from fun e => Hh.out.ne e.symm)
  have HGn := Lib.hid (show some G ≠ pv.ownBlock from fun e => by have := (Hp.out _ e.symm).2; omega)
  have hG2 : G < w2.heap.size := by have : w1.heap.size ≤ w2.heap.size := hsz2; omega
  have HGD := Lib.hid (show ∀ o : Obj, (w2.drew.alloc o).heap[G]? = w2.heap[G]? from fun o => heap_alloc_old w2.drew o hG2)
  have HGs := Lib.hid (show ∀ o : Obj, G < (w2.drew.alloc o).heap.size from fun o => by simp; omega)
  have Hne1 := Lib.hid (show ∀ u ∈ (Value.int .i64 (k : Int) :: x.map bv), u.oneCell' = true from fun u hu => by
    rcases List.mem_cons.1 hu with rfl | hu
    · rfl
    · exact map_bv_one u hu)
  have Hnl := Lib.hid (show (Value.int .i64 (k : Int) :: x.map bv).length = 1 * 33 by simp [Hx.out])
  have hdl := dcells_len HS.out hN' pv D.f
  have Hdl := Lib.hid hdl
  clear hzz hiw hdl hc2
  refine wp_region_noPanic (region_take 8 (fun W => W.heap[b]? = w2.heap[b]? ∧ W.heap[G]? = w2.heap[G]?) (by kernel_rfl) (by kernel_rfl) (fun _ _ _ _ _ h => h) ⟨rfl, rfl⟩ ?_)
  simp only [List.take_succ_cons, List.take_zero, List.drop_succ_cons, List.drop_zero]
  refine take_of (v := .pointer (some ⟨b, 0, none⟩)) (by rfl) (fun W hW => by go_simp) ?_
  refine take_of (v := .pointer (some ⟨b, 0, none⟩)) (by rfl) (fun W hW => by go_simp) ?_
  simp only [Act.put, List.setIfInBounds_toArray, List.set_cons_zero, List.set_cons_succ]
  refine take_of (v := .pointer (some ⟨b, 0, none⟩)) (by rfl) (fun W hW => by go_simp) ?_
  simp only [Act.put, List.setIfInBounds_toArray, List.set_cons_zero, List.set_cons_succ]
  refine take_of (v := .pointer (some ⟨b, 3328, none⟩)) (by rfl) (fun W hW => by go_simp) ?_
  simp only [Act.put, List.setIfInBounds_toArray, List.set_cons_zero, List.set_cons_succ]
  refine take_of (v := pv) (by rfl) (fun W hW => by have hc := cell_dpv (hW.1.trans Hhb2.out) HS.out hN'; go_simp) ?_
  refine take_of (v := .int .i64 (k : Int)) (by rfl) (fun W hW => by go_simp) ?_
  simp only [Act.put, List.setIfInBounds_toArray, List.set_cons_zero, List.set_cons_succ]
  refine take_mid (by rfl) 85 _ (by rfl) G 0 (by rfl) (x.map bv) _ (fun W hW => range_heap Hra2.out hW.2) hu rfl hi ?_
  simp only [Act.put, List.setIfInBounds_toArray, List.set_cons_zero, List.set_cons_succ]
  refine take_of (v := .agg (Value.int .i64 (k : Int) :: x.map bv).toArray) (by rfl) (fun W hW => by go_simp) ?_
  simp only [Act.put, List.setIfInBounds_toArray, List.set_cons_zero, List.set_cons_succ, takesE]
  refine listE_step fun K hK => ?_
  rw [if_pos (by rfl), wp_built_slice (by simp [Act.eval, Value.cells, hx32])]
  refine hK _ _ ⟨HbD.out _, HGD.out _⟩ ?_
  clear hK K
  simp only [Act.put, List.setIfInBounds_toArray, List.set_cons_zero, List.set_cons_succ]
  refine listE_step fun K hK => ?_
  refine step_append_lies _ (by rfl) _ _ _ (by rfl) B 100 iw _ 33 40 Tryd.underlying87 Hiw.out Hzw.out Hsw.out Hbw.out (by rfl) (by omega) pv D.ps.length (wcells D.ps) (by rfl) (HO.out _) ⟨w2.heap.size, 0, none⟩ 1 1 (Value.int .i64 (k : Int) :: x.map bv) (by rfl) Hnl.out (World.news_of_block (heap_alloc_new w2.drew _)) Hne1.out (by omega) (by unfold maxLen; omega) (by omega) (by simp; have := HBw.out; omega) (w2.heap.size + 1) (by simp) ?_
  intro g3 cap3 w3 hown3 hgrow3 hat3 hlt3
  have hb3 := (hgrow3.block b (Hbs.out _) Hbn.out).trans (HbD.out _)
  have hG3 := (hgrow3.block G (HGs.out _) HGn.out).trans (HGD.out _)
  refine hK _ _ ⟨hb3, hG3⟩ ?_
  clear hK K
  have Hown3 := Lib.hid hown3
  have Hgrow3 := Lib.hid hgrow3
  have Hat3 := Lib.hid hat3
  have Hb3 := Lib.hid hb3
  have HG3 := Lib.hid hG3
  clear hown3 hgrow3 hat3 hb3 hG3
  simp only [Act.put, List.setIfInBounds_toArray, List.set_cons_zero, List.set_cons_succ]
  refine listE_step fun K hK => ?_
  go_simp
  refine hK _ _ ⟨Hb3.out, HG3.out⟩ ?_
  clear hK K
  refine listE_step fun K hK => ?_
  go_simp
  refine hK _ _ ⟨Hb3.out, HG3.out⟩ ?_
  clear hK K
  refine listE_last ?_
  refine wpList_store_blk rfl 87 _ _ (by rfl) b 3328 (.slice (some ⟨g3, 0, none⟩) (D.ps.length + 1) cap3) (by rfl) (by rfl) (dcells D.S (putAt D.now k x) pv D.f) 89 (Hb3.out.trans Hhb2.out) [.slice (some ⟨g3, 0, none⟩) (D.ps.length + 1) cap3] (by rfl) 1 (by rfl) size_pend (by have := Hdl.out; omega) (by intro u hu; simp at hu; subst hu; rfl) (dcells D.S (putAt D.now k x) (.slice (some ⟨g3, 0, none⟩) (D.ps.length + 1) cap3) D.f) (spl_pv HS.out hN') ?_
  intro w4 hb4 hg4
  refine wpList_nil (NoPanic.normal ?_)
  have Hb4 := Lib.hid hb4
  have Hg4 := Lib.hid hg4
  clear hb4 hg4
  go_wp2
  go_ret
  exact ⟨_, rfl, dsk_write_end Hh.out hk Hx.out hB1 Hg2.out Hgrow3.out Hat3.out Hown3.out Hb4.out Hg4.out⟩
end
end Go.Proofs.YtoomdgidpplpfaaDoor
end
section
set_option maxRecDepth 8000
namespace Go.Proofs.YtoomdgidpplpfaaDoor
open Go.RowKit

theorem own_empty (w : World) : OwB 5 (w.alloc (.cells #[] 5)) w.heap.size (.slice (some ⟨w.heap.size, 0, none⟩) 0 0) [] :=
  ⟨World.ownsRow_lit w #[] 0 (Nat.le_refl _) (by unfold maxLen; omega) rfl, by simp⟩
theorem clone_any (A : Option Addr) (bs : List UInt8) (n c : Nat) (w : World) (hn : n = bs.length) (hp : 0 < bs.length) (hr : RdB w w.heap.size A bs) :
    Calls Tryd.prog 58 #[.slice A n c] w fun e w' => ∃ v, e = .returned v ∧ OwB 5 w' w.heap.size v bs ∧ Below w.heap.size w w' := by
  have hl := hr.1
  obtain ⟨b, off, rfl, hb, hc⟩ := hr.2 hp
  subst hn
  have ho := own_empty w
  have hq : ∀ W : World, (binOp .eql 41 (.slice (some ⟨b, off, none⟩) bs.length c) (.slice none 0 0)).run Tryd.prog W = .ok (.bool false) W := fun _ => rfl
  have hr1 := hr.below (below1 w (.cells #[] 5)) (Nat.le_refl _)
  go_enter Tryd.func58, Tryd.ntmps58
  go_wp2_with (at_builtin; refine wpList_append_B _ rfl _ _ _ rfl w.heap.size 5 Tryd.underlying41 info_u8 (.slice (some ⟨w.heap.size, 0, none⟩) 0 0) [] rfl ho w.heap.size (some ⟨b, off, none⟩) bs.length c bs rfl rfl hr1 (by simpa using hl) (by simp) ?_; intro v' w' hown hg hat)
  have hbw := (below1 w (.cells #[] 5)).grown hg (by simp) (by simp [Value.ownBlock])
  rw [List.nil_append] at hown
  go_ret
  exact ⟨v', rfl, hown, hbw⟩
end Go.Proofs.YtoomdgidpplpfaaDoor
end
section
namespace Go.Proofs.YtoomdgidpplpfaaDoor
open Go.RowKit

section
variable (B b : Nat) (pv : Value) (D : Dsk) (w : World) (h : DskAt w B b pv D)
include h
theorem dsk_write_no (k : Int) (A : Option Addr) (n c : Nat) (hk : -9223372036854775808 ≤ k ∧ k ≤ 9223372036854775807) (hn : n ≤ 140737488355328) (hE : takeE D.f k n ≠ 0) :
    Calls Tryd.prog 66 #[.pointer (some ⟨b, 0, none⟩), .int .i64 k, .slice A n c] w fun e w' => e = .returned (.int .i64 (takeE D.f k n)) ∧ w' = w := by
  have C := Lib.hid (dsk_take_any B b pv D w h k A n c hk hn)
  clear h
  generalize takeE D.f k n = E at C hE ⊢
  have e2 : (E != 0) = true := by rw [bne_iff_ne]; exact hE
  clear hE
  go_enter Tryd.func66, Tryd.ntmps66
  go_wp2_with fail
  refine C.out.mono ?_
  rintro e w' ⟨rfl, rfl⟩
  go_wp2
  go_ret
  exact ⟨rfl, rfl⟩
theorem dsk_flush_no (hf : D.f = true) : Calls Tryd.prog 68 #[.pointer (some ⟨b, 0, none⟩)] w fun e w' => e = .returned (.int .i64 5) ∧ w' = w := by
  have hc := cell_df h.blk h.ok.S h.ok.now
  rw [hf] at hc
  clear h
  go_enter Tryd.func68, Tryd.ntmps68
  go_wp2
  go_ret
  exact ⟨rfl, rfl⟩
theorem dsk_flush_ok (hf : D.f = false) : Calls Tryd.prog 68 #[.pointer (some ⟨b, 0, none⟩)] w fun e w' => e = .returned (.int .i64 0) ∧ DskAt w' B b (.slice none 0 0) D.flush ∧ Chg (DF b pv) w w' := by
  have Hh := Lib.hid h
  have HS := Lib.hid h.ok.S
  have HN := Lib.hid h.ok.now
  have Hc := Lib.hid (cell_df h.blk h.ok.S h.ok.now)
  have Hr := Lib.hid (range_N h.blk h.ok.S)
  have hcf := cell_df h.blk h.ok.S h.ok.now
  rw [hf] at hcf
  clear h
  go_enter Tryd.func68, Tryd.ntmps68
  go_wp2_with (first
    | (refine wpList_load_mid rfl 86 _ (by rfl) b 1664 (by rfl) (D.now.map bv) _ Hr.out Tryd.underlying86 rfl (by rw [List.length_map, HN.out]; exact size_arr) ?_)
    | (refine wpList_store_blk rfl 86 _ _ (by rfl) b 0 (.agg (D.now.map bv).toArray) (by rfl) (by rfl) (dcells D.S D.now pv D.f) 89 Hh.out.blk (D.now.map bv) (by rfl) 1664 (by rw [List.length_map, HN.out]) size_arr (by rw [dcells_len HS.out HN.out]; omega) map_bv_one (dcells D.now D.now pv D.f) (spl_S (by rw [HS.out, HN.out])) ?_; intro w1 hb1 hg1
       have Hb1 := Lib.hid hb1
       have Hg1 := Lib.hid hg1
       clear hb1 hg1 hcf)
    | (refine wpList_store_blk rfl 87 _ _ (by rfl) b 3328 (.slice none 0 0) (by rfl) (by rfl) (dcells D.now D.now pv D.f) 89 Hb1.out [.slice none 0 0] (by rfl) 1 (by rfl) size_pend (by rw [dcells_len HN.out HN.out]; omega) (by intro u hu; simp at hu; subst hu; rfl) (dcells D.now D.now (.slice none 0 0) D.f) (spl_pv HN.out HN.out) ?_; intro w2 hb2 hg2))
  go_ret
  exact ⟨rfl, ⟨hb2, World.ownsRow_nil _ _ _ _, Hh.out.le, by simp [Value.ownBlock], Hh.out.ok.flush⟩,
    ((chg_grown Hg1.out).trans (chg_grown hg2) fun _ _ e => e).mono fun i _ e => .inl (by injection e with e; exact e.symm)⟩
theorem dsk_fail_any : Calls Tryd.prog 38 #[.pointer (some ⟨b, 0, none⟩)] w fun e w' => e = .returned (.tuple #[]) ∧ DskAt w' B b (.slice none 0 0) Dsk.failed ∧ Chg (DF b pv) w w' := by
  have Hh := Lib.hid h
  have HS := Lib.hid h.ok.S
  have HN := Lib.hid h.ok.now
  clear h
  have H := Lib.hid (show ∀ w' : World, w'.heap[b]? = some (.cells (dcells (List.replicate 1664 0) (List.replicate 1664 0) (.slice none 0 0) true).toArray 89 (0, 0)) → DskAt w' B b (.slice none 0 0) Dsk.failed from
    fun w' hb => ⟨hb, World.ownsRow_nil _ _ _ _, Hh.out.le, by simp [Value.ownBlock], Dsk.failed_ok⟩)
  have hbuild := build_failed
  have Hl := Lib.hid (dcells_len (List.length_replicate (n := 1664) (a := (0 : UInt8))) (List.length_replicate (n := 1664) (a := (0 : UInt8))) (.slice none 0 0) true)
  have H1 := Lib.hid (show ∀ u ∈ dcells (List.replicate 1664 0) (List.replicate 1664 0) (.slice none 0 0) true, u.oneCell' = true from fun u hu => by
    unfold dcells at hu
    rcases List.mem_append.1 hu with h | h
    · rcases List.mem_append.1 h with h | h <;> exact map_bv_one u h
    · rcases List.mem_cons.1 h with rfl | h
      · rfl
      · rw [List.mem_singleton.1 h]; rfl)
  generalize hC : dcells (List.replicate 1664 0) (List.replicate 1664 0) (.slice none 0 0) true = C at H hbuild Hl H1
  clear hC
  go_enter Tryd.func38, Tryd.ntmps38
  go_wp2_with (first
    | ((refine wpList_build_run rfl 89 #[(3, .const (.bool true))] (by rfl) #[(3, .bool true)] (by simp [Act.eval]) (.agg C.toArray) (hbuild _) ?_))
    | (refine wpList_store_blk rfl 89 _ _ (by rfl) b 0 (.agg C.toArray) (by rfl) (by rfl) (dcells D.S D.now pv D.f) 89 Hh.out.blk C (by rfl) 3330 Hl.out size_dsk (by rw [dcells_len HS.out HN.out]; omega) H1.out C (spl_all (by rw [Hl.out, dcells_len HS.out HN.out])) ?_; intro w1 hb1 hg1))
  go_end0
  exact ⟨rfl, H.out _ hb1, (chg_grown hg1).mono fun i _ e => .inl (by injection e with e; exact e.symm)⟩
theorem dsk_read_no (k : Int) (hk : -9223372036854775808 ≤ k ∧ k ≤ 9223372036854775807) (hE : reachE D.f k ≠ 0) :
    Calls Tryd.prog 42 #[.pointer (some ⟨b, 0, none⟩), .int .i64 k] w fun e w' => e = .returned (.tuple #[.slice none 0 0, .int .i64 (reachE D.f k)]) ∧ w' = w := by
  have C := Lib.hid (dsk_reach_any B b pv D w h k hk)
  clear h
  generalize reachE D.f k = E at C hE ⊢
  have e2 : (E != 0) = true := by rw [bne_iff_ne]; exact hE
  clear hE
  go_enter Tryd.func42, Tryd.ntmps42
  go_wp2_with fail
  refine C.out.mono ?_
  rintro e w' ⟨rfl, rfl⟩
  go_wp2
  go_ret2
  exact ⟨rfl, rfl⟩
theorem dsk_read_ok (k : Nat) (hk : k < 52) (hf : D.f = false) :
    Calls Tryd.prog 42 #[.pointer (some ⟨b, 0, none⟩), .int .i64 (k : Int)] w fun e w' => ∃ v, e = .returned (.tuple #[v, .int .i64 0]) ∧ OwB 5 w' w.heap.size v (secAt D.now k) ∧ Below w.heap.size w w' := by
  have C := Lib.hid (dsk_reach_any B b pv D w h (k : Int) (by omega))
  have hE : reachE D.f (k : Int) = 0 := by unfold reachE; rw [hf, if_neg (by simp), if_neg (by omega)]
  rw [hE] at C
  have hlt := h.lt
  have hl : (secAt D.now k).length = 32 := secAt_len (by rw [h.ok.now]; omega)
  have Hr := Lib.hid (show RdB w w.heap.size (some ⟨b, 1664 + k * 32, none⟩) (secAt D.now k) from ⟨by omega, fun _ => ⟨b, _, rfl, h.lt, fun j hj => by
    have := range_sec (k := k) (range_N h.blk h.ok.S) j (bv ((secAt D.now k).getD j 0)) (by simp [hj])
    exact this⟩⟩)
  have CC := Lib.hid (fun c => clone_any (some ⟨b, 1664 + k * 32, none⟩) (secAt D.now k) 32 c w hl.symm (by omega) Hr.out)
  clear h hE hl Hr
  have k0 : (0 : Int) ≤ (k : Int) := by omega
  have k1 : (k : Int) < 52 := by omega
  go_enter Tryd.func42, Tryd.ntmps42
  go_wp2_with fail
  refine C.out.mono ?_
  rintro e w' ⟨rfl, rfl⟩
  go_wp2_with fail
  refine (CC.out _).mono ?_
  rintro e w1 ⟨v, rfl, ho, hb⟩
  go_wp2
  go_ret2
  exact ⟨v, rfl, ho, hb⟩
end
end Go.Proofs.YtoomdgidpplpfaaDoor
end
section
namespace Go.Proofs.YtoomdgidpplpfaaDoor
open Go.RowKit

/-- A slice that reads as yes and no. -/
def RdO (w : World) (B : Nat) (A : Option Addr) (ks : List Bool) : Prop :=
  ks.length ≤ 9223372036854775807 ∧ (0 < ks.length → ∃ b off, A = some ⟨b, off, none⟩ ∧ b < B ∧ ∀ k, k < ks.length → w.cell? ⟨b, off + k, none⟩ = some (.bool (ks.getD k false)))
theorem RdO.nil (w : World) (B : Nat) (A : Option Addr) : RdO w B A [] := ⟨by simp, fun h => by simp at h⟩
theorem RdO.keep {w w' : World} {B B' : Nat} {A : Option Addr} {ks : List Bool} (h : RdO w B A ks) (hB : B ≤ B') (hk : ∀ p : Addr, p.block < B → w'.cell? p = w.cell? p) : RdO w' B' A ks :=
  ⟨h.1, fun hn => by
    obtain ⟨b, off, e, hb, hc⟩ := h.2 hn
    exact ⟨b, off, e, by omega, fun k hk' => (hk ⟨b, off + k, none⟩ hb).trans (hc k hk')⟩⟩
theorem RdO.below {w w' : World} {B B' : Nat} {A : Option Addr} {ks : List Bool} (h : RdO w B A ks) (hb : Below B' w w') (hB : B ≤ B') : RdO w' B A ks := h.keep (Nat.le_refl _) fun p hp => hb.cell (by omega)
theorem RdO.drop {w : World} {B : Nat} {A : Option Addr} {ks : List Bool} (h : RdO w B A ks) (k cap : Nat) (hc : ks.length ≤ cap) : RdO w B (if cap = k then A else A.map (·.add k)) (ks.drop k) :=
  ⟨by have := h.1; simp; omega, fun hn => by
    have hn' : k < ks.length := by simp at hn; omega
    obtain ⟨b, off, rfl, hb, hc⟩ := h.2 (by omega)
    rw [if_neg (by omega)]
    refine ⟨b, off + k, ?_, hb, fun j hj => ?_⟩
    · unfold Addr.add; by_cases hk0 : k = 0 <;> simp [hk0]
    · have hj' : k + j < ks.length := by simp at hj; omega
      rw [Nat.add_assoc, hc (k + j) hj']
      simp⟩
theorem RdO.take {w : World} {B : Nat} {A : Option Addr} {ks : List Bool} (h : RdO w B A ks) (k : Nat) : RdO w B A (ks.take k) :=
  ⟨by have := h.1; simp; omega, fun hn => by
    have hk : 0 < k ∧ 0 < ks.length := by simp at hn; omega
    obtain ⟨b, off, e, hb, hc⟩ := h.2 hk.2
    refine ⟨b, off, e, hb, fun j hj => ?_⟩
    have hj' : j < k ∧ j < ks.length := by simp at hj; omega
    rw [hc j hj'.2]
    simp [hj'.1]⟩
/-- A slice that reads as these numbers. -/
def RdZ (w : World) (B : Nat) (A : Option Addr) (zs : List Int) : Prop :=
  zs.length ≤ 9223372036854775807 ∧ (∀ z ∈ zs, -9223372036854775808 ≤ z ∧ z ≤ 9223372036854775807) ∧ (0 < zs.length → ∃ b off, A = some ⟨b, off, none⟩ ∧ b < B ∧ ∀ k, k < zs.length → w.cell? ⟨b, off + k, none⟩ = some (.int .i64 (zs.getD k 0)))
theorem RdZ.nil (w : World) (B : Nat) (A : Option Addr) : RdZ w B A [] := ⟨by simp, fun z hz => by simp at hz, fun h => by simp at h⟩
theorem RdZ.keep {w w' : World} {B B' : Nat} {A : Option Addr} {zs : List Int} (h : RdZ w B A zs) (hB : B ≤ B') (hk : ∀ p : Addr, p.block < B → w'.cell? p = w.cell? p) : RdZ w' B' A zs :=
  ⟨h.1, h.2.1, fun hn => by
    obtain ⟨b, off, e, hb, hc⟩ := h.2.2 hn
    exact ⟨b, off, e, by omega, fun k hk' => (hk ⟨b, off + k, none⟩ hb).trans (hc k hk')⟩⟩
theorem RdZ.below {w w' : World} {B B' : Nat} {A : Option Addr} {zs : List Int} (h : RdZ w B A zs) (hb : Below B' w w') (hB : B ≤ B') : RdZ w' B A zs := h.keep (Nat.le_refl _) fun p hp => hb.cell (by omega)
theorem RdZ.bd {w : World} {B : Nat} {A : Option Addr} {zs : List Int} (h : RdZ w B A zs) (k : Nat) : -9223372036854775808 ≤ zs.getD k 0 ∧ zs.getD k 0 ≤ 9223372036854775807 := by
  by_cases hk : k < zs.length
  · exact h.2.1 _ (by simp [hk])
  · rw [List.getD_eq_getElem?_getD, List.getElem?_eq_none (by omega)]; simp
end Go.Proofs.YtoomdgidpplpfaaDoor
end
section
namespace Go.Proofs.YtoomdgidpplpfaaDoor
open Go.RowKit

/-- One of the pending writes, out of their row. -/
theorem wcells_get {ps : List (Nat × List UInt8)} (h : WOk ps) {i : Nat} (hi : i < ps.length) (j : Nat) (hj : j < 33) : (wcells ps)[i * 33 + j]? = (wcell (ps.getD i (0, [])))[j]? := by
  induction ps generalizing i with
  | nil => simp at hi
  | cons p ps ih =>
    have hl : (wcell p).length = 33 := wcell_len (h p (List.mem_cons_self ..)).2
    have e : wcells (p :: ps) = wcell p ++ wcells ps := by simp [wcells]
    rw [e]
    cases i with
    | zero => rw [Nat.zero_mul, Nat.zero_add, List.getElem?_append_left (by omega)]; rfl
    | succ i =>
      rw [List.getElem?_append_right (by omega), hl, show (i + 1) * 33 + j - 33 = i * 33 + j by omega, ih h.cons (by simpa using hi)]
      rfl
theorem own_cell_at {w : World} {B g n cap : Nat} {e : TypeId} {size : Nat} {xs : List Value} (h : w.ownsRow B e size (.slice (some ⟨g, 0, none⟩) n cap) n xs) (j : Nat) (hj : j < xs.length) : w.cell? ⟨g, j, none⟩ = xs[j]? := by
  rcases h.2 with ⟨h1, _⟩ | ⟨g', cap', cur, h1, h2, h3, h4, h5, h6, h7⟩
  · cases h1
  · injection h1 with h8 _ h9
    injection h8 with h8
    injection h8 with h8 _ _
    subst h8 h9
    have hx := h.1
    rw [cell_of_row w g j cur e (0, 0) h3, ← h7, List.getElem?_take, if_pos (by omega), Array.getElem?_toList]
theorem range_pend {w : World} {B g n cap : Nat} {ps : List (Nat × List UInt8)} (h : w.ownsRow B 100 33 (.slice (some ⟨g, 0, none⟩) n cap) n (wcells ps)) (hok : WOk ps) {i : Nat} (hi : i < ps.length) : w.rangeAt g (i * 33) (wcell (ps.getD i (0, []))) := fun j v hj => by
  have hm : ps.getD i (0, []) ∈ ps := by simp [hi]
  have hl := wcell_len (hok _ hm).2
  have hj33 : j < 33 := by have := (List.getElem?_eq_some_iff.1 hj).1; omega
  have hx : (wcells ps)[i * 33 + j]? = some v := (wcells_get hok hi j hj33).trans hj
  rw [own_cell_at h _ (List.getElem?_eq_some_iff.1 hx).1]
  exact hx

theorem own_form {w : World} {B n : Nat} {e : TypeId} {size : Nat} {v : Value} {xs : List Value} (h : w.ownsRow B e size v n xs) : ∃ A c, v = .slice A n c ∧ n ≤ c ∧ (0 < n → ∃ g, A = some ⟨g, 0, none⟩ ∧ B ≤ g) := by
  rcases h.2 with ⟨rfl, rfl⟩ | ⟨g, cap, cur, rfl, hB, _, hc, _⟩
  · exact ⟨none, 0, rfl, Nat.le_refl _, fun h => by omega⟩
  · exact ⟨_, cap, rfl, hc, fun _ => ⟨g, rfl, hB⟩⟩
end Go.Proofs.YtoomdgidpplpfaaDoor
end
