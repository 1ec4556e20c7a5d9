/- Texts put together: Chg, Ord. -/
import Derived.Test.YtjnemopocmhfkaaDoorBlab
import Derived.Test.YtjnemopocmhfkaaDoorBlac
section
namespace Go.Proofs.YtjnemopocmhfkaaDoor
open Go.RowKit

structure Chg (F : Nat → Prop) (w w' : World) : Prop where
  os : w'.os = w.os
  tape : w'.tape = w.tape
  output : w'.output = w.output
  size : w.heap.size ≤ w'.heap.size
  block : ∀ k, k < w.heap.size → ¬ F k → w'.heap[k]? = w.heap[k]?
section
variable {F G : Nat → Prop} {a b c : World}
theorem Chg.refl (F : Nat → Prop) (w : World) : Chg F w w := ⟨rfl, rfl, rfl, Nat.le_refl _, fun _ _ _ => rfl⟩
theorem Chg.trans (h : Chg F a b) (k : Chg G b c) (hs : ∀ i, i < a.heap.size → G i → F i) : Chg F a c :=
  ⟨k.os.trans h.os, k.tape.trans h.tape, k.output.trans h.output, Nat.le_trans h.size k.size, fun i hi hn => (k.block i (Nat.lt_of_lt_of_le hi h.size) fun hg => hn (hs i hi hg)).trans (h.block i hi hn)⟩
theorem Chg.mono (h : Chg F a b) (hs : ∀ i, i < a.heap.size → F i → G i) : Chg G a b := ⟨h.os, h.tape, h.output, h.size, fun i hi hn => h.block i hi fun hf => hn (hs i hi hf)⟩
theorem chg_below (F : Nat → Prop) (h : Below a.heap.size a b) : Chg F a b := ⟨h.os, h.tape, h.output, h.size, fun i hi _ => h.block i hi⟩
theorem chg_grown {row : Option Nat} (h : a.grownBy b row) : Chg (fun k => row = some k) a b := ⟨h.os, h.tape, h.output, h.size, fun i hi hn => h.block i hi fun e => hn e.symm⟩
theorem Chg.below {B : Nat} (h : Chg F a b) (hF : ∀ k, F k → B ≤ k) (hB : B ≤ a.heap.size) : Below B a b := ⟨h.os, h.tape, h.output, h.size, fun i hi => h.block i (by omega) fun hf => by have := hF i hf; omega⟩
theorem Chg.drewN (h : Chg F a b) (n : Nat) : Chg F a (b.drewN n) := ⟨h.os, h.tape, h.output, h.size, h.block⟩
theorem Chg.ofDrew (h : Chg F a.drew b) : Chg F a b := ⟨h.os, h.tape, h.output, h.size, h.block⟩
theorem Chg.alloc (h : Chg F a b) (o : Obj) : Chg F a (b.alloc o) := h.trans (chg_below F (below1 b o)) fun _ _ h => h
theorem Chg.ofBelow (h : Chg F a b) {B : Nat} (k : Below B b c) (hB : a.heap.size ≤ B) : Chg F a c :=
  ⟨k.os.trans h.os, k.tape.trans h.tape, k.output.trans h.output, Nat.le_trans h.size k.size, fun i hi hn => (k.block i (by omega)).trans (h.block i hi hn)⟩
end

/-- An own row hangs on its own block alone. -/
theorem own_heap {w w' : World} {B : Nat} {e : TypeId} {size : Nat} {v : Value} {n : Nat} {xs : List Value} (h : w.ownsRow B e size v n xs) (hk : ∀ k, v.ownBlock = some k → w'.heap[k]? = w.heap[k]?) : w'.ownsRow B e size v n xs := by
  refine ⟨h.1, ?_⟩
  rcases h.2 with h1 | ⟨g, cap, cur, rfl, h2, h3, r⟩
  · exact .inl h1
  · exact .inr ⟨g, cap, cur, rfl, h2, (hk g rfl).trans h3, r⟩
theorem own_chg {F : Nat → Prop} {w w' : World} {B : Nat} {e : TypeId} {size : Nat} {v : Value} {n : Nat} {xs : List Value} (h : w.ownsRow B e size v n xs) (hc : Chg F w w') (hn : ∀ k, v.ownBlock = some k → ¬ F k) : w'.ownsRow B e size v n xs :=
  own_heap h fun k hk => hc.block k (h.lt k hk).2 (hn k hk)
/-- A row of cells with some set. -/
def spl (l : List Value) (o : Nat) (vs : List Value) : List Value := l.take o ++ vs ++ l.drop (o + vs.length)
theorem spl_mid {A X C vs : List Value} {o : Nat} (ho : A.length = o) (hx : X.length = vs.length) : spl (A ++ X ++ C) o vs = A ++ vs ++ C := by
  unfold spl
  subst ho
  have e1 : (A ++ X ++ C).take A.length = A := by rw [List.append_assoc, List.take_left]
  have e2 : (A ++ X ++ C).drop (A.length + vs.length) = C := by rw [← hx, ← List.length_append, List.drop_left]
  rw [e1, e2]
section
variable {P : Program}
theorem run_storeVar_blk (w : World) (b o : Nat) (ty : TypeId) (v : Value) (cur : List Value) (t : TypeId) (hb : w.heap[b]? = some (.cells cur.toArray t (0, 0))) (hi : (P.info? ty).map (·.size) = some v.cells.size)
    (ho : o + v.cells.size ≤ cur.length) (h1 : ∀ u ∈ v.cells.toList, u.oneCell' = true) : (storeVar ty ⟨b, o, none⟩ v).run P w = .ok () (w.setRow b (spl cur o v.cells.toList).toArray) := by
  have h := run_storeCells_at P b o t v.cells.toList 0 cur.toArray w hb (by simpa using ho) h1
  cases hq : P.info? ty with
  | none => simp [hq] at hi
  | some i =>
    have hs : v.cells.size = i.size := by simp [hq] at hi; omega
    simp only [Nat.add_zero] at h
    simp [storeVar, sizeOf, typeInfo, hq, hs, h, spl]
theorem wpList_store_blk {ops : Array Oper} {rest : List Oper} {op : Oper} {a : Act} {w : World} {Q : Exit → Act → World → Prop} (hgd : op.guard = none) (ty : TypeId) (x y : Operand) (ho : op.op = .store ty x y)
    (b o : Nat) (v : Value) (hx : a.eval x = .pointer (some ⟨b, o, none⟩)) (hy : a.eval y = v) (cur : List Value) (t : TypeId) (hb : w.heap[b]? = some (.cells cur.toArray t (0, 0)))
    (vs : List Value) (hvs : v.cells = vs.toArray) (n : Nat) (hn : vs.length = n) (hi : (P.info? ty).map (·.size) = some n) (hl : o + n ≤ cur.length) (h1 : ∀ u ∈ vs, u.oneCell' = true)
    (new : List Value) (hnew : spl cur o vs = new)
    (h : ∀ w', w'.heap[b]? = some (.cells new.toArray t (0, 0)) → w.grownBy w' (some b) → wpList P ops Q rest (a.put op.dst undef) w') : wpList P ops Q (op :: rest) a w := by
  subst hn hnew
  refine wpList_plain hgd fun K hK => ?_
  have hr := run_storeVar_blk (P := P) w b o ty v cur t hb (by rw [hi, hvs]; rfl) (by rw [hvs]; exact hl) (by rw [hvs]; exact h1)
  unfold Oper.wp execOp
  simp only [ho, hx, hy, Instr.storeAt, Instr.sureAddr, Sem.run_bind, Sem.run_pure, Result.andThen_ok, hr]
  refine hK _ _ (h _ ?_ ?_)
  · rw [hvs]; exact setRow_heap w b _ _ t (0, 0) hb
  · exact ⟨rfl, rfl, rfl, by simp, fun k _ hk => setRow_other w b k _ (fun e => hk (by rw [e]))⟩
theorem wpList_build_run {ops : Array Oper} {rest : List Oper} {op : Oper} {a : Act} {w : World} {Q : Exit → Act → World → Prop} (hgd : op.guard = none) (t : TypeId) (parts : Array (Nat × Operand)) (ho : op.op = .build t parts)
    (ps : Array (Nat × Value)) (hps : parts.map (fun (i, x) => (i, a.eval x)) = ps) (v : Value) (hr : (Instr.build t ps).run P w = .ok v w)
    (h : wpList P ops Q rest (a.put op.dst v) w) : wpList P ops Q (op :: rest) a w := by
  subst hps
  refine wpList_plain hgd fun K hK => ?_
  unfold Oper.wp execOp
  simp only [ho, Sem.run_bind, Sem.run_pure, Result.andThen_ok, hr]
  exact hK _ _ h
end
end Go.Proofs.YtjnemopocmhfkaaDoor
end
section
namespace Go.Proofs.YtjnemopocmhfkaaDoor
open Go.RowKit

/-- The operations behind which S holds: those below n, but ex. -/
def hd (n : Nat) (ex : List Nat) (i : Nat) : Bool := decide (i < n) && !ex.contains i
section
variable {P : Program} {ops : Array Oper} {Q : Exit → Act → World → Prop} {md : Region.Mode} {S : World → Prop} {n : Nat} {ex : List Nat}
/-- Whatever order is picked, S holds behind each operation of the head. -/
def anyH (P : Program) (md : Region.Mode) (ops : Array Oper) (Q : Exit → Act → World → Prop) (S : World → Prop) (n : Nat) (ex : List Nat) : Nat → Array Bool → Act → World → Prop
  | 0, listed, a, w => Region.ready md ops listed = [] ∧ Q .normal a w
  | f + 1, listed, a, w => (Region.ready md ops listed = [] → Q .normal a w) ∧
    ∀ i ∈ Region.ready md ops listed, wpOp P ops Q i (fun a' w' => (hd n ex i = true → S w') ∧ anyH P md ops Q S n ex f (listed.setIfInBounds i true) a' w') a w
theorem any_of_H : ∀ (f : Nat) (listed : Array Bool) (a : Act) (w : World), anyH P md ops Q S n ex f listed a w → wpAny P md ops Q f listed a w
  | 0, _, _, _, h => h
  | f + 1, _, _, _, h => ⟨h.1, fun i hi => wpOp_mono (fun a' w' h' => any_of_H f _ a' w' h'.2) (h.2 i hi)⟩
/-- What is done is done with all that it waited for. -/
structure OInv (md : Region.Mode) (ops : Array Oper) (listed : Array Bool) : Prop where
  size : listed.size = ops.size
  closed : ∀ j oj, ops[j]? = some oj → listed.getD j false = true → ∀ e ∈ oj.after, Region.binds md e = true → listed.getD e.on false = true
theorem OInv.set {i : Nat} {listed : Array Bool} (inv : OInv md ops listed) (hi : i ∈ Region.ready md ops listed) : OInv md ops (listed.setIfInBounds i true) := by
  obtain ⟨_, oi, hoi, hall⟩ := mem_ready.1 hi
  refine ⟨by simp [inv.size], fun j oj hj hl e he hb => ?_⟩
  by_cases hij : i = j
  · subst hij
    have : oj = oi := Option.some.inj (hj.symm.trans hoi)
    subst this
    exact getD_set_true (hall e he hb)
  · rw [getD_set_ne false hij] at hl
    exact getD_set_true (inv.closed j oj hj hl e he hb)
/-- j waits for i, at once or through others. -/
def behind (md : Region.Mode) (ops : Array Oper) (i : Nat) : Nat → Nat → Bool
  | 0, _ => false
  | f + 1, j => match ops[j]? with
    | some o => o.after.any (fun e => Region.binds md e && e.on == i) || o.after.any (fun e => Region.binds md e && behind md ops i f e.on)
    | none => false
theorem behind_done {i : Nat} {listed : Array Bool} (inv : OInv md ops listed) (hun : listed.getD i true = false) : ∀ (f j : Nat) (oj : Oper), ops[j]? = some oj → (∀ e ∈ oj.after, Region.binds md e = true → listed.getD e.on false = true) → behind md ops i f j = true → False
  | 0, _, _, _, _, h => by cases h
  | f + 1, j, oj, hj, hall, h => by
    unfold behind at h
    simp only [hj, Bool.or_eq_true] at h
    rcases h with h | h
    · obtain ⟨e, he, hb⟩ := Array.any_eq_true'.1 h
      simp only [Bool.and_eq_true, beq_iff_eq] at hb
      have h2 := hall e he hb.1
      rw [hb.2, getD_both hun] at h2
      cases h2
    · obtain ⟨e, he, hb⟩ := Array.any_eq_true'.1 h
      simp only [Bool.and_eq_true] at hb
      have h2 := hall e he hb.1
      rcases ho : ops[e.on]? with _ | oe
      · have h3 := hb.2
        cases f with
        | zero => cases h3
        | succ f => unfold behind at h3; simp [ho] at h3
      · exact behind_done inv hun f e.on oe ho (inv.closed e.on oe ho h2) hb.2
theorem anyH_first {i : Nat} {oi : Oper} {v : Value} (hi : ops[i]? = some oi) (hsel : ∀ (j : Nat) (o : Oper) cs b, ops[j]? = some o → o.op ≠ .select cs b) (hQ : ∀ c a w, Q (.panic c) (a.put oi.dst v) w → Q (.panic c) a w) {g : Nat} :
    ∀ (f : Nat) (listed : Array Bool) (a : Act) (w : World), OInv md ops listed → (∀ j, hd n ex j = false → listed.getD j true = false → behind md ops i g j = true) →
      (∀ j oj, ops[j]? = some oj → j ≠ i → listed.getD j true = false → (∀ e ∈ oj.after, Region.binds md e = true → e.on ≠ i) → oi.apart ops oj = true) →
      i ∈ Region.ready md ops listed → YieldsIf P ops S oi v a → S w →
      anyH P md ops Q S n ex f (listed.setIfInBounds i true) (a.put oi.dst v) w → anyH P md ops Q S n ex (f + 1) listed a w := by
  intro f
  induction f with
  | zero =>
    intro listed a w _ _ _ hr hy hS H
    refine ⟨fun h => (by rw [h] at hr; cases hr), fun j hj => ?_⟩
    by_cases hji : j = i
    · subst hji; exact hy.wpOp hi hS ⟨fun _ => hS, H⟩
    · have h1 := ready_mono (i := i) hj hji
      rw [H.1] at h1
      cases h1
  | succ f ih =>
    intro listed a w inv hW hfree hr hy hS H
    have hun := (mem_ready.1 hr).1
    refine ⟨fun h => (by rw [h] at hr; cases hr), fun j hj => ?_⟩
    obtain ⟨hjun, oj, hoj, hall⟩ := mem_ready.1 hj
    have hjn : hd n ex j = true := by
      cases hh : hd n ex j with
      | true => rfl
      | false => exact (behind_done inv hun g j oj hoj hall (hW j hh hjun)).elim
    by_cases hji : j = i
    · subst hji; exact hy.wpOp hi hS ⟨fun _ => hS, H⟩
    · have hnot : ∀ e ∈ oj.after, Region.binds md e = true → e.on ≠ i := fun e he hb heq => by
        have h1 := hall e he hb
        rw [heq, getD_both hun] at h1
        cases h1
      have hap := hfree j oj hoj hji hjun hnot
      have h2 := wpOp_putIf hoj hap (fun cs b => hsel i oi cs b hi) (fun cs b => hsel j oj cs b hoj) hQ hy (H.2 j (ready_mono hj hji))
      have hkeep : ∀ k, (listed.setIfInBounds j true).getD k true = false → listed.getD k true = false := fun k hku => by
        by_cases hjk : j = k
        · subst hjk; exact hjun
        · rwa [getD_set_ne true hjk] at hku
      refine wpOp_mono (fun a' w' h3 => ⟨h3.2.1, ?_⟩) h2
      refine ih (listed.setIfInBounds j true) a' w' (inv.set hj) (fun k hk hku => hW k hk (hkeep k hku)) (fun k ok hk hki hku hno => hfree k ok hk hki (hkeep k hku) hno) (ready_mono hr (Ne.symm hji)) h3.1 (h3.2.1 hjn) ?_
      · rw [Array.setIfInBounds_comm _ _ hji]
        exact h3.2.2
/-- What is fixed of a region. -/
structure Reg (ops : Array Oper) (Q : Exit → Act → World → Prop) : Prop where
  sel : ∀ (j : Nat) (o : Oper) cs b, ops[j]? = some o → o.op ≠ .select cs b
  panic : ∀ c (a : Act) d v w, Q (.panic c) (a.put d v) w → Q (.panic c) a w
def anyI (P : Program) (ops : Array Oper) (Q : Exit → Act → World → Prop) (S : World → Prop) (n : Nat) (ex : List Nat) (f : Nat) (listed : Array Bool) (a : Act) (w : World) : Prop := OInv .any ops listed → anyH P .any ops Q S n ex f listed a w
theorem region_ord {id : Nat} {a : Act} {w : World} {l : List Oper} (n : Nat) (ex : List Nat) (S : World → Prop) (hm : P.follows .mixedOrders = true) (hB : Region.noSelect l.toArray = true)
    (hQ : ∀ c (a : Act) d v w, Q (.panic c) (a.put d v) w → Q (.panic c) a w) (h : Reg l.toArray Q → anyI P l.toArray Q S n ex l.toArray.size (Array.replicate l.toArray.size false) a w.drew) : (Code.region id l.toArray true).wp P Q a w :=
  wp_region_any hm (any_of_H _ _ _ _ (h ⟨Region.noSelect_spec hB, hQ⟩ ⟨by simp, fun j oj _ hl => (by rw [getD_replicate_false] at hl; cases hl)⟩))
def waitB (ops : Array Oper) (n : Nat) (ex : List Nat) (listed : Array Bool) (i : Nat) : Bool := (List.range ops.size).all fun j => hd n ex j || listed.getD j true || behind .any ops i ops.size j
theorem anyI_take (R : Reg ops Q) (i : Nat) {oi : Oper} {v : Value} {f : Nat} {listed : Array Bool} {a : Act} {w : World} (hi : ops[i]? = some oi) (hB : ((Region.ready .any ops listed).contains i && Region.free .any ops listed i && waitB ops n ex listed i) = true)
    (hw : Region.wanted oi (yielded ops a.tmps) = true) (hv : ∀ w, S w → (execOp a.eval oi).run P w = .ok (.value v) w) (hS : S w) (h : anyI P ops Q S n ex f (listed.setIfInBounds i true) (a.put oi.dst v) w) : anyI P ops Q S n ex (f + 1) listed a w := fun inv => by
  simp only [Bool.and_eq_true] at hB
  obtain ⟨⟨hr, hf⟩, hW⟩ := hB
  have hr' : i ∈ Region.ready .any ops listed := by simpa using hr
  refine anyH_first (g := ops.size) hi R.sel (fun c a w h => R.panic c a _ _ w h) f listed a w inv (fun j hj hun => ?_) (Region.free_spec hi hf) hr' (.inl ⟨hw, hv⟩) hS (h (inv.set hr'))
  rcases Nat.lt_or_ge j ops.size with hlt | hge
  · have h1 := List.all_eq_true.1 hW j (List.mem_range.2 hlt)
    simpa [hj, hun] using h1
  · rw [← inv.size] at hge
    simp [Array.getElem?_eq_none hge] at hun
theorem anyI_one (i : Nat) {oi : Oper} {f : Nat} {listed : Array Bool} {a : Act} {w : World} (hrs : Region.ready .any ops listed = [i]) (hi : ops[i]? = some oi)
    (h1 : opE P ops Q oi (fun a' w' => S w' ∧ anyI P ops Q S n ex f (listed.setIfInBounds i true) a' w') a w) : anyI P ops Q S n ex (f + 1) listed a w := fun inv => by
  refine ⟨fun h => (by rw [hrs] at h; cases h), fun t ht => ?_⟩
  have ht' := ht
  rw [hrs] at ht
  obtain rfl := List.mem_singleton.1 ht
  exact wpOp_mono (fun a' w' h => ⟨fun _ => h.1, h.2 (inv.set ht')⟩) (wpOp_of_opE hi h1)
theorem anyH_of_seq : ∀ (l : List Oper) (k : Nat) (listed : Array Bool) (a : Act) (w : World), n ≤ k → (∀ j, l[j]? = ops[k + j]?) → Region.seqB .any ops l.length k listed = true → wpList P ops Q l a w → anyH P .any ops Q S n ex l.length listed a w
  | [], k, listed, a, w, _, _, hB, h => ⟨by simpa [Region.seqB] using hB, h⟩
  | o :: l, k, listed, a, w, hk, hl, hB, h => by
    have h0 : ops[k]? = some o := by simpa using (hl 0).symm
    simp only [List.length_cons, Region.seqB, Bool.and_eq_true, decide_eq_true_eq] at hB
    refine ⟨fun h1 => (by rw [hB.1] at h1; cases h1), fun i hi => ?_⟩
    rw [hB.1] at hi
    have hik : i = k := by simpa using hi
    subst hik
    have hw : wpOp P ops Q i (wpList P ops Q l) a w := by unfold wpOp; simp only [h0]; exact h
    exact wpOp_mono (fun a' w' h' => ⟨fun h => (by simp [hd] at h; omega), anyH_of_seq l (i + 1) _ a' w' (by omega) (fun j => by have := hl (j + 1); simpa [Nat.add_assoc, Nat.add_comm 1 j] using this) hB.2 h'⟩) hw
theorem anyI_tail {l : List Oper} {f : Nat} {listed : Array Bool} {a : Act} {w : World} (hB : (decide (f = l.length - n) && Region.seqB .any l.toArray (l.length - n) n listed) = true) (h : wpList P l.toArray Q (l.drop n) a w) : anyI P l.toArray Q S n ex f listed a w := fun _ => by
  simp only [Bool.and_eq_true, decide_eq_true_eq] at hB
  obtain ⟨rfl, hB⟩ := hB
  have hdl : (l.drop n).length = l.length - n := by simp
  have := anyH_of_seq (P := P) (Q := Q) (S := S) (n := n) (ex := ex) (l.drop n) n listed a w (Nat.le_refl _) (fun j => by simp [List.getElem?_drop]) (by rw [hdl]; exact hB) h
  rwa [hdl] at this
theorem opE_step {o : Oper} {K : Act → World → Prop} {a : Act} {w : World} (h : if Region.wanted o (yielded ops a.tmps) = true then o.wp P a w K Q else K (a.put o.dst undef) w) : opE P ops Q o K a w := by
  unfold opE
  split at h
  · rename_i hw; rw [if_pos hw]; exact .inl h
  · rename_i hw; rw [if_neg hw]; exact h
end
end Go.Proofs.YtjnemopocmhfkaaDoor
end
