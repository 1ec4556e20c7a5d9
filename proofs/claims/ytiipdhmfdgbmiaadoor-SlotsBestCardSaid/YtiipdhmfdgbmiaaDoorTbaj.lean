/- Texts put together: Dsk, DskOps, Sup. -/
import Derived.Test.YtiipdhmfdgbmiaaDoorTbad
import Derived.Test.YtiipdhmfdgbmiaaDoorTbaa
import Derived.StillTailTactics
import Derived.Great.FillDense
import Derived.Great.BuildSlice
import Derived.Deep.AppendLies
import Derived.Test.YtiipdhmfdgbmiaaDoorTbaf
import Derived.Test.YtiipdhmfdgbmiaaDoorTbah
section
namespace Go.Proofs.YtiipdhmfdgbmiaaDoor
open Go.RowKit

theorem new_at (w : World) : DskAt (w.alloc (.cells (dcells (List.replicate 1664 0) (List.replicate 1664 0) (.slice none 0 0) false).toArray 96)) w.heap.size w.heap.size (.slice none 0 0) Dsk.new :=
  ⟨heap_alloc_new _ _, World.ownsRow_nil _ _ _ _, Nat.le_refl _, by simp [Value.ownBlock], Dsk.new_ok⟩
theorem dsk_new_any (w : World) : Calls Tryd.prog 28 #[] w fun e w' => e = .returned (.pointer (some ⟨w.heap.size, 0, none⟩)) ∧ DskAt w' w.heap.size w.heap.size (.slice none 0 0) Dsk.new ∧ Below w.heap.size w w' := by
  have H := Lib.hid (new_at w)
  have hbuild := build_new
  generalize hC : dcells (List.replicate 1664 0) (List.replicate 1664 0) (.slice none 0 0) false = C at H hbuild
  clear hC
  go_enter Tryd.func28, Tryd.ntmps28
  go_wp2_with ((refine wpList_build_run rfl 96 #[] (by rfl) #[] (by simp) (.agg C.toArray) (hbuild _) ?_))
  go_ret
  exact ⟨rfl, H.out, below1 _ _⟩
section
variable (B b : Nat) (pv : Value) (D : Dsk) (w : World) (h : DskAt w B b pv D)
include h
theorem dsk_failed_any : Calls Tryd.prog 54 #[.pointer (some ⟨b, 0, none⟩)] w fun e w' => e = .returned (.bool D.f) ∧ w' = w := by
  have hc := cell_df h.blk h.ok.S h.ok.now
  clear h
  go_enter Tryd.func54, Tryd.ntmps54
  go_wp2
  go_ret
  exact ⟨rfl, rfl⟩
theorem dsk_pending_any : Calls Tryd.prog 55 #[.pointer (some ⟨b, 0, none⟩)] w fun e w' => e = .returned (.int .i64 (D.ps.length : Int)) ∧ w' = w := by
  have hc := cell_dpv h.blk h.ok.S h.ok.now
  have hv : ∃ A c, pv = .slice A D.ps.length c := by
    rcases h.own.2 with ⟨h1, h2⟩ | ⟨g, cap, cur, h1, _⟩
    · exact ⟨none, 0, by rw [h2]; exact h1⟩
    · exact ⟨_, _, h1⟩
  obtain ⟨A, c, rfl⟩ := hv
  clear h
  go_enter Tryd.func55, Tryd.ntmps55
  go_wp2
  go_ret
  exact ⟨rfl, rfl⟩
/-- The error of a call on sector k. -/
def reachE (f : Bool) (k : Int) : Int := if f = true then 5 else if k < 0 ∨ 52 ≤ k then 4 else 0
theorem dsk_reach_any (k : Int) (hk : -9223372036854775808 ≤ k ∧ k ≤ 9223372036854775807) : Calls Tryd.prog 74 #[.pointer (some ⟨b, 0, none⟩), .int .i64 k] w fun e w' => e = .returned (.int .i64 (reachE D.f k)) ∧ w' = w := by
  have hc := cell_df h.blk h.ok.S h.ok.now
  have HE : Hid (reachE D.f k = if D.f = true then 5 else if k < 0 ∨ 52 ≤ k then 4 else 0) := rfl
  clear h
  generalize D.f = f at hc HE ⊢
  generalize reachE f k = E at HE ⊢
  cases f
  · by_cases h1 : k < 0
    · have HE2 := Lib.hid (show E = 4 by rw [HE.out, if_neg (by simp), if_pos (.inl h1)])
      clear HE
      go_enter Tryd.func74, Tryd.ntmps74
      go_wp2
      go_ret
      exact ⟨by rw [HE2.out]; rfl, rfl⟩
    · by_cases h2 : 52 ≤ k
      · have HE2 := Lib.hid (show E = 4 by rw [HE.out, if_neg (by simp), if_pos (.inr h2)])
        clear HE
        go_enter Tryd.func74, Tryd.ntmps74
        go_wp2
        go_ret
        exact ⟨by rw [HE2.out]; rfl, rfl⟩
      · have HE2 := Lib.hid (show E = 0 by rw [HE.out, if_neg (by simp), if_neg (by omega)])
        clear HE
        go_enter Tryd.func74, Tryd.ntmps74
        go_wp2
        go_ret
        exact ⟨by rw [HE2.out]; rfl, rfl⟩
  · have HE2 := Lib.hid (show E = 5 by rw [HE.out, if_pos rfl])
    clear HE
    go_enter Tryd.func74, Tryd.ntmps74
    go_wp2
    go_ret
    exact ⟨by rw [HE2.out]; rfl, rfl⟩
/-- The error of a call that sets sector k to n bytes. -/
def takeE (f : Bool) (k : Int) (n : Nat) : Int := if reachE f k ≠ 0 then reachE f k else if n ≠ 32 then 1 else 0
theorem dsk_take_any (k : Int) (A : Option Addr) (n c : Nat) (hk : -9223372036854775808 ≤ k ∧ k ≤ 9223372036854775807) (hn : n ≤ 140737488355328) :
    Calls Tryd.prog 68 #[.pointer (some ⟨b, 0, none⟩), .int .i64 k, .slice A n c] w fun e w' => e = .returned (.int .i64 (takeE D.f k n)) ∧ w' = w := by
  have C := Lib.hid (dsk_reach_any B b pv D w h k hk)
  have HE : Hid (takeE D.f k n = if reachE D.f k ≠ 0 then reachE D.f k else if n ≠ 32 then 1 else 0) := rfl
  clear h
  generalize takeE D.f k n = E at HE ⊢
  generalize reachE D.f k = R at HE C
  by_cases h1 : R = 0
  · subst h1
    by_cases h2 : n = 32
    · have HE2 := Lib.hid (show E = 0 by rw [HE.out, if_neg (by simp), if_neg (by simp [h2])])
      have e2 : ((n : Int) != 32) = false := by subst h2; rfl
      clear HE h2
      go_enter Tryd.func68, Tryd.ntmps68
      go_wp2_with fail
      refine C.out.mono ?_
      rintro e w' ⟨rfl, rfl⟩
      go_wp2
      go_ret
      exact ⟨by rw [HE2.out]; rfl, rfl⟩
    · have HE2 := Lib.hid (show E = 1 by rw [HE.out, if_neg (by simp), if_pos h2])
      have e2 : ((n : Int) != 32) = true := by rw [bne_iff_ne]; omega
      clear HE h2
      go_enter Tryd.func68, Tryd.ntmps68
      go_wp2_with fail
      refine C.out.mono ?_
      rintro e w' ⟨rfl, rfl⟩
      go_wp2
      go_ret
      exact ⟨by rw [HE2.out]; rfl, rfl⟩
  · have HE2 := Lib.hid (show E = R by rw [HE.out, if_pos h1])
    have e2 : (R != 0) = true := by rw [bne_iff_ne]; exact h1
    clear HE h1
    go_enter Tryd.func68, Tryd.ntmps68
    go_wp2_with fail
    refine C.out.mono ?_
    rintro e w' ⟨rfl, rfl⟩
    go_wp2
    go_ret
    exact ⟨by rw [HE2.out]; rfl, rfl⟩
end
end Go.Proofs.YtiipdhmfdgbmiaaDoor
end
section
set_option maxRecDepth 8000
namespace Go.Proofs.YtiipdhmfdgbmiaaDoor
open Go.RowKit

theorem range_heap {w w' : World} {b o : Nat} {cs : List Value} (h : w.rangeAt b o cs) (hb : w'.heap[b]? = w.heap[b]?) : w'.rangeAt b o cs := fun j v hj => (World.cell?_of_block (a := ⟨b, o + j, none⟩) hb).trans (h j v hj)
theorem range_setCell {w : World} {b o b' j : Nat} {cs : List Value} {v : Value} (h : w.rangeAt b o cs) (hne : b' ≠ b) : (w.setCell ⟨b', j, none⟩ v).rangeAt b o cs := fun i u hi => by
  rw [World.cell?_setCell_other _ _ _ _ (by intro e; injection e with e; exact hne e)]; exact h i u hi
section
variable {P : Program}
theorem wpStill_load_mid {ops : Array Oper} {rest : List Oper} {op : Oper} {a : Act} {w : World} {Q : Act → Prop} (hgd : op.guard = none) (ty : TypeId) (x : Operand) (ho : op.op = .load ty x)
    (b o : Nat) (hx : a.eval x = .pointer (some ⟨b, o, none⟩)) (cs : List Value) (d : TypeDesc) (hc : w.rangeAt b o cs) (hu : P.underlying ty = some d) (hd : d.isRow = true) (hi : (P.info? ty).map (·.size) = some cs.length)
    (h : wpStill P ops w Q rest (a.put op.dst (.agg cs.toArray))) : wpStill P ops w Q (op :: rest) a := by
  refine wpStill_step (fun K hK => ?_)
  rw [if_pos (by simp [Region.wanted, hgd])]
  unfold Oper.still execOp
  simp only [ho, hx, Instr.loadAt, Instr.sureAddr, Sem.run_bind, Sem.run_pure, Result.andThen_ok, run_loadVar_mid w b o ty cs d hc hu hd hi]
  exact ⟨rfl, hK _ h⟩
/-- One cell stored into a block that is known whole. -/
theorem heap_setCell (w : World) (b o : Nat) (v : Value) (cur : List Value) (t : TypeId) (hb : w.heap[b]? = some (.cells cur.toArray t (0, 0))) (ho : o + 1 ≤ cur.length) (h1 : v.oneCell' = true) :
    (w.setCell ⟨b, o, none⟩ v).heap[b]? = some (.cells (spl cur o [v]).toArray t (0, 0)) ∧ w.grownBy (w.setCell ⟨b, o, none⟩ v) (some b) := by
  have hc : w.cell? ⟨b, o, none⟩ = some (cur[o]'(by omega)) := by rw [cell_of_row w b o _ t (0, 0) hb]; simp
  have hf : w.frozen? ⟨b, o, none⟩ = false := by simp [World.frozen?, hb]
  have e1 := run_storeCells_cells (P := Tryd.prog) b o [v] 0 w (fun j hj => by obtain rfl : j = 0 := (by simp at hj; omega); simp only [Nat.add_zero]; rw [hc]; rfl) (fun j hj => by obtain rfl : j = 0 := (by simp at hj; omega); simpa using hf) (fun u hu => by simp at hu; subst hu; exact h1)
  have e2 := run_storeCells_at Tryd.prog b o t [v] 0 cur.toArray w hb (by simpa using ho) (fun u hu => by simp at hu; subst hu; exact h1)
  have e3 := e1.symm.trans e2
  injection e3 with e4 e5
  have e6 : w.setCell ⟨b, o, none⟩ v = w.setRow b (spl cur o [v]).toArray := by
    simp only [Nat.add_zero] at e5
    exact e5
  rw [e6]
  exact ⟨setRow_heap w b _ _ t (0, 0) hb, rfl, rfl, rfl, by simp, fun k _ hk => setRow_other w b k _ (fun e => hk (by rw [e]))⟩

theorem spl_all {cur vs : List Value} (h : vs.length = cur.length) : spl cur 0 vs = vs := by
  unfold spl; simp [h]
/-- Some cells set in an array, as build sets them. -/
theorem foldl_spl (o : Nat) (vs : Array Value) (z : Array Value) (h : o + vs.size ≤ z.size) : vs.zipIdx.foldl (fun cs (x : Value × Nat) => cs.setIfInBounds (o + x.2) x.1) z = (spl z.toList o vs.toList).toArray := by
  obtain ⟨h1, h2⟩ := Go.Great.foldl_set o vs.toList 0 z
  have e : vs.zipIdx.foldl (fun cs (x : Value × Nat) => cs.setIfInBounds (o + x.2) x.1) z = (vs.toList.zipIdx 0).foldl (fun cs (x : Value × Nat) => cs.setIfInBounds (o + x.2) x.1) z := by
    rw [← Array.foldl_toList, Array.toList_zipIdx]
  rw [e]
  apply Array.ext_getElem?
  intro k
  have hl1 : (z.toList.take o).length = o := by rw [List.length_take, Array.length_toList]; omega
  have e3 : ∀ l : List Value, l.toArray[k]? = l[k]? := fun l => by simp
  rw [h2 k, e3 (spl z.toList o vs.toList)]
  unfold spl
  simp only [Nat.add_zero, Array.length_toList]
  by_cases c1 : k < o
  · rw [if_neg (by omega), List.append_assoc, List.getElem?_append_left (by omega), List.getElem?_take, if_pos c1, Array.getElem?_toList]
  · by_cases c2 : k < o + vs.size
    · rw [if_pos (by omega), List.append_assoc, List.getElem?_append_right (by omega), hl1, List.getElem?_append_left (by rw [Array.length_toList]; omega)]
    · rw [if_neg (by omega), List.getElem?_append_right (l₁ := z.toList.take o ++ vs.toList) (by rw [List.length_append, hl1, Array.length_toList]; omega), List.length_append, hl1, Array.length_toList, List.getElem?_drop, Array.getElem?_toList]
      congr 1
      omega
theorem fill_step (place : Nat → Option (Nat × Nat)) (z : Array Value) (i o : Nat) (v : Value) (rest : List (Nat × Value)) (hp : place i = some (o, v.cells.size)) (h : o + v.cells.size ≤ z.size) :
    Instr.fill place z ((i, v) :: rest) = Instr.fill place (spl z.toList o v.cells.toList).toArray rest := by
  rw [Instr.fill]
  simp only [hp]
  rw [if_neg (by simp; omega), ← foldl_spl o v.cells z h]
end
/-- write{k, x} as a value. -/
theorem build_write (u v : Value) (hu : u.cells.size = 1) (hv : v.cells.size = 32) (w : World) : (Instr.build 109 #[(0, u), (1, v)]).run Tryd.prog w = .ok (.agg (u.cells ++ v.cells)) w := by
  refine run_build w _ _ _ ?_
  have e : Tryd.prog.built 109 [(0, u), (1, v)] = Instr.fill ((#[(0, 1), (1, 32)] : Array (Nat × Nat))[·]?) (Value.int .i64 0 :: List.replicate 32 (Value.int .u8 0)).toArray [(0, u), (1, v)] := by kernel_rfl
  refine e.trans ?_
  generalize hU : u.cells = U at hu
  generalize hV : v.cells = V at hv
  obtain ⟨x, rfl⟩ : ∃ x, U = #[x] := ⟨U[0]'(by omega), by
    apply Array.ext
    · simpa using hu
    · intro i h1 h2
      obtain rfl : i = 0 := by simp at h2; omega
      rfl⟩
  rw [fill_step _ _ 0 0 _ _ (by rw [hU]; rfl) (by rw [hU]; simp), fill_step _ _ 1 1 _ _ (by rw [hV, hv]; rfl) (by rw [hU, hV]; simp [spl, hv]), Instr.fill, hU, hV]
  congr 1
  have e2 : spl (Value.int .i64 0 :: List.replicate 32 (Value.int .u8 0)) 0 [x] = [x] ++ List.replicate 32 (Value.int .u8 0) ++ [] := rfl
  have e3 := spl_mid (A := [x]) (X := List.replicate 32 (Value.int .u8 0)) (C := []) (vs := V.toList) (o := 1) rfl (by simp [hv])
  apply Array.ext'
  simp only [Array.toList_append]
  rw [e2, e3]
  simp
theorem built_slice (v : Value) (hv : v.cells.size = 33) (w : World) : (Instr.buildSlice 94 1 #[(0, v)]).run Tryd.prog w = .ok (.slice (some ⟨w.heap.size, 0, none⟩) 1 1) (w.alloc (.cells v.cells 109)) := by
  have hi : (Tryd.prog.info? 109).map (fun i => (i.zero, i.size)) = some (some (.agg (Value.int .i64 0 :: List.replicate 32 (Value.int .u8 0)).toArray), 33) := by kernel_rfl
  obtain ⟨i, hi, hzz⟩ := Option.map_eq_some_iff.1 hi
  simp only [Prod.mk.injEq] at hzz
  obtain ⟨hz, hs⟩ := hzz
  refine run_buildSlice w _ _ 1 _ _ i _ Tryd.underlying94 hi hz (by rw [hs]; decide) (by rw [hs]; decide) ?_
  rw [hs]
  rw [fill_step _ _ 0 0 _ _ (by simp [hv]) (by simp [hv]), Instr.fill]
  congr 1
  rw [spl_all (by simp [hv])]
theorem wp_build_write {dst : Option Tmp} {x y : Operand} {ty : TypeId} {pos : String} {after : Array Edge} {a : Act} {w : World} {K : Act → World → Prop} {Q : Exit → Act → World → Prop} (hx : (a.eval x).cells.size = 1) (hy : (a.eval y).cells.size = 32) :
    Oper.wp Tryd.prog ⟨dst, .build 109 #[(0, x), (1, y)], ty, pos, after, none⟩ a w K Q = K (a.put dst (.agg ((a.eval x).cells ++ (a.eval y).cells))) w := by
  unfold Oper.wp execOp
  simp only [List.map_toArray, List.map_cons, List.map_nil, Sem.run_bind, build_write _ _ hx hy, Result.andThen_ok]
  simp [Oper.upon_value]
theorem exec_build_write {dst : Option Tmp} {x y : Operand} {ty : TypeId} {pos : String} {after : Array Edge} {a : Act} {w : World} (hx : (a.eval x).cells.size = 1) (hy : (a.eval y).cells.size = 32) :
    Sem.run Tryd.prog (execOp a.eval ⟨dst, .build 109 #[(0, x), (1, y)], ty, pos, after, none⟩) w = .ok (.value (.agg ((a.eval x).cells ++ (a.eval y).cells))) w := by
  unfold execOp
  simp only [List.map_toArray, List.map_cons, List.map_nil, Sem.run_bind, build_write _ _ hx hy, Result.andThen_ok]
  simp
theorem wp_built_slice {dst : Option Tmp} {x : Operand} {ty : TypeId} {pos : String} {after : Array Edge} {a : Act} {w : World} {K : Act → World → Prop} {Q : Exit → Act → World → Prop} (hx : (a.eval x).cells.size = 33) :
    Oper.wp Tryd.prog ⟨dst, .buildSlice 94 1 #[(0, x)], ty, pos, after, none⟩ a w K Q = K (a.put dst (.slice (some ⟨w.heap.size, 0, none⟩) 1 1)) (w.alloc (.cells (a.eval x).cells 109)) := by
  unfold Oper.wp execOp
  simp only [List.map_toArray, List.map_cons, List.map_nil, Sem.run_bind, built_slice _ hx, Result.andThen_ok]
  simp [Oper.upon_value]
theorem arr_at (A : Option Addr) (n c : Nat) (hn : 32 ≤ n) (w : World) : (Instr.arrayAt 92 (.slice A n c)).run Tryd.prog w = .ok (.pointer A) w := by
  have h : ¬ n < 32 := by omega
  simp [Instr.arrayAt, run_underlying Tryd.underlying92, h]
end Go.Proofs.YtiipdhmfdgbmiaaDoor
end
section
set_option linter.unusedVariables false
set_option linter.unusedSimpArgs false
namespace Go.Proofs.YtiipdhmfdgbmiaaDoor
open Go.RowKit

def inB (a n b : Int) : Bool := decide (a ≤ n ∧ n ≤ b)
theorem inB_yes {a n b : Int} (h : a ≤ n ∧ n ≤ b) : inB a n b = true := decide_eq_true h
theorem inB_no {a n b : Int} (h : ¬ (a ≤ n ∧ n ≤ b)) : inB a n b = false := decide_eq_false h
theorem suWithin_any (n a b : Int) (w : World) (hn : (-9223372036854775808 ≤ n ∧ n ≤ 9223372036854775807)) (ha : (-9223372036854775808 ≤ a ∧ a ≤ 9223372036854775807)) (hb : (-9223372036854775808 ≤ b ∧ b ≤ 9223372036854775807)) :
    Calls Tryd.prog 76 #[.int .i64 n, .int .i64 a, .int .i64 b] w fun e w' => e = .returned (.bool (inB a n b)) ∧ w' = w := by
  by_cases h1 : a ≤ n
  · by_cases h2 : n ≤ b
    · have H := Lib.hid (show inB a n b = true from inB_yes ⟨h1, h2⟩)
      go_enter Tryd.func76, Tryd.ntmps76
      go_wp2
      go_ret
      exact ⟨by rw [H.out]; rfl, rfl⟩
    · have H := Lib.hid (show inB a n b = false from inB_no (by omega))
      go_enter Tryd.func76, Tryd.ntmps76
      go_wp2
      go_ret
      exact ⟨by rw [H.out]; rfl, rfl⟩
  · have H := Lib.hid (show inB a n b = false from inB_no (by omega))
    go_enter Tryd.func76, Tryd.ntmps76
    go_wp2
    go_ret
    exact ⟨by rw [H.out]; rfl, rfl⟩
theorem suAimed_any (s : Su) (w : World) (h : Su64 s) :
    Calls Tryd.prog 78 #[.agg #[.int .i64 s.g, .int .i64 s.al, .int .i64 s.ad, .int .i64 s.ac, .int .i64 s.bl, .int .i64 s.bd, .int .i64 s.bc, .bool s.r, .int .i64 s.wi, .int .i64 s.ep, .int .i64 s.ou]] w fun e w' => e = .returned (.bool (aimB s)) ∧ Below w.heap.size w w' := by
  obtain ⟨g, al, ad, ac, bl, bd, bc, r, wi, ep, ou⟩ := s
  obtain ⟨hg, hal, had, hac, hbl, hbd, hbc, hwi, hep, hou⟩ := h
  have S0 := ss_new w ⟨g, al, ad, ac, bl, bd, bc, r, wi, ep, ou⟩ 32 (0, 0)
  dsimp only at *
  cases r
  · have H := Lib.hid (show aimB ⟨g, al, ad, ac, bl, bd, bc, false, wi, ep, ou⟩ = decide (bl = 0 ∧ bd = 0 ∧ bc = 0 ∧ wi = 0) from rfl)
    clear S0
    by_cases hz : bl = 0 ∧ bd = 0 ∧ bc = 0
    · obtain ⟨rfl, rfl, rfl⟩ := hz
      by_cases h4 : wi = 0
      · subst h4
        go_enter Tryd.func78, Tryd.ntmps78
        go_wp2
        go_ret
        exact ⟨by rw [H.out]; rfl, below1 _ _⟩
      · have H2 := Lib.hid (H.out.trans (decide_eq_false (by omega)))
        have e4 : (wi == 0) = false := by simpa using h4
        clear h4 H
        go_enter Tryd.func78, Tryd.ntmps78
        go_wp2
        go_ret
        exact ⟨by rw [H2.out]; rfl, below1 _ _⟩
    · have H2 := Lib.hid (H.out.trans (decide_eq_false (by omega)))
      have hz2 : (¬ bl = 0) ∨ (bl = 0 ∧ ¬ bd = 0) ∨ (bl = 0 ∧ bd = 0 ∧ ¬ bc = 0) := by omega
      clear hz H
      rcases hz2 with h1 | ⟨rfl, h1⟩ | ⟨rfl, rfl, h1⟩
      all_goals
        go_enter Tryd.func78, Tryd.ntmps78
        go_wp2
        go_ret
        exact ⟨by rw [H2.out]; rfl, below1 _ _⟩
  · have H := Lib.hid (show aimB ⟨g, al, ad, ac, bl, bd, bc, true, wi, ep, ou⟩ = (gCan al ad ac bl bd bc && inB 0 wi 16) from rfl)
    have HC := Lib.hid (fun W => can_any al ad ac bl bd bc W hal had hac hbl hbd hbc)
    have HW := Lib.hid (fun W => suWithin_any wi 0 16 W hwi (by omega) (by omega))
    generalize gCan al ad ac bl bd bc = can at H HC
    generalize inB 0 wi 16 = wo at H HW
    go_enter Tryd.func78, Tryd.ntmps78
    go_wp2_with fail
    (with_reducible refine (HC.out _).mono ?_); rintro e w1 ⟨rfl, hb⟩
    have S1 := S0.later hb
    clear S0 hb
    obtain ⟨⟨c0, c1, c2, c3, c4, c5, c6, c7, c8, c9, c10⟩, F, hz⟩ := S1
    dsimp only at c0 c1 c2 c3 c4 c5 c6 c7 c8 c9 c10
    cases can
    · go_wp2_with fail
      go_ret
      exact ⟨by rw [H.out]; rfl, F⟩
    · go_wp2_with fail
      (with_reducible refine (HW.out _).mono ?_); rintro e w' ⟨rfl, rfl⟩
      go_wp2_with fail
      go_ret
      exact ⟨by rw [H.out]; rfl, F⟩
set_option maxHeartbeats 1000000 in
theorem suCheck_any (s : Su) (w : World) (h : Su64 s) :
    Calls Tryd.prog 58 #[.agg #[.int .i64 s.g, .int .i64 s.al, .int .i64 s.ad, .int .i64 s.ac, .int .i64 s.bl, .int .i64 s.bd, .int .i64 s.bc, .bool s.r, .int .i64 s.wi, .int .i64 s.ep, .int .i64 s.ou]] w fun e w' => e = .returned (.int .i64 (suErr s)) ∧ Below w.heap.size w w' := by
  have S0 := ss_new w s 32 (0, 0)
  have HA := Lib.hid (fun W => suAimed_any s W h)
  have HG := Lib.hid (fun W => suWithin_any s.g 1 2147483647 W h.g (by omega) (by omega))
  have HE := Lib.hid (fun W => suWithin_any s.ep 0 65535 W h.ep (by omega) (by omega))
  have HO := Lib.hid (fun W => suWithin_any s.ou 0 255 W h.ou (by omega) (by omega))
  have H := Lib.hid (show suOk s = (inB 1 s.g 2147483647 && gOk s.al s.ad s.ac && aimB s && inB 0 s.ep 65535 && inB 0 s.ou 255) from rfl)
  have HK := Lib.hid (fun W (q : gOk s.al s.ad s.ac = true) => check_yes s.al s.ad s.ac W (Lib.hid q) h.al h.ad h.ac)
  have HN := Lib.hid (fun W (q : gOk s.al s.ad s.ac = false) => check_no s.al s.ad s.ac W (Lib.hid q) h.al h.ad h.ac)
  have Hy := Lib.hid (@suErr_yes s)
  have Hn := Lib.hid (@suErr_no s)
  generalize inB 1 s.g 2147483647 = b1 at H HG
  generalize inB 0 s.ep 65535 = b4 at H HE
  generalize inB 0 s.ou 255 = b5 at H HO
  generalize gOk s.al s.ad s.ac = b2 at H HK HN
  generalize aimB s = b3 at H HA
  clear h
  cases b1
  · have R := Lib.hid (Hn.out (H.out.trans (by simp)))
    go_enter Tryd.func58, Tryd.ntmps58
    go_wp2_with fail
    (with_reducible refine (HG.out _).mono ?_); rintro e w' ⟨rfl, rfl⟩
    go_wp2_with fail
    go_ret
    exact ⟨by rw [R.out]; rfl, below1 _ _⟩
  go_enter Tryd.func58, Tryd.ntmps58
  go_wp2_with fail
  (with_reducible refine (HG.out _).mono ?_); rintro e w' ⟨rfl, rfl⟩
  go_wp2_with fail
  cases b2
  · have R := Lib.hid (Hn.out (H.out.trans (by simp)))
    (with_reducible refine (HN.out _ rfl).mono ?_); rintro e w1 ⟨rfl, hb⟩
    have S1 := S0.later hb
    clear hb S0
    go_wp2_with fail
    go_ret
    exact ⟨by rw [R.out]; rfl, S1.2.1⟩
  (with_reducible refine (HK.out _ rfl).mono ?_); rintro e w1 ⟨rfl, hb⟩
  have S1 := S0.later hb
  clear hb S0
  have S1' := Lib.hid S1
  obtain ⟨⟨c0, c1, c2, c3, c4, c5, c6, c7, c8, c9, c10⟩, F, hz⟩ := S1
  go_wp2_with fail
  (with_reducible refine (HA.out _).mono ?_); rintro e w2 ⟨rfl, hb⟩
  have S2 := S1'.out.later hb
  clear hb S1' c0 c1 c2 c3 c4 c5 c6 c7 c8 c9 c10 F hz
  obtain ⟨⟨c0, c1, c2, c3, c4, c5, c6, c7, c8, c9, c10⟩, F, hz⟩ := S2
  cases b3
  · have R := Lib.hid (Hn.out (H.out.trans (by simp)))
    go_wp2_with fail
    go_ret
    exact ⟨by rw [R.out]; rfl, F⟩
  go_wp2_with fail
  (with_reducible refine (HE.out _).mono ?_); rintro e w' ⟨rfl, rfl⟩
  cases b4
  · have R := Lib.hid (Hn.out (H.out.trans (by simp)))
    go_wp2_with fail
    go_ret
    exact ⟨by rw [R.out]; rfl, F⟩
  go_wp2_with fail
  (with_reducible refine (HO.out _).mono ?_); rintro e w' ⟨rfl, rfl⟩
  cases b5
  · have R := Lib.hid (Hn.out (H.out.trans (by simp)))
    go_wp2_with fail
    go_ret
    exact ⟨by rw [R.out]; rfl, F⟩
  have R := Lib.hid (Hy.out (H.out.trans (by simp)))
  go_wp2_with fail
  go_ret
  exact ⟨by rw [R.out]; rfl, F⟩
theorem suCheck_yes (s : Su) (w : World) (h : Su64 s) (hk : Hid (suOk s = true)) :
    Calls Tryd.prog 58 #[.agg #[.int .i64 s.g, .int .i64 s.al, .int .i64 s.ad, .int .i64 s.ac, .int .i64 s.bl, .int .i64 s.bd, .int .i64 s.bc, .bool s.r, .int .i64 s.wi, .int .i64 s.ep, .int .i64 s.ou]] w fun e w' => e = .returned (.int .i64 0) ∧ Below w.heap.size w w' := by
  have := suCheck_any s w h
  rwa [suErr_yes hk.out] at this
theorem suCheck_no (s : Su) (w : World) (h : Su64 s) (hk : Hid (suOk s = false)) :
    Calls Tryd.prog 58 #[.agg #[.int .i64 s.g, .int .i64 s.al, .int .i64 s.ad, .int .i64 s.ac, .int .i64 s.bl, .int .i64 s.bd, .int .i64 s.bc, .bool s.r, .int .i64 s.wi, .int .i64 s.ep, .int .i64 s.ou]] w fun e w' => e = .returned (.int .i64 1) ∧ Below w.heap.size w w' := by
  have := suCheck_any s w h
  rwa [suErr_no hk.out] at this
end Go.Proofs.YtiipdhmfdgbmiaaDoor
end
