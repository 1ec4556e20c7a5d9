/- Texts put together: Dsk, DskOps, KeepCut, SyndQ, Parts, SyndOwn. -/
import Derived.Test.YtjnemopocmhfkaaDoorBbac
import Derived.Test.YtjnemopocmhfkaaDoorBbaa
import Derived.StillTailTactics
import Derived.Great.FillDense
import Derived.Great.BuildSlice
import Derived.Deep.AppendLies
import Derived.Test.YtjnemopocmhfkaaDoorBbab
import Derived.Test.YtjnemopocmhfkaaDoorBbad
section
namespace Go.Proofs.YtjnemopocmhfkaaDoor
open Go.RowKit

theorem new_at (w : World) : DskAt (w.alloc (.cells (dcells (List.replicate 1664 0) (List.replicate 1664 0) (.slice none 0 0) false).toArray 78)) w.heap.size w.heap.size (.slice none 0 0) Dsk.new :=
  ⟨heap_alloc_new _ _, World.ownsRow_nil _ _ _ _, Nat.le_refl _, by simp [Value.ownBlock], Dsk.new_ok⟩
theorem dsk_new_any (w : World) : Calls Tryd.prog 21 #[] w fun e w' => e = .returned (.pointer (some ⟨w.heap.size, 0, none⟩)) ∧ DskAt w' w.heap.size w.heap.size (.slice none 0 0) Dsk.new ∧ Below w.heap.size w w' := by
  have H := Lib.hid (new_at w)
  have hbuild := build_new
  generalize hC : dcells (List.replicate 1664 0) (List.replicate 1664 0) (.slice none 0 0) false = C at H hbuild
  clear hC
  go_enter Tryd.func21, Tryd.ntmps21
  go_wp2_with ((refine wpList_build_run rfl 78 #[] (by rfl) #[] (by simp) (.agg C.toArray) (hbuild _) ?_))
  go_ret
  exact ⟨rfl, H.out, below1 _ _⟩
section
variable (B b : Nat) (pv : Value) (D : Dsk) (w : World) (h : DskAt w B b pv D)
include h
theorem dsk_pending_any : Calls Tryd.prog 38 #[.pointer (some ⟨b, 0, none⟩)] w fun e w' => e = .returned (.int .i64 (D.ps.length : Int)) ∧ w' = w := by
  have hc := cell_dpv h.blk h.ok.S h.ok.now
  have hv : ∃ A c, pv = .slice A D.ps.length c := by
    rcases h.own.2 with ⟨h1, h2⟩ | ⟨g, cap, cur, h1, _⟩
    · exact ⟨none, 0, by rw [h2]; exact h1⟩
    · exact ⟨_, _, h1⟩
  obtain ⟨A, c, rfl⟩ := hv
  clear h
  go_enter Tryd.func38, Tryd.ntmps38
  go_wp2
  go_ret
  exact ⟨rfl, rfl⟩
/-- The error of a call on sector k. -/
def reachE (f : Bool) (k : Int) : Int := if f = true then 5 else if k < 0 ∨ 52 ≤ k then 4 else 0
theorem dsk_reach_any (k : Int) (hk : -9223372036854775808 ≤ k ∧ k ≤ 9223372036854775807) : Calls Tryd.prog 48 #[.pointer (some ⟨b, 0, none⟩), .int .i64 k] w fun e w' => e = .returned (.int .i64 (reachE D.f k)) ∧ w' = w := by
  have hc := cell_df h.blk h.ok.S h.ok.now
  have HE : Hid (reachE D.f k = if D.f = true then 5 else if k < 0 ∨ 52 ≤ k then 4 else 0) := rfl
  clear h
  generalize D.f = f at hc HE ⊢
  generalize reachE f k = E at HE ⊢
  cases f
  · by_cases h1 : k < 0
    · have HE2 := Lib.hid (show E = 4 by rw [HE.out, if_neg (by simp), if_pos (.inl h1)])
      clear HE
      go_enter Tryd.func48, Tryd.ntmps48
      go_wp2
      go_ret
      exact ⟨by rw [HE2.out]; rfl, rfl⟩
    · by_cases h2 : 52 ≤ k
      · have HE2 := Lib.hid (show E = 4 by rw [HE.out, if_neg (by simp), if_pos (.inr h2)])
        clear HE
        go_enter Tryd.func48, Tryd.ntmps48
        go_wp2
        go_ret
        exact ⟨by rw [HE2.out]; rfl, rfl⟩
      · have HE2 := Lib.hid (show E = 0 by rw [HE.out, if_neg (by simp), if_neg (by omega)])
        clear HE
        go_enter Tryd.func48, Tryd.ntmps48
        go_wp2
        go_ret
        exact ⟨by rw [HE2.out]; rfl, rfl⟩
  · have HE2 := Lib.hid (show E = 5 by rw [HE.out, if_pos rfl])
    clear HE
    go_enter Tryd.func48, Tryd.ntmps48
    go_wp2
    go_ret
    exact ⟨by rw [HE2.out]; rfl, rfl⟩
/-- The error of a call that sets sector k to n bytes. -/
def takeE (f : Bool) (k : Int) (n : Nat) : Int := if reachE f k ≠ 0 then reachE f k else if n ≠ 32 then 1 else 0
theorem dsk_take_any (k : Int) (A : Option Addr) (n c : Nat) (hk : -9223372036854775808 ≤ k ∧ k ≤ 9223372036854775807) (hn : n ≤ 140737488355328) :
    Calls Tryd.prog 58 #[.pointer (some ⟨b, 0, none⟩), .int .i64 k, .slice A n c] w fun e w' => e = .returned (.int .i64 (takeE D.f k n)) ∧ w' = w := by
  have C := Lib.hid (dsk_reach_any B b pv D w h k hk)
  have HE : Hid (takeE D.f k n = if reachE D.f k ≠ 0 then reachE D.f k else if n ≠ 32 then 1 else 0) := rfl
  clear h
  generalize takeE D.f k n = E at HE ⊢
  generalize reachE D.f k = R at HE C
  by_cases h1 : R = 0
  · subst h1
    by_cases h2 : n = 32
    · have HE2 := Lib.hid (show E = 0 by rw [HE.out, if_neg (by simp), if_neg (by simp [h2])])
      have e2 : ((n : Int) != 32) = false := by subst h2; rfl
      clear HE h2
      go_enter Tryd.func58, Tryd.ntmps58
      go_wp2_with fail
      refine C.out.mono ?_
      rintro e w' ⟨rfl, rfl⟩
      go_wp2
      go_ret
      exact ⟨by rw [HE2.out]; rfl, rfl⟩
    · have HE2 := Lib.hid (show E = 1 by rw [HE.out, if_neg (by simp), if_pos h2])
      have e2 : ((n : Int) != 32) = true := by rw [bne_iff_ne]; omega
      clear HE h2
      go_enter Tryd.func58, Tryd.ntmps58
      go_wp2_with fail
      refine C.out.mono ?_
      rintro e w' ⟨rfl, rfl⟩
      go_wp2
      go_ret
      exact ⟨by rw [HE2.out]; rfl, rfl⟩
  · have HE2 := Lib.hid (show E = R by rw [HE.out, if_pos h1])
    have e2 : (R != 0) = true := by rw [bne_iff_ne]; exact h1
    clear HE h1
    go_enter Tryd.func58, Tryd.ntmps58
    go_wp2_with fail
    refine C.out.mono ?_
    rintro e w' ⟨rfl, rfl⟩
    go_wp2
    go_ret
    exact ⟨by rw [HE2.out]; rfl, rfl⟩
end
end Go.Proofs.YtjnemopocmhfkaaDoor
end
section
set_option maxRecDepth 8000
namespace Go.Proofs.YtjnemopocmhfkaaDoor
open Go.RowKit

theorem range_heap {w w' : World} {b o : Nat} {cs : List Value} (h : w.rangeAt b o cs) (hb : w'.heap[b]? = w.heap[b]?) : w'.rangeAt b o cs := fun j v hj => (World.cell?_of_block (a := ⟨b, o + j, none⟩) hb).trans (h j v hj)
section
variable {P : Program}
theorem wpStill_load_mid {ops : Array Oper} {rest : List Oper} {op : Oper} {a : Act} {w : World} {Q : Act → Prop} (hgd : op.guard = none) (ty : TypeId) (x : Operand) (ho : op.op = .load ty x)
    (b o : Nat) (hx : a.eval x = .pointer (some ⟨b, o, none⟩)) (cs : List Value) (d : TypeDesc) (hc : w.rangeAt b o cs) (hu : P.underlying ty = some d) (hd : d.isRow = true) (hi : (P.info? ty).map (·.size) = some cs.length)
    (h : wpStill P ops w Q rest (a.put op.dst (.agg cs.toArray))) : wpStill P ops w Q (op :: rest) a := by
  refine wpStill_step (fun K hK => ?_)
  rw [if_pos (by simp [Region.wanted, hgd])]
  unfold Oper.still execOp
  simp only [ho, hx, Instr.loadAt, Instr.sureAddr, Sem.run_bind, Sem.run_pure, Result.andThen_ok, run_loadVar_mid w b o ty cs d hc hu hd hi]
  exact ⟨rfl, hK _ h⟩
theorem spl_all {cur vs : List Value} (h : vs.length = cur.length) : spl cur 0 vs = vs := by
  unfold spl; simp [h]
/-- Some cells set in an array, as build sets them. -/
theorem foldl_spl (o : Nat) (vs : Array Value) (z : Array Value) (h : o + vs.size ≤ z.size) : vs.zipIdx.foldl (fun cs (x : Value × Nat) => cs.setIfInBounds (o + x.2) x.1) z = (spl z.toList o vs.toList).toArray := by
  obtain ⟨h1, h2⟩ := Go.Great.foldl_set o vs.toList 0 z
  have e : vs.zipIdx.foldl (fun cs (x : Value × Nat) => cs.setIfInBounds (o + x.2) x.1) z = (vs.toList.zipIdx 0).foldl (fun cs (x : Value × Nat) => cs.setIfInBounds (o + x.2) x.1) z := by
    rw [← Array.foldl_toList, Array.toList_zipIdx]
  rw [e]
  apply Array.ext_getElem?
  intro k
  have hl1 : (z.toList.take o).length = o := by rw [List.length_take, Array.length_toList]; omega
  have e3 : ∀ l : List Value, l.toArray[k]? = l[k]? := fun l => by simp
  rw [h2 k, e3 (spl z.toList o vs.toList)]
  unfold spl
  simp only [Nat.add_zero, Array.length_toList]
  by_cases c1 : k < o
  · rw [if_neg (by omega), List.append_assoc, List.getElem?_append_left (by omega), List.getElem?_take, if_pos c1, Array.getElem?_toList]
  · by_cases c2 : k < o + vs.size
    · rw [if_pos (by omega), List.append_assoc, List.getElem?_append_right (by omega), hl1, List.getElem?_append_left (by rw [Array.length_toList]; omega)]
    · rw [if_neg (by omega), List.getElem?_append_right (l₁ := z.toList.take o ++ vs.toList) (by rw [List.length_append, hl1, Array.length_toList]; omega), List.length_append, hl1, Array.length_toList, List.getElem?_drop, Array.getElem?_toList]
      congr 1
      omega
theorem fill_step (place : Nat → Option (Nat × Nat)) (z : Array Value) (i o : Nat) (v : Value) (rest : List (Nat × Value)) (hp : place i = some (o, v.cells.size)) (h : o + v.cells.size ≤ z.size) :
    Instr.fill place z ((i, v) :: rest) = Instr.fill place (spl z.toList o v.cells.toList).toArray rest := by
  rw [Instr.fill]
  simp only [hp]
  rw [if_neg (by simp; omega), ← foldl_spl o v.cells z h]
end
/-- write{k, x} as a value. -/
theorem build_write (u v : Value) (hu : u.cells.size = 1) (hv : v.cells.size = 32) (w : World) : (Instr.build 92 #[(0, u), (1, v)]).run Tryd.prog w = .ok (.agg (u.cells ++ v.cells)) w := by
  refine run_build w _ _ _ ?_
  have e : Tryd.prog.built 92 [(0, u), (1, v)] = Instr.fill ((#[(0, 1), (1, 32)] : Array (Nat × Nat))[·]?) (Value.int .i64 0 :: List.replicate 32 (Value.int .u8 0)).toArray [(0, u), (1, v)] := by kernel_rfl
  refine e.trans ?_
  generalize hU : u.cells = U at hu
  generalize hV : v.cells = V at hv
  obtain ⟨x, rfl⟩ : ∃ x, U = #[x] := ⟨U[0]'(by omega), by
    apply Array.ext
    · simpa using hu
    · intro i h1 h2
      obtain rfl : i = 0 := by simp at h2; omega
      rfl⟩
  rw [fill_step _ _ 0 0 _ _ (by rw [hU]; rfl) (by rw [hU]; simp), fill_step _ _ 1 1 _ _ (by rw [hV, hv]; rfl) (by rw [hU, hV]; simp [spl, hv]), Instr.fill, hU, hV]
  congr 1
  have e2 : spl (Value.int .i64 0 :: List.replicate 32 (Value.int .u8 0)) 0 [x] = [x] ++ List.replicate 32 (Value.int .u8 0) ++ [] := rfl
  have e3 := spl_mid (A := [x]) (X := List.replicate 32 (Value.int .u8 0)) (C := []) (vs := V.toList) (o := 1) rfl (by simp [hv])
  apply Array.ext'
  simp only [Array.toList_append]
  rw [e2, e3]
  simp
theorem built_slice (v : Value) (hv : v.cells.size = 33) (w : World) : (Instr.buildSlice 76 1 #[(0, v)]).run Tryd.prog w = .ok (.slice (some ⟨w.heap.size, 0, none⟩) 1 1) (w.alloc (.cells v.cells 92)) := by
  have hi : (Tryd.prog.info? 92).map (fun i => (i.zero, i.size)) = some (some (.agg (Value.int .i64 0 :: List.replicate 32 (Value.int .u8 0)).toArray), 33) := by kernel_rfl
  obtain ⟨i, hi, hzz⟩ := Option.map_eq_some_iff.1 hi
  simp only [Prod.mk.injEq] at hzz
  obtain ⟨hz, hs⟩ := hzz
  refine run_buildSlice w _ _ 1 _ _ i _ Tryd.underlying76 hi hz (by rw [hs]; decide) (by rw [hs]; decide) ?_
  rw [hs]
  rw [fill_step _ _ 0 0 _ _ (by simp [hv]) (by simp [hv]), Instr.fill]
  congr 1
  rw [spl_all (by simp [hv])]
theorem wp_build_write {dst : Option Tmp} {x y : Operand} {ty : TypeId} {pos : String} {after : Array Edge} {a : Act} {w : World} {K : Act → World → Prop} {Q : Exit → Act → World → Prop} (hx : (a.eval x).cells.size = 1) (hy : (a.eval y).cells.size = 32) :
    Oper.wp Tryd.prog ⟨dst, .build 92 #[(0, x), (1, y)], ty, pos, after, none⟩ a w K Q = K (a.put dst (.agg ((a.eval x).cells ++ (a.eval y).cells))) w := by
  unfold Oper.wp execOp
  simp only [List.map_toArray, List.map_cons, List.map_nil, Sem.run_bind, build_write _ _ hx hy, Result.andThen_ok]
  simp [Oper.upon_value]
theorem exec_build_write {dst : Option Tmp} {x y : Operand} {ty : TypeId} {pos : String} {after : Array Edge} {a : Act} {w : World} (hx : (a.eval x).cells.size = 1) (hy : (a.eval y).cells.size = 32) :
    Sem.run Tryd.prog (execOp a.eval ⟨dst, .build 92 #[(0, x), (1, y)], ty, pos, after, none⟩) w = .ok (.value (.agg ((a.eval x).cells ++ (a.eval y).cells))) w := by
  unfold execOp
  simp only [List.map_toArray, List.map_cons, List.map_nil, Sem.run_bind, build_write _ _ hx hy, Result.andThen_ok]
  simp
theorem wp_built_slice {dst : Option Tmp} {x : Operand} {ty : TypeId} {pos : String} {after : Array Edge} {a : Act} {w : World} {K : Act → World → Prop} {Q : Exit → Act → World → Prop} (hx : (a.eval x).cells.size = 33) :
    Oper.wp Tryd.prog ⟨dst, .buildSlice 76 1 #[(0, x)], ty, pos, after, none⟩ a w K Q = K (a.put dst (.slice (some ⟨w.heap.size, 0, none⟩) 1 1)) (w.alloc (.cells (a.eval x).cells 92)) := by
  unfold Oper.wp execOp
  simp only [List.map_toArray, List.map_cons, List.map_nil, Sem.run_bind, built_slice _ hx, Result.andThen_ok]
  simp [Oper.upon_value]
theorem arr_at (A : Option Addr) (n c : Nat) (hn : 32 ≤ n) (w : World) : (Instr.arrayAt 74 (.slice A n c)).run Tryd.prog w = .ok (.pointer A) w := by
  have h : ¬ n < 32 := by omega
  simp [Instr.arrayAt, run_underlying Tryd.underlying74, h]
end Go.Proofs.YtjnemopocmhfkaaDoor
end
section
namespace Go.Proofs.YtjnemopocmhfkaaDoor
open Go.RowKit

end Go.Proofs.YtjnemopocmhfkaaDoor
end
section
set_option maxRecDepth 20000
namespace Go.Proofs.YtjnemopocmhfkaaDoor
open Go.RowKit

end Go.Proofs.YtjnemopocmhfkaaDoor
end
section
namespace Go.Proofs.YtjnemopocmhfkaaDoor
open Go.RowKit

theorem info_row : (Tryd.prog.info? 48).map (fun i => (i.zero, i.size, i.bytes)) = some (some (.slice none 0 0), 1, 24) := by kernel_rfl
theorem OwB.addr_ob {e : TypeId} {w : World} {B : Nat} {A : Option Addr} {n c : Nat} {bs : List UInt8} (h : OwB e w B (.slice A n c) bs) (hp : 0 < bs.length) : ∀ a, A = some a → B ≤ a.block := fun a ha => by
  obtain ⟨g, cap, hv, hB, _⟩ := h.pos hp
  injection hv with h1 _ _
  rw [ha] at h1
  injection h1 with h1
  subst h1
  exact hB
end Go.Proofs.YtjnemopocmhfkaaDoor
end
section
namespace Go.Proofs.YtjnemopocmhfkaaDoor
open Go.RowKit

end Go.Proofs.YtjnemopocmhfkaaDoor
end
