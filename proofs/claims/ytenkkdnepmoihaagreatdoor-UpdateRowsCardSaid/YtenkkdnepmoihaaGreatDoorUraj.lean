/- Texts put together: Dsk, DskOps, DskWrite, DskRest, DskRow, DskAll, MakeS. -/
import Derived.Test.YtenkkdnepmoihaaGreatDoorUrai
import Derived.Test.YtenkkdnepmoihaaGreatDoorUrah
import Derived.StillTailTactics
import Derived.Great.FillDense
import Derived.Great.BuildSlice
import Derived.Deep.AppendLies
import Derived.Deep.DrawnRows
import Derived.Test.YtenkkdnepmoihaaGreatDoorUrad
import Derived.Test.YtenkkdnepmoihaaGreatDoorUraa
import Derived.Test.YtenkkdnepmoihaaGreatDoorUrab
section
namespace Go.Proofs.YtenkkdnepmoihaaGreatDoor
open Go.RowKit

theorem new_at (w : World) : DskAt (w.alloc (.cells (dcells (List.replicate 1664 0) (List.replicate 1664 0) (.slice none 0 0) false).toArray 116)) w.heap.size w.heap.size (.slice none 0 0) Dsk.new :=
  ⟨heap_alloc_new _ _, World.ownsRow_nil _ _ _ _, Nat.le_refl _, by simp [Value.ownBlock], Dsk.new_ok⟩
theorem dsk_new_any (w : World) : Calls Tryz.prog 72 #[] w fun e w' => e = .returned (.pointer (some ⟨w.heap.size, 0, none⟩)) ∧ DskAt w' w.heap.size w.heap.size (.slice none 0 0) Dsk.new ∧ Below w.heap.size w w' := by
  have H := Lib.hid (new_at w)
  have hbuild := build_new
  generalize hC : dcells (List.replicate 1664 0) (List.replicate 1664 0) (.slice none 0 0) false = C at H hbuild
  clear hC
  go_enter Tryz.func72, Tryz.ntmps72
  go_wp2_with ((refine wpList_build_run rfl 116 #[] (by rfl) #[] (by simp) (.agg C.toArray) (hbuild _) ?_))
  go_ret
  exact ⟨rfl, H.out, below1 _ _⟩
section
variable (B b : Nat) (pv : Value) (D : Dsk) (w : World) (h : DskAt w B b pv D)
include h
theorem dsk_failed_any : Calls Tryz.prog 115 #[.pointer (some ⟨b, 0, none⟩)] w fun e w' => e = .returned (.bool D.f) ∧ w' = w := by
  have hc := cell_df h.blk h.ok.S h.ok.now
  clear h
  go_enter Tryz.func115, Tryz.ntmps115
  go_wp2
  go_ret
  exact ⟨rfl, rfl⟩
/-- The error of a call on sector k. -/
def reachE (f : Bool) (k : Int) : Int := if f = true then 5 else if k < 0 ∨ 52 ≤ k then 4 else 0
theorem dsk_reach_any (k : Int) (hk : -9223372036854775808 ≤ k ∧ k ≤ 9223372036854775807) : Calls Tryz.prog 103 #[.pointer (some ⟨b, 0, none⟩), .int .i64 k] w fun e w' => e = .returned (.int .i64 (reachE D.f k)) ∧ w' = w := by
  have hc := cell_df h.blk h.ok.S h.ok.now
  have HE : Hid (reachE D.f k = if D.f = true then 5 else if k < 0 ∨ 52 ≤ k then 4 else 0) := rfl
  clear h
  generalize D.f = f at hc HE ⊢
  generalize reachE f k = E at HE ⊢
  cases f
  · by_cases h1 : k < 0
    · have HE2 := Lib.hid (show E = 4 by rw [HE.out, if_neg (by simp), if_pos (.inl h1)])
      clear HE
      go_enter Tryz.func103, Tryz.ntmps103
      go_wp2
      go_ret
      exact ⟨by rw [HE2.out]; rfl, rfl⟩
    · by_cases h2 : 52 ≤ k
      · have HE2 := Lib.hid (show E = 4 by rw [HE.out, if_neg (by simp), if_pos (.inr h2)])
        clear HE
        go_enter Tryz.func103, Tryz.ntmps103
        go_wp2
        go_ret
        exact ⟨by rw [HE2.out]; rfl, rfl⟩
      · have HE2 := Lib.hid (show E = 0 by rw [HE.out, if_neg (by simp), if_neg (by omega)])
        clear HE
        go_enter Tryz.func103, Tryz.ntmps103
        go_wp2
        go_ret
        exact ⟨by rw [HE2.out]; rfl, rfl⟩
  · have HE2 := Lib.hid (show E = 5 by rw [HE.out, if_pos rfl])
    clear HE
    go_enter Tryz.func103, Tryz.ntmps103
    go_wp2
    go_ret
    exact ⟨by rw [HE2.out]; rfl, rfl⟩
/-- The error of a call that sets sector k to n bytes. -/
def takeE (f : Bool) (k : Int) (n : Nat) : Int := if reachE f k ≠ 0 then reachE f k else if n ≠ 32 then 1 else 0
theorem dsk_take_any (k : Int) (A : Option Addr) (n c : Nat) (hk : -9223372036854775808 ≤ k ∧ k ≤ 9223372036854775807) (hn : n ≤ 140737488355328) :
    Calls Tryz.prog 107 #[.pointer (some ⟨b, 0, none⟩), .int .i64 k, .slice A n c] w fun e w' => e = .returned (.int .i64 (takeE D.f k n)) ∧ w' = w := by
  have C := Lib.hid (dsk_reach_any B b pv D w h k hk)
  have HE : Hid (takeE D.f k n = if reachE D.f k ≠ 0 then reachE D.f k else if n ≠ 32 then 1 else 0) := rfl
  clear h
  generalize takeE D.f k n = E at HE ⊢
  generalize reachE D.f k = R at HE C
  by_cases h1 : R = 0
  · subst h1
    by_cases h2 : n = 32
    · have HE2 := Lib.hid (show E = 0 by rw [HE.out, if_neg (by simp), if_neg (by simp [h2])])
      have e2 : ((n : Int) != 32) = false := by subst h2; rfl
      clear HE h2
      go_enter Tryz.func107, Tryz.ntmps107
      go_wp2_with fail
      refine C.out.mono ?_
      rintro e w' ⟨rfl, rfl⟩
      go_wp2
      go_ret
      exact ⟨by rw [HE2.out]; rfl, rfl⟩
    · have HE2 := Lib.hid (show E = 1 by rw [HE.out, if_neg (by simp), if_pos h2])
      have e2 : ((n : Int) != 32) = true := by rw [bne_iff_ne]; omega
      clear HE h2
      go_enter Tryz.func107, Tryz.ntmps107
      go_wp2_with fail
      refine C.out.mono ?_
      rintro e w' ⟨rfl, rfl⟩
      go_wp2
      go_ret
      exact ⟨by rw [HE2.out]; rfl, rfl⟩
  · have HE2 := Lib.hid (show E = R by rw [HE.out, if_pos h1])
    have e2 : (R != 0) = true := by rw [bne_iff_ne]; exact h1
    clear HE h1
    go_enter Tryz.func107, Tryz.ntmps107
    go_wp2_with fail
    refine C.out.mono ?_
    rintro e w' ⟨rfl, rfl⟩
    go_wp2
    go_ret
    exact ⟨by rw [HE2.out]; rfl, rfl⟩
end
end Go.Proofs.YtenkkdnepmoihaaGreatDoor
end
section
set_option maxRecDepth 8000
namespace Go.Proofs.YtenkkdnepmoihaaGreatDoor
open Go.RowKit

theorem range_heap {w w' : World} {b o : Nat} {cs : List Value} (h : w.rangeAt b o cs) (hb : w'.heap[b]? = w.heap[b]?) : w'.rangeAt b o cs := fun j v hj => (World.cell?_of_block (a := ⟨b, o + j, none⟩) hb).trans (h j v hj)
section
variable {P : Program}
theorem wpStill_load_mid {ops : Array Oper} {rest : List Oper} {op : Oper} {a : Act} {w : World} {Q : Act → Prop} (hgd : op.guard = none) (ty : TypeId) (x : Operand) (ho : op.op = .load ty x)
    (b o : Nat) (hx : a.eval x = .pointer (some ⟨b, o, none⟩)) (cs : List Value) (d : TypeDesc) (hc : w.rangeAt b o cs) (hu : P.underlying ty = some d) (hd : d.isRow = true) (hi : (P.info? ty).map (·.size) = some cs.length)
    (h : wpStill P ops w Q rest (a.put op.dst (.agg cs.toArray))) : wpStill P ops w Q (op :: rest) a := by
  refine wpStill_step (fun K hK => ?_)
  rw [if_pos (by simp [Region.wanted, hgd])]
  unfold Oper.still execOp
  simp only [ho, hx, Instr.loadAt, Instr.sureAddr, Sem.run_bind, Sem.run_pure, Result.andThen_ok, run_loadVar_mid w b o ty cs d hc hu hd hi]
  exact ⟨rfl, hK _ h⟩
theorem spl_all {cur vs : List Value} (h : vs.length = cur.length) : spl cur 0 vs = vs := by
  unfold spl; simp [h]
/-- Some cells set in an array, as build sets them. -/
theorem foldl_spl (o : Nat) (vs : Array Value) (z : Array Value) (h : o + vs.size ≤ z.size) : vs.zipIdx.foldl (fun cs (x : Value × Nat) => cs.setIfInBounds (o + x.2) x.1) z = (spl z.toList o vs.toList).toArray := by
  obtain ⟨h1, h2⟩ := Go.Great.foldl_set o vs.toList 0 z
  have e : vs.zipIdx.foldl (fun cs (x : Value × Nat) => cs.setIfInBounds (o + x.2) x.1) z = (vs.toList.zipIdx 0).foldl (fun cs (x : Value × Nat) => cs.setIfInBounds (o + x.2) x.1) z := by
    rw [← Array.foldl_toList, Array.toList_zipIdx]
  rw [e]
  apply Array.ext_getElem?
  intro k
  have hl1 : (z.toList.take o).length = o := by rw [List.length_take, Array.length_toList]; omega
  have e3 : ∀ l : List Value, l.toArray[k]? = l[k]? := fun l => by simp
  rw [h2 k, e3 (spl z.toList o vs.toList)]
  unfold spl
  simp only [Nat.add_zero, Array.length_toList]
  by_cases c1 : k < o
  · rw [if_neg (by omega), List.append_assoc, List.getElem?_append_left (by omega), List.getElem?_take, if_pos c1, Array.getElem?_toList]
  · by_cases c2 : k < o + vs.size
    · rw [if_pos (by omega), List.append_assoc, List.getElem?_append_right (by omega), hl1, List.getElem?_append_left (by rw [Array.length_toList]; omega)]
    · rw [if_neg (by omega), List.getElem?_append_right (l₁ := z.toList.take o ++ vs.toList) (by rw [List.length_append, hl1, Array.length_toList]; omega), List.length_append, hl1, Array.length_toList, List.getElem?_drop, Array.getElem?_toList]
      congr 1
      omega
theorem fill_step (place : Nat → Option (Nat × Nat)) (z : Array Value) (i o : Nat) (v : Value) (rest : List (Nat × Value)) (hp : place i = some (o, v.cells.size)) (h : o + v.cells.size ≤ z.size) :
    Instr.fill place z ((i, v) :: rest) = Instr.fill place (spl z.toList o v.cells.toList).toArray rest := by
  rw [Instr.fill]
  simp only [hp]
  rw [if_neg (by simp; omega), ← foldl_spl o v.cells z h]
end
/-- write{k, x} as a value. -/
theorem build_write (u v : Value) (hu : u.cells.size = 1) (hv : v.cells.size = 32) (w : World) : (Instr.build 124 #[(0, u), (1, v)]).run Tryz.prog w = .ok (.agg (u.cells ++ v.cells)) w := by
  refine run_build w _ _ _ ?_
  have e : Tryz.prog.built 124 [(0, u), (1, v)] = Instr.fill ((#[(0, 1), (1, 32)] : Array (Nat × Nat))[·]?) (Value.int .i64 0 :: List.replicate 32 (Value.int .u8 0)).toArray [(0, u), (1, v)] := by kernel_rfl
  refine e.trans ?_
  generalize hU : u.cells = U at hu
  generalize hV : v.cells = V at hv
  obtain ⟨x, rfl⟩ : ∃ x, U = #[x] := ⟨U[0]'(by omega), by
    apply Array.ext
    · simpa using hu
    · intro i h1 h2
      obtain rfl : i = 0 := by simp at h2; omega
      rfl⟩
  rw [fill_step _ _ 0 0 _ _ (by rw [hU]; rfl) (by rw [hU]; simp), fill_step _ _ 1 1 _ _ (by rw [hV, hv]; rfl) (by rw [hU, hV]; simp [spl, hv]), Instr.fill, hU, hV]
  congr 1
  have e2 : spl (Value.int .i64 0 :: List.replicate 32 (Value.int .u8 0)) 0 [x] = [x] ++ List.replicate 32 (Value.int .u8 0) ++ [] := rfl
  have e3 := spl_mid (A := [x]) (X := List.replicate 32 (Value.int .u8 0)) (C := []) (vs := V.toList) (o := 1) rfl (by simp [hv])
  apply Array.ext'
  simp only [Array.toList_append]
  rw [e2, e3]
  simp
theorem built_slice (v : Value) (hv : v.cells.size = 33) (w : World) : (Instr.buildSlice 114 1 #[(0, v)]).run Tryz.prog w = .ok (.slice (some ⟨w.heap.size, 0, none⟩) 1 1) (w.alloc (.cells v.cells 124)) := by
  have hi : (Tryz.prog.info? 124).map (fun i => (i.zero, i.size)) = some (some (.agg (Value.int .i64 0 :: List.replicate 32 (Value.int .u8 0)).toArray), 33) := by kernel_rfl
  obtain ⟨i, hi, hzz⟩ := Option.map_eq_some_iff.1 hi
  simp only [Prod.mk.injEq] at hzz
  obtain ⟨hz, hs⟩ := hzz
  refine run_buildSlice w _ _ 1 _ _ i _ Tryz.underlying114 hi hz (by rw [hs]; decide) (by rw [hs]; decide) ?_
  rw [hs]
  rw [fill_step _ _ 0 0 _ _ (by simp [hv]) (by simp [hv]), Instr.fill]
  congr 1
  rw [spl_all (by simp [hv])]
theorem wp_build_write {dst : Option Tmp} {x y : Operand} {ty : TypeId} {pos : String} {after : Array Edge} {a : Act} {w : World} {K : Act → World → Prop} {Q : Exit → Act → World → Prop} (hx : (a.eval x).cells.size = 1) (hy : (a.eval y).cells.size = 32) :
    Oper.wp Tryz.prog ⟨dst, .build 124 #[(0, x), (1, y)], ty, pos, after, none⟩ a w K Q = K (a.put dst (.agg ((a.eval x).cells ++ (a.eval y).cells))) w := by
  unfold Oper.wp execOp
  simp only [List.map_toArray, List.map_cons, List.map_nil, Sem.run_bind, build_write _ _ hx hy, Result.andThen_ok]
  simp [Oper.upon_value]
theorem exec_build_write {dst : Option Tmp} {x y : Operand} {ty : TypeId} {pos : String} {after : Array Edge} {a : Act} {w : World} (hx : (a.eval x).cells.size = 1) (hy : (a.eval y).cells.size = 32) :
    Sem.run Tryz.prog (execOp a.eval ⟨dst, .build 124 #[(0, x), (1, y)], ty, pos, after, none⟩) w = .ok (.value (.agg ((a.eval x).cells ++ (a.eval y).cells))) w := by
  unfold execOp
  simp only [List.map_toArray, List.map_cons, List.map_nil, Sem.run_bind, build_write _ _ hx hy, Result.andThen_ok]
  simp
theorem wp_built_slice {dst : Option Tmp} {x : Operand} {ty : TypeId} {pos : String} {after : Array Edge} {a : Act} {w : World} {K : Act → World → Prop} {Q : Exit → Act → World → Prop} (hx : (a.eval x).cells.size = 33) :
    Oper.wp Tryz.prog ⟨dst, .buildSlice 114 1 #[(0, x)], ty, pos, after, none⟩ a w K Q = K (a.put dst (.slice (some ⟨w.heap.size, 0, none⟩) 1 1)) (w.alloc (.cells (a.eval x).cells 124)) := by
  unfold Oper.wp execOp
  simp only [List.map_toArray, List.map_cons, List.map_nil, Sem.run_bind, built_slice _ hx, Result.andThen_ok]
  simp [Oper.upon_value]
theorem arr_at (A : Option Addr) (n c : Nat) (hn : 32 ≤ n) (w : World) : (Instr.arrayAt 112 (.slice A n c)).run Tryz.prog w = .ok (.pointer A) w := by
  have h : ¬ n < 32 := by omega
  simp [Instr.arrayAt, run_underlying Tryz.underlying112, h]
end Go.Proofs.YtenkkdnepmoihaaGreatDoor
end
section
set_option maxRecDepth 8000
namespace Go.Proofs.YtenkkdnepmoihaaGreatDoor
open Go.RowKit

theorem size_pw : (Tryz.prog.info? 124).map (fun i => (i.zero, i.size, i.bytes)) = some (some (.agg (Value.int .i64 0 :: List.replicate 32 (Value.int .u8 0)).toArray), 33, 40) := by kernel_rfl
theorem dsk_write_end {w0 w1 w2 w3 w4 : World} {B b : Nat} {pv : Value} {D : Dsk} {k : Nat} {x : List UInt8} {o : Obj} {g cap : Nat} (h0 : DskAt w0 B b pv D) (hk : k < 52) (hx : x.length = 32) (hB1 : Below w0.heap.size w0 w1) (hg2 : w1.grownBy w2 (some b))
    (hg3 : (w2.drew.alloc o).grownBy w3 pv.ownBlock) (hat : pv.ownBlock = some g ∨ g = w2.heap.size + 1)
    (hown3 : w3.ownsRow B 124 33 (.slice (some ⟨g, 0, none⟩) (D.ps.length + 1) cap) (D.ps.length + 1) (wcells D.ps ++ wcell (k, x)))
    (hb4 : w4.heap[b]? = some (.cells (dcells D.S (putAt D.now k x) (.slice (some ⟨g, 0, none⟩) (D.ps.length + 1) cap) D.f).toArray 116 (0, 0))) (hg4 : w3.grownBy w4 (some b)) :
    DskAt w4 B b (.slice (some ⟨g, 0, none⟩) (D.ps.length + 1) cap) (D.write k x) ∧ Chg (DF b pv) w0 w4 ∧ NewOr w0 pv (.slice (some ⟨g, 0, none⟩) (D.ps.length + 1) cap) := by
  have hblt := h0.lt
  have hs1 := hB1.size
  have hs2 := hg2.size
  have hgb : g ≠ b := by
    rcases hat with h | h
    · intro e; subst e; exact h0.ne h
    · omega
  generalize hpv : Value.slice (some ⟨g, 0, none⟩) (D.ps.length + 1) cap = pv' at hown3 hb4 ⊢
  have hob : pv'.ownBlock = some g := by rw [← hpv]; rfl
  refine ⟨⟨?_, ?_, h0.le, ?_, h0.ok.write hk hx⟩, ?_, ?_⟩
  · rw [Dsk.write_now]; exact hb4
  · have : (D.write k x).ps.length = D.ps.length + 1 := by simp [Dsk.write]
    rw [this, show wcells (D.write k x).ps = wcells D.ps ++ wcell (k, x) from wcells_snoc _ _]
    exact own_heap hown3 fun j hj => by
      rw [hob] at hj; injection hj with hj; subst hj
      exact hg4.block _ (hown3.lt _ hob).2 (by intro e; injection e with e; exact hgb e)
  · rw [hob]; intro e; injection e with e; exact hgb e
  · have c1 : Chg (DF b pv) w0 w2 := (chg_below _ hB1).trans (chg_grown hg2) fun i _ e => .inl (by injection e with e; exact e.symm)
    have c2 : Chg (DF b pv) w0 w3 := ((c1.drewN 1).alloc o).trans (chg_grown hg3) fun i _ e => .inr e
    exact c2.trans (chg_grown hg4) fun i _ e => .inl (by injection e with e; exact e.symm)
  · intro j hj
    rw [hob] at hj; injection hj with hj; subst hj
    rcases hat with h | h
    · exact .inl h
    · exact .inr (by omega)
section
attribute [local go_sem ↓] wp_build_write exec_build_write wp_built_slice
set_option maxHeartbeats 800000 in
theorem dsk_write_ok (B b : Nat) (pv : Value) (D : Dsk) (k : Nat) (x : List UInt8) (A : Option Addr) (c : Nat) (w : World) (h : DskAt w B b pv D) (hf : D.f = false) (hk : k < 52) (hx : x.length = 32) (hr : RdB w w.heap.size A x) (hps : D.ps.length ≤ 2000000) :
    Calls Tryz.prog 126 #[.pointer (some ⟨b, 0, none⟩), .int .i64 (k : Int), .slice A 32 c] w fun e w' => ∃ pv', e = .returned (.int .i64 0) ∧ DskAt w' B b pv' (D.write k x) ∧ Chg (DF b pv) w w' ∧ NewOr w pv pv' := by
  have C := Lib.hid (dsk_take_any B b pv D w h (k : Int) A 32 c (by omega) (by omega))
  have hE : takeE D.f (k : Int) 32 = 0 := by
    have : reachE D.f (k : Int) = 0 := by unfold reachE; rw [hf, if_neg (by simp), if_neg (by omega)]
    unfold takeE; rw [this]; rfl
  rw [hE] at C
  obtain ⟨g, off, rfl, hg, hcells⟩ := hr.2 (by omega)
  have hra : w.rangeAt g off (x.map bv) := fun j v hj => by
    obtain ⟨hj1, rfl⟩ := List.getElem?_eq_some_iff.1 hj
    have hj2 : j < x.length := by simpa using hj1
    rw [hcells j hj2]
    simp [bv, hj2]
  have Hx := Lib.hid hx
  have Hra := Lib.hid hra
  clear hcells hra hr hE hx
  have Hh := Lib.hid h
  have harr := arr_at (some ⟨g, off, none⟩) 32 c (Nat.le_refl _)
  have k0 : (0 : Int) ≤ (k : Int) := by omega
  have k1 : (k : Int) < 52 := by omega
  clear h
  go_enter Tryz.func126, Tryz.ntmps126
  go_wp2_with fail
  refine C.out.mono ?_
  rintro e w' ⟨rfl, rfl⟩
  go_wp2_with (first
    | (refine wpList_load_mid rfl 112 _ (by rfl) g off (by rfl) (x.map bv) _ Hra.out Tryz.underlying112 rfl (by rw [List.length_map, Hx.out]; exact size_sec) ?_)
    | (refine wpList_store_blk rfl 112 _ _ (by rfl) w'.heap.size 0 (.agg (x.map bv).toArray) (by rfl) (by rfl) (List.replicate 32 (.int .u8 0)) 112 (heap_alloc_new _ _) (x.map bv) (by rfl) 32 (by rw [List.length_map, Hx.out]) size_sec (by decide) map_bv_one (x.map bv) (spl_all (by rw [List.length_map, Hx.out]; rfl)) ?_; intro w1 h1 hg1)
    | fail)
  have hB1 : Below w'.heap.size w' w1 := (below1 w' _).grown hg1 (by simp) (fun j hj => by injection hj with hj; omega)
  clear hg1
  have HD := Lib.hid (Hh.out.below hB1)
  have hG : w'.heap.size < w1.heap.size := (Array.getElem?_eq_some_iff.1 h1).1
  have hbG := Hh.out.lt
  have Hp := Lib.hid (Hh.out.plt)
  generalize hGe : w'.heap.size = G at h1 hG hbG Hp ⊢
  have HG := Lib.hid hGe
  clear hGe
  refine wp_region_still_tail 6 (by kernel_rfl) (by kernel_rfl) ?_
  simp only [List.take_succ_cons, List.take_zero, List.drop_succ_cons, List.drop_zero]
  change wpStill _ _ w1.drew _ _ _
  have hra1 : w1.drew.rangeAt G 0 (x.map bv) := fun j v hj => by rw [Nat.zero_add, cell_of_row _ _ _ _ _ _ (show w1.drew.heap[G]? = _ from h1)]; simpa using hj
  have Hra1 := Lib.hid hra1
  clear hra1
  still_step
  still_step
  refine wpStill_load_mid rfl 112 _ (by rfl) G 0 (by rfl) (x.map bv) _ Hra1.out Tryz.underlying112 rfl (by rw [List.length_map, Hx.out]; exact size_sec) ?_
  repeat still_step
  refine wpStill_nil ?_
  change wpList _ _ _ _ _ w1.drew
  have HS := Lib.hid Hh.out.ok.S
  have HN := Lib.hid Hh.out.ok.now
  refine wpList_store_blk rfl 112 _ _ (by rfl) b (1664 + k * 32) (.agg (x.map bv).toArray) (by rfl) (by rfl) (dcells D.S D.now pv D.f) 116 HD.out.blk (x.map bv) (by rfl) 32 (by rw [List.length_map, Hx.out]) size_sec (by rw [dcells_len HS.out HN.out]; omega) map_bv_one (dcells D.S (putAt D.now k x) pv D.f) (spl_Nsec HS.out HN.out hk Hx.out) ?_
  intro w2 hb2 hg2
  have hN' : (putAt D.now k x).length = 1664 := putAt_len HN.out (by omega) Hx.out
  have hc2 := cell_dpv hb2 HS.out hN'
  have hG2 : w2.heap[G]? = some (.cells (x.map bv).toArray 112 (0, 0)) := (hg2.block G hG (by intro e; injection e with e; omega)).trans h1
  have hra2 : w2.drew.rangeAt G 0 (x.map bv) := fun j v hj => by rw [Nat.zero_add, cell_of_row _ _ _ _ _ _ (show w2.drew.heap[G]? = _ from hG2)]; simpa using hj
  have hown2 : w2.ownsRow B 124 33 pv D.ps.length (wcells D.ps) := own_chg HD.out.own (chg_grown hg2).ofDrew (fun j hj e => HD.out.ne (hj.trans e.symm))
  have hsz2 := hg2.size
  have Hhb2 := Lib.hid hb2
  have Hg2 := Lib.hid (show w1.grownBy w2 (some b) from ⟨hg2.os, hg2.tape, hg2.output, hg2.size, hg2.block⟩)
  have Hown2 := Lib.hid hown2
  have Hra2 := Lib.hid hra2
  have hb2lt : b < w2.heap.size := (Array.getElem?_eq_some_iff.1 hb2).1
  clear hg2 hb2 hG2 hra2 hown2 h1
  go_wp2
  rw [show ∀ (a : Act) (v : Value), a.put none v = a from fun _ _ => rfl]
  have hu := Tryz.underlying112
  have hi : (Tryz.prog.info? 112).map (·.size) = some (x.map bv).length := by rw [List.length_map, Hx.out]; exact size_sec
  have hx32 := Hx.out
  have HO := Lib.hid (show ∀ o : Obj, (w2.drew.alloc o).ownsRow B 124 33 pv D.ps.length (wcells D.ps) from fun o => own_heap Hown2.out fun j hj => heap_alloc_old w2.drew o (Hown2.out.lt j hj).2)
  obtain ⟨iw, hiw, hzz⟩ := Option.map_eq_some_iff.1 size_pw
  simp only [Prod.mk.injEq] at hzz
  have Hzw := Lib.hid hzz.1
  have Hsw := Lib.hid hzz.2.1
  have Hbw := Lib.hid hzz.2.2
  have Hiw := Lib.hid hiw
  have HBw := Lib.hid (show B ≤ w2.heap.size by have := Hh.out.le; omega)
  have HbD := Lib.hid (show ∀ o : Obj, (w2.drew.alloc o).heap[b]? = w2.heap[b]? from fun o => heap_alloc_old w2.drew o hb2lt)
  have Hbs := Lib.hid (show ∀ o : Obj, b < (w2.drew.alloc o).heap.size from fun o => by simp; omega)
  have Hbn := Lib.hid (show some b ≠ pv.ownBlock from fun e => Hh.out.ne e.symm)
  have HGn := Lib.hid (show some G ≠ pv.ownBlock from fun e => by have := (Hp.out _ e.symm).2; omega)
  have hG2 : G < w2.heap.size := by have : w1.heap.size ≤ w2.heap.size := hsz2; omega
  have HGD := Lib.hid (show ∀ o : Obj, (w2.drew.alloc o).heap[G]? = w2.heap[G]? from fun o => heap_alloc_old w2.drew o hG2)
  have HGs := Lib.hid (show ∀ o : Obj, G < (w2.drew.alloc o).heap.size from fun o => by simp; omega)
  have Hne1 := Lib.hid (show ∀ u ∈ (Value.int .i64 (k : Int) :: x.map bv), u.oneCell' = true from fun u hu => by
    rcases List.mem_cons.1 hu with rfl | hu
    · rfl
    · exact map_bv_one u hu)
  have Hnl := Lib.hid (show (Value.int .i64 (k : Int) :: x.map bv).length = 1 * 33 by simp [Hx.out])
  have hdl := dcells_len HS.out hN' pv D.f
  have Hdl := Lib.hid hdl
  clear hzz hiw hdl hc2
  refine wp_region_noPanic (region_take 8 (fun W => W.heap[b]? = w2.heap[b]? ∧ W.heap[G]? = w2.heap[G]?) (by kernel_rfl) (by kernel_rfl) (fun _ _ _ _ _ h => h) ⟨rfl, rfl⟩ ?_)
  simp only [List.take_succ_cons, List.take_zero, List.drop_succ_cons, List.drop_zero]
  refine take_of (v := .pointer (some ⟨b, 0, none⟩)) (by rfl) (fun W hW => by go_simp) ?_
  refine take_of (v := .pointer (some ⟨b, 0, none⟩)) (by rfl) (fun W hW => by go_simp) ?_
  simp only [Act.put, List.setIfInBounds_toArray, List.set_cons_zero, List.set_cons_succ]
  refine take_of (v := .pointer (some ⟨b, 0, none⟩)) (by rfl) (fun W hW => by go_simp) ?_
  simp only [Act.put, List.setIfInBounds_toArray, List.set_cons_zero, List.set_cons_succ]
  refine take_of (v := .pointer (some ⟨b, 3328, none⟩)) (by rfl) (fun W hW => by go_simp) ?_
  simp only [Act.put, List.setIfInBounds_toArray, List.set_cons_zero, List.set_cons_succ]
  refine take_of (v := pv) (by rfl) (fun W hW => by have hc := cell_dpv (hW.1.trans Hhb2.out) HS.out hN'; go_simp) ?_
  refine take_of (v := .int .i64 (k : Int)) (by rfl) (fun W hW => by go_simp) ?_
  simp only [Act.put, List.setIfInBounds_toArray, List.set_cons_zero, List.set_cons_succ]
  refine take_mid (by rfl) 112 _ (by rfl) G 0 (by rfl) (x.map bv) _ (fun W hW => range_heap Hra2.out hW.2) hu rfl hi ?_
  simp only [Act.put, List.setIfInBounds_toArray, List.set_cons_zero, List.set_cons_succ]
  refine take_of (v := .agg (Value.int .i64 (k : Int) :: x.map bv).toArray) (by rfl) (fun W hW => by go_simp) ?_
  simp only [Act.put, List.setIfInBounds_toArray, List.set_cons_zero, List.set_cons_succ, takesE]
  refine listE_step fun K hK => ?_
  rw [if_pos (by rfl), wp_built_slice (by simp [Act.eval, Value.cells, hx32])]
  refine hK _ _ ⟨HbD.out _, HGD.out _⟩ ?_
  clear hK K
  simp only [Act.put, List.setIfInBounds_toArray, List.set_cons_zero, List.set_cons_succ]
  refine listE_step fun K hK => ?_
  refine step_append_lies _ (by rfl) _ _ _ (by rfl) B 124 iw _ 33 40 Tryz.underlying114 Hiw.out Hzw.out Hsw.out Hbw.out (by rfl) (by omega) pv D.ps.length (wcells D.ps) (by rfl) (HO.out _) ⟨w2.heap.size, 0, none⟩ 1 1 (Value.int .i64 (k : Int) :: x.map bv) (by rfl) Hnl.out (World.news_of_block (heap_alloc_new w2.drew _)) Hne1.out (by omega) (by unfold maxLen; omega) (by omega) (by simp; have := HBw.out; omega) (w2.heap.size + 1) (by simp) ?_
  intro g3 cap3 w3 hown3 hgrow3 hat3 hlt3
  have hb3 := (hgrow3.block b (Hbs.out _) Hbn.out).trans (HbD.out _)
  have hG3 := (hgrow3.block G (HGs.out _) HGn.out).trans (HGD.out _)
  refine hK _ _ ⟨hb3, hG3⟩ ?_
  clear hK K
  have Hown3 := Lib.hid hown3
  have Hgrow3 := Lib.hid hgrow3
  have Hat3 := Lib.hid hat3
  have Hb3 := Lib.hid hb3
  have HG3 := Lib.hid hG3
  clear hown3 hgrow3 hat3 hb3 hG3
  simp only [Act.put, List.setIfInBounds_toArray, List.set_cons_zero, List.set_cons_succ]
  refine listE_step fun K hK => ?_
  go_simp
  refine hK _ _ ⟨Hb3.out, HG3.out⟩ ?_
  clear hK K
  refine listE_step fun K hK => ?_
  go_simp
  refine hK _ _ ⟨Hb3.out, HG3.out⟩ ?_
  clear hK K
  refine listE_last ?_
  refine wpList_store_blk rfl 114 _ _ (by rfl) b 3328 (.slice (some ⟨g3, 0, none⟩) (D.ps.length + 1) cap3) (by rfl) (by rfl) (dcells D.S (putAt D.now k x) pv D.f) 116 (Hb3.out.trans Hhb2.out) [.slice (some ⟨g3, 0, none⟩) (D.ps.length + 1) cap3] (by rfl) 1 (by rfl) size_pend (by have := Hdl.out; omega) (by intro u hu; simp at hu; subst hu; rfl) (dcells D.S (putAt D.now k x) (.slice (some ⟨g3, 0, none⟩) (D.ps.length + 1) cap3) D.f) (spl_pv HS.out hN') ?_
  intro w4 hb4 hg4
  refine wpList_nil (NoPanic.normal ?_)
  have Hb4 := Lib.hid hb4
  have Hg4 := Lib.hid hg4
  clear hb4 hg4
  go_wp2
  go_ret
  exact ⟨_, rfl, dsk_write_end Hh.out hk Hx.out hB1 Hg2.out Hgrow3.out Hat3.out Hown3.out Hb4.out Hg4.out⟩
end
end Go.Proofs.YtenkkdnepmoihaaGreatDoor
end
section
namespace Go.Proofs.YtenkkdnepmoihaaGreatDoor
open Go.RowKit

section
variable (B b : Nat) (pv : Value) (D : Dsk) (w : World) (h : DskAt w B b pv D)
include h
theorem dsk_write_no (k : Int) (A : Option Addr) (n c : Nat) (hk : -9223372036854775808 ≤ k ∧ k ≤ 9223372036854775807) (hn : n ≤ 140737488355328) (hE : takeE D.f k n ≠ 0) :
    Calls Tryz.prog 126 #[.pointer (some ⟨b, 0, none⟩), .int .i64 k, .slice A n c] w fun e w' => e = .returned (.int .i64 (takeE D.f k n)) ∧ w' = w := by
  have C := Lib.hid (dsk_take_any B b pv D w h k A n c hk hn)
  clear h
  generalize takeE D.f k n = E at C hE ⊢
  have e2 : (E != 0) = true := by rw [bne_iff_ne]; exact hE
  clear hE
  go_enter Tryz.func126, Tryz.ntmps126
  go_wp2_with fail
  refine C.out.mono ?_
  rintro e w' ⟨rfl, rfl⟩
  go_wp2
  go_ret
  exact ⟨rfl, rfl⟩
theorem dsk_flush_no (hf : D.f = true) : Calls Tryz.prog 128 #[.pointer (some ⟨b, 0, none⟩)] w fun e w' => e = .returned (.int .i64 5) ∧ w' = w := by
  have hc := cell_df h.blk h.ok.S h.ok.now
  rw [hf] at hc
  clear h
  go_enter Tryz.func128, Tryz.ntmps128
  go_wp2
  go_ret
  exact ⟨rfl, rfl⟩
theorem dsk_flush_ok (hf : D.f = false) : Calls Tryz.prog 128 #[.pointer (some ⟨b, 0, none⟩)] w fun e w' => e = .returned (.int .i64 0) ∧ DskAt w' B b (.slice none 0 0) D.flush ∧ Chg (DF b pv) w w' := by
  have Hh := Lib.hid h
  have HS := Lib.hid h.ok.S
  have HN := Lib.hid h.ok.now
  have Hc := Lib.hid (cell_df h.blk h.ok.S h.ok.now)
  have Hr := Lib.hid (range_N h.blk h.ok.S)
  have hcf := cell_df h.blk h.ok.S h.ok.now
  rw [hf] at hcf
  clear h
  go_enter Tryz.func128, Tryz.ntmps128
  go_wp2_with (first
    | (refine wpList_load_mid rfl 113 _ (by rfl) b 1664 (by rfl) (D.now.map bv) _ Hr.out Tryz.underlying113 rfl (by rw [List.length_map, HN.out]; exact size_arr) ?_)
    | (refine wpList_store_blk rfl 113 _ _ (by rfl) b 0 (.agg (D.now.map bv).toArray) (by rfl) (by rfl) (dcells D.S D.now pv D.f) 116 Hh.out.blk (D.now.map bv) (by rfl) 1664 (by rw [List.length_map, HN.out]) size_arr (by rw [dcells_len HS.out HN.out]; omega) map_bv_one (dcells D.now D.now pv D.f) (spl_S (by rw [HS.out, HN.out])) ?_; intro w1 hb1 hg1
       have Hb1 := Lib.hid hb1
       have Hg1 := Lib.hid hg1
       clear hb1 hg1 hcf)
    | (refine wpList_store_blk rfl 114 _ _ (by rfl) b 3328 (.slice none 0 0) (by rfl) (by rfl) (dcells D.now D.now pv D.f) 116 Hb1.out [.slice none 0 0] (by rfl) 1 (by rfl) size_pend (by rw [dcells_len HN.out HN.out]; omega) (by intro u hu; simp at hu; subst hu; rfl) (dcells D.now D.now (.slice none 0 0) D.f) (spl_pv HN.out HN.out) ?_; intro w2 hb2 hg2))
  go_ret
  exact ⟨rfl, ⟨hb2, World.ownsRow_nil _ _ _ _, Hh.out.le, by simp [Value.ownBlock], Hh.out.ok.flush⟩,
    ((chg_grown Hg1.out).trans (chg_grown hg2) fun _ _ e => e).mono fun i _ e => .inl (by injection e with e; exact e.symm)⟩
theorem dsk_read_no (k : Int) (hk : -9223372036854775808 ≤ k ∧ k ≤ 9223372036854775807) (hE : reachE D.f k ≠ 0) :
    Calls Tryz.prog 69 #[.pointer (some ⟨b, 0, none⟩), .int .i64 k] w fun e w' => e = .returned (.tuple #[.slice none 0 0, .int .i64 (reachE D.f k)]) ∧ w' = w := by
  have C := Lib.hid (dsk_reach_any B b pv D w h k hk)
  clear h
  generalize reachE D.f k = E at C hE ⊢
  have e2 : (E != 0) = true := by rw [bne_iff_ne]; exact hE
  clear hE
  go_enter Tryz.func69, Tryz.ntmps69
  go_wp2_with fail
  refine C.out.mono ?_
  rintro e w' ⟨rfl, rfl⟩
  go_wp2
  go_ret2
  exact ⟨rfl, rfl⟩
theorem dsk_read_ok (k : Nat) (hk : k < 52) (hf : D.f = false) :
    Calls Tryz.prog 69 #[.pointer (some ⟨b, 0, none⟩), .int .i64 (k : Int)] w fun e w' => ∃ v, e = .returned (.tuple #[v, .int .i64 0]) ∧ OwB 5 w' w.heap.size v (secAt D.now k) ∧ Below w.heap.size w w' := by
  have C := Lib.hid (dsk_reach_any B b pv D w h (k : Int) (by omega))
  have hE : reachE D.f (k : Int) = 0 := by unfold reachE; rw [hf, if_neg (by simp), if_neg (by omega)]
  rw [hE] at C
  have hlt := h.lt
  have hl : (secAt D.now k).length = 32 := secAt_len (by rw [h.ok.now]; omega)
  have Hr := Lib.hid (show RdB w w.heap.size (some ⟨b, 1664 + k * 32, none⟩) (secAt D.now k) from ⟨by omega, fun _ => ⟨b, _, rfl, h.lt, fun j hj => by
    have := range_sec (k := k) (range_N h.blk h.ok.S) j (bv ((secAt D.now k).getD j 0)) (by simp [hj])
    exact this⟩⟩)
  have CC := Lib.hid (fun c => clone_any (some ⟨b, 1664 + k * 32, none⟩) (secAt D.now k) 32 c w hl.symm (by omega) Hr.out)
  clear h hE hl Hr
  have k0 : (0 : Int) ≤ (k : Int) := by omega
  have k1 : (k : Int) < 52 := by omega
  go_enter Tryz.func69, Tryz.ntmps69
  go_wp2_with fail
  refine C.out.mono ?_
  rintro e w' ⟨rfl, rfl⟩
  go_wp2_with fail
  refine (CC.out _).mono ?_
  rintro e w1 ⟨v, rfl, ho, hb⟩
  go_wp2
  go_ret2
  exact ⟨v, rfl, ho, hb⟩
end
end Go.Proofs.YtenkkdnepmoihaaGreatDoor
end
section
namespace Go.Proofs.YtenkkdnepmoihaaGreatDoor
open Go.RowKit

/-- One of the pending writes, out of their row. -/
theorem wcells_get {ps : List (Nat × List UInt8)} (h : WOk ps) {i : Nat} (hi : i < ps.length) (j : Nat) (hj : j < 33) : (wcells ps)[i * 33 + j]? = (wcell (ps.getD i (0, [])))[j]? := by
  induction ps generalizing i with
  | nil => simp at hi
  | cons p ps ih =>
    have hl : (wcell p).length = 33 := wcell_len (h p (List.mem_cons_self ..)).2
    have e : wcells (p :: ps) = wcell p ++ wcells ps := by simp [wcells]
    rw [e]
    cases i with
    | zero => rw [Nat.zero_mul, Nat.zero_add, List.getElem?_append_left (by omega)]; rfl
    | succ i =>
      rw [List.getElem?_append_right (by omega), hl, show (i + 1) * 33 + j - 33 = i * 33 + j by omega, ih h.cons (by simpa using hi)]
      rfl
theorem own_cell_at {w : World} {B g n cap : Nat} {e : TypeId} {size : Nat} {xs : List Value} (h : w.ownsRow B e size (.slice (some ⟨g, 0, none⟩) n cap) n xs) (j : Nat) (hj : j < xs.length) : w.cell? ⟨g, j, none⟩ = xs[j]? := by
  rcases h.2 with ⟨h1, _⟩ | ⟨g', cap', cur, h1, h2, h3, h4, h5, h6, h7⟩
  · cases h1
  · injection h1 with h8 _ h9
    injection h8 with h8
    injection h8 with h8 _ _
    subst h8 h9
    have hx := h.1
    rw [cell_of_row w g j cur e (0, 0) h3, ← h7, List.getElem?_take, if_pos (by omega), Array.getElem?_toList]
theorem range_pend {w : World} {B g n cap : Nat} {ps : List (Nat × List UInt8)} (h : w.ownsRow B 124 33 (.slice (some ⟨g, 0, none⟩) n cap) n (wcells ps)) (hok : WOk ps) {i : Nat} (hi : i < ps.length) : w.rangeAt g (i * 33) (wcell (ps.getD i (0, []))) := fun j v hj => by
  have hm : ps.getD i (0, []) ∈ ps := by simp [hi]
  have hl := wcell_len (hok _ hm).2
  have hj33 : j < 33 := by have := (List.getElem?_eq_some_iff.1 hj).1; omega
  have hx : (wcells ps)[i * 33 + j]? = some v := (wcells_get hok hi j hj33).trans hj
  rw [own_cell_at h _ (List.getElem?_eq_some_iff.1 hx).1]
  exact hx

theorem own_form {w : World} {B n : Nat} {e : TypeId} {size : Nat} {v : Value} {xs : List Value} (h : w.ownsRow B e size v n xs) : ∃ A c, v = .slice A n c ∧ n ≤ c ∧ (0 < n → ∃ g, A = some ⟨g, 0, none⟩ ∧ B ≤ g) := by
  rcases h.2 with ⟨rfl, rfl⟩ | ⟨g, cap, cur, rfl, hB, _, hc, _⟩
  · exact ⟨none, 0, rfl, Nat.le_refl _, fun h => by omega⟩
  · exact ⟨_, cap, rfl, hc, fun _ => ⟨g, rfl, hB⟩⟩
end Go.Proofs.YtenkkdnepmoihaaGreatDoor
end
section
namespace Go.Proofs.YtenkkdnepmoihaaGreatDoor
open Go.RowKit

def Dsk.writeE (D : Dsk) (k : Int) (x : List UInt8) : Dsk := if takeE D.f k x.length = 0 then D.write k.toNat x else D
def Dsk.damageE (D : Dsk) (k : Int) (x : List UInt8) : Dsk := if takeE D.f k x.length = 0 then D.damage k.toNat x else D
def Dsk.flushE (D : Dsk) : Dsk := if D.f = true then D else D.flush
def Dsk.readE (D : Dsk) (k : Int) : List UInt8 := if reachE D.f k = 0 then secAt D.now k.toNat else []
theorem takeE_zero {f : Bool} {k : Int} {n : Nat} (h : takeE f k n = 0) : f = false ∧ 0 ≤ k ∧ k < 52 ∧ n = 32 := by
  unfold takeE reachE at h
  cases f
  · by_cases h1 : k < 0 ∨ 52 ≤ k
    · simp [h1] at h
    · by_cases h2 : n = 32
      · exact ⟨rfl, by omega, by omega, h2⟩
      · simp [h1, h2] at h
  · simp at h
theorem reachE_zero {f : Bool} {k : Int} (h : reachE f k = 0) : f = false ∧ 0 ≤ k ∧ k < 52 := by
  unfold reachE at h
  cases f
  · by_cases h1 : k < 0 ∨ 52 ≤ k
    · simp [h1] at h
    · exact ⟨rfl, by omega, by omega⟩
  · simp at h
theorem takeE_ok {k : Int} (h0 : 0 ≤ k) (h1 : k < 52) : takeE false k 32 = 0 := by
  unfold takeE reachE; simp; omega
theorem reachE_ok {k : Int} (h0 : 0 ≤ k) (h1 : k < 52) : reachE false k = 0 := by
  unfold reachE; simp; omega
theorem takeE_fail (k : Int) (n : Nat) : takeE true k n = 5 := by unfold takeE reachE; simp
namespace Dsk
end Dsk
section
variable (B b : Nat) (pv : Value) (D : Dsk) (w : World) (h : DskAt w B b pv D)
include h
theorem dsk_write_any (k : Int) (x : List UInt8) (A : Option Addr) (n c : Nat) (hn : n = x.length) (hk : -9223372036854775808 ≤ k ∧ k ≤ 9223372036854775807) (hr : RdB w w.heap.size A x) (hps : D.ps.length ≤ 2000000) :
    Calls Tryz.prog 126 #[.pointer (some ⟨b, 0, none⟩), .int .i64 k, .slice A n c] w fun e w' => ∃ pv', e = .returned (.int .i64 (takeE D.f k n)) ∧ DskAt w' B b pv' (D.writeE k x) ∧ Chg (DF b pv) w w' ∧ NewOr w pv pv' := by
  subst hn
  unfold Dsk.writeE
  by_cases he : takeE D.f k x.length = 0
  · obtain ⟨hf, h0, h1, hl⟩ := takeE_zero he
    have e := dsk_write_ok B b pv D k.toNat x A c w h hf (by omega) hl hr hps
    rw [Int.toNat_of_nonneg h0] at e
    rw [if_pos he, he, hl]
    exact e
  · rw [if_neg he]
    refine (dsk_write_no B b pv D w h k A x.length c hk (by have := hr.1; omega) he).mono ?_
    rintro e w' ⟨rfl, rfl⟩
    exact ⟨pv, rfl, h, Chg.refl _ _, NewOr.refl _ _⟩
theorem dsk_flush_any : Calls Tryz.prog 128 #[.pointer (some ⟨b, 0, none⟩)] w fun e w' => ∃ pv', e = .returned (.int .i64 (if D.f = true then 5 else 0)) ∧ DskAt w' B b pv' D.flushE ∧ Chg (DF b pv) w w' ∧ NewOr w pv pv' := by
  unfold Dsk.flushE
  by_cases hf : D.f = true
  · rw [if_pos hf, if_pos hf]
    refine (dsk_flush_no B b pv D w h hf).mono ?_
    rintro e w' ⟨rfl, rfl⟩
    exact ⟨pv, rfl, h, Chg.refl _ _, NewOr.refl _ _⟩
  · rw [if_neg hf, if_neg hf]
    refine (dsk_flush_ok B b pv D w h (by simpa using hf)).mono ?_
    rintro e w' ⟨rfl, h1, h2⟩
    exact ⟨_, rfl, h1, h2, NewOr.none _ _⟩
theorem dsk_read_any (k : Int) (hk : -9223372036854775808 ≤ k ∧ k ≤ 9223372036854775807) :
    Calls Tryz.prog 69 #[.pointer (some ⟨b, 0, none⟩), .int .i64 k] w fun e w' => ∃ v, e = .returned (.tuple #[v, .int .i64 (reachE D.f k)]) ∧ OwB 5 w' w.heap.size v (D.readE k) ∧ Below w.heap.size w w' := by
  unfold Dsk.readE
  by_cases he : reachE D.f k = 0
  · obtain ⟨hf, h0, h1⟩ := reachE_zero he
    have e := dsk_read_ok B b pv D w h k.toNat (by omega) hf
    rw [Int.toNat_of_nonneg h0] at e
    rw [if_pos he, he]
    exact e
  · rw [if_neg he]
    refine (dsk_read_no B b pv D w h k hk he).mono ?_
    rintro e w' ⟨rfl, rfl⟩
    exact ⟨_, rfl, OwB.nil _ _ _, Below.refl _ _⟩
end
theorem sec_zero {k : Nat} (hk : k < 52) : secAt zeroS k = List.replicate 32 0 := by
  unfold secAt zeroS
  rw [List.drop_replicate, List.take_replicate]
  congr 1
  omega
theorem new_now : Dsk.new.now = zeroS := rfl
end Go.Proofs.YtenkkdnepmoihaaGreatDoor
end
section
namespace Go.Proofs.YtenkkdnepmoihaaGreatDoor
open Go.RowKit

end Go.Proofs.YtenkkdnepmoihaaGreatDoor
end
