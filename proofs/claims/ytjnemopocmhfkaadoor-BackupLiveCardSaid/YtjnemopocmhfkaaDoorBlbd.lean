/- Texts put together: BakCat. -/
import Derived.Test.YtjnemopocmhfkaaDoorBlbc
import Derived.Test.YtjnemopocmhfkaaDoorBlal
import Derived.Test.YtjnemopocmhfkaaDoorBlad
section
set_option maxRecDepth 20000
set_option linter.unusedVariables false
set_option linter.unusedSimpArgs false
namespace Go.Proofs.YtjnemopocmhfkaaDoor
open Go.RowKit

def unlB (b : List UInt8) : Bool := (b.length : Int) != 32
theorem bkUnlike_any (A : Option Addr) (n c : Nat) (V : World) (r : Bool) (hr : ((n : Int) != 32) = r) : Calls Tryd.prog 25 #[.slice A n c] V fun e V' => e = .returned (.bool r) ∧ V' = V := by
  subst hr
  go_enter Tryd.func25, Tryd.ntmps25
  go_wp2
  go_ret
  exact ⟨rfl, rfl⟩
theorem rsTake {rs : List (List UInt8)} {i : Nat} (hi : i < rs.length) : rs.take (i + 1) = rs.take i ++ [rs.getD i []] := by
  rw [List.take_succ_eq_append_getElem hi]; simp [hi]
theorem bkIdx_any (A : Option Addr) (n c : Nat) (rs : List (List UInt8)) (w : World) (hn : rs.length = n) (h : RdR w w.heap.size A rs) :
    Calls Tryd.prog 42 #[.slice A n c, .func (.func 25) #[] #[]] w fun e w' => ∃ r : Int, e = .returned (.int .i64 r) ∧ decide (0 ≤ r) = rs.any unlB ∧ w' = w := by
  subst hn
  have H := Lib.hid h
  have hmx := h.1
  clear h
  go_enter Tryd.func42, Tryd.ntmps42
  go_wp2
  go_loopw [8] (fun i wr => ∃ j : Nat, j ≤ rs.length ∧ i = .int .i64 j ∧ (rs.take j).any unlB = false ∧ wr = w) (fun i _ => rs.length - (intOf i).toNat)
  case atStart => exact ⟨0, Nat.zero_le _, rfl, by simp, rfl⟩
  case round =>
    obtain ⟨j, hj, rfl, hall, rfl⟩ := hrel
    have Hall := Lib.hid hall
    clear hall
    by_cases hlt : j < rs.length
    · obtain ⟨g, off, rfl, hg, hc⟩ := H.out.2 (by omega)
      obtain ⟨D', c', hrp, _⟩ := hc j hlt
      clear hc
      have Hts := Lib.hid (rsTake hlt)
      have Hm := Lib.hid (show rs.getD j [] ∈ rs by simp [hlt])
      have CL := Lib.hid (bkUnlike_any D' (rs.getD j []).length c' wr (unlB (rs.getD j [])) rfl)
      generalize rs.getD j [] = y at hrp Hts Hm CL
      have k0 : (0 : Int) ≤ (j : Int) := by omega
      have k1 : (j : Int) < (rs.length : Int) := by omega
      generalize y.length = yl at hrp CL
      cases hpk : unlB y with
      | true =>
        rw [hpk] at CL
        have Hpk := Lib.hid hpk
        clear hpk
        go_wp2_with (go_at_call 25; refine CL.out.mono ?_; rintro e w1 ⟨rfl, rfl⟩)
        go_ret
        exact ⟨(j : Int), rfl, by rw [decide_eq_true (by omega)]; exact (List.any_eq_true.2 ⟨y, Hm.out, Hpk.out⟩).symm, rfl⟩
      | false =>
        rw [hpk] at CL
        have Hpk := Lib.hid hpk
        clear hpk
        go_wp2_with (go_at_call 25; refine CL.out.mono ?_; rintro e w1 ⟨rfl, rfl⟩)
        go_roundw
        case rel => exact ⟨j + 1, by omega, by go_num, by rw [Hts.out, List.any_append, Hall.out]; simpa using Hpk.out, trivial⟩
        case measure => simp [intOf]; omega
    · obtain rfl : j = rs.length := by omega
      go_wp2
      go_ret
      exact ⟨-1, rfl, by have := Hall.out; rw [List.take_length] at this; rw [this]; decide, rfl⟩
theorem bkAnyU_any (A : Option Addr) (n c : Nat) (rs : List (List UInt8)) (w : World) (hn : rs.length = n) (h : RdR w w.heap.size A rs) :
    Calls Tryd.prog 24 #[.slice A n c, .func (.func 25) #[] #[]] w fun e w' => e = .returned (.bool (rs.any unlB)) ∧ w' = w := by
  have C := Lib.hid (bkIdx_any A n c rs w hn h)
  clear h hn
  go_enter Tryd.func24, Tryd.ntmps24
  go_wp2_with fail
  refine C.out.mono ?_
  rintro e w1 ⟨r, rfl, hr, rfl⟩
  have Hr := Lib.hid hr
  clear hr
  go_wp2
  go_ret
  exact ⟨by rw [← Hr.out]; rfl, rfl⟩
theorem zeroRow_size (n : Nat) : (Builtin.zeroCells (Value.slice none 0 0).cells n).size = n := by
  rw [size_zeroCells]; exact Nat.mul_one n
/-- append(nothing, n of nothing): a new row. -/
theorem run_append_nilR (w : World) (ty : TypeId) (n : Nat) (h0 : 0 < n) (hn : n ≤ 1000) :
    ∃ (cap : Nat) (cs : Array Value), (Builtin.append_ #[31, 3] ty #[.slice none 0 0, .int .i64 (n : Int)]).run Tryd.prog w = .ok (.slice (some ⟨w.heap.size, 0, none⟩) n cap) (w.drew.alloc (.cells cs 48)) ∧ cs.size = cap ∧ n ≤ cap ∧ cap ≤ maxLen := by
  obtain ⟨i, hi, hzz⟩ := Option.map_eq_some_iff.1 info_row
  simp only [Prod.mk.injEq] at hzz
  obtain ⟨hz, hs, hb⟩ := hzz
  have hr := Lib.run_append_nil_zeros (P := Tryd.prog) w _ _ ty _ i _ .i64 .i64 Tryd.underlying31 Tryd.underlying3 hi hz n h0 (by omega) (by omega) (by rw [hb]; omega)
  have hge := grownCap_ge w n 0 48
  have hcm : grownCap w n 0 48 ≤ maxLen := grownCap_le_maxLen w n 0 _ (by unfold maxLen; omega)
  refine ⟨_, _, hr, ?_, hge, hcm⟩
  simp only [Array.size_append, List.size_toArray, zeroRow_size]
  omega
theorem wpList_append_nilR {w : World} {ops : Array Oper} {rest : List Oper} {o : Oper} {a : Act} {Q : Exit → Act → World → Prop} (hw : Region.wanted o (yielded ops a.tmps) = true) (s x : Operand)
    (ho : o.op = .call { callee := .builtin .append, args := #[s, x], argTypes := #[31, 3] }) (n : Nat) (hs : a.eval s = .slice none 0 0) (hx : a.eval x = .int .i64 (n : Int)) (h0 : 0 < n) (hn : n ≤ 1000)
    (h : ∀ (cap : Nat) (cs : Array Value), cs.size = cap → n ≤ cap → cap ≤ maxLen → wpList Tryd.prog ops Q rest (a.put o.dst (.slice (some ⟨w.heap.size, 0, none⟩) n cap)) (w.drew.alloc (.cells cs 48))) : wpList Tryd.prog ops Q (o :: rest) a w := by
  refine BigFrame.wpList_want hw fun K hK => ?_
  obtain ⟨cap, cs, hrun, h2, h3, h4⟩ := run_append_nilR w o.type n h0 hn
  unfold Oper.wp execOp
  simp only [ho, resolve, invoke, builtin, Sem.run_bind, Sem.run_pure, Result.andThen_ok, List.map_toArray, List.map_cons, List.map_nil, hs, hx, hrun]
  exact hK _ _ (h cap cs h2 h3 h4)
theorem bkGrow_any (n : Nat) (h0 : 0 < n) (hn : n ≤ 1000) (w : World) :
    Calls Tryd.prog 43 #[.slice none 0 0, .int .i64 (n : Int)] w fun e w' => ∃ v, e = .returned v ∧ w'.ownsRow w.heap.size 48 1 v 0 [] ∧ Below w.heap.size w w' := by
  have i0 : (0 : Int) < (n : Int) := by omega
  have i1 : ¬ ((n : Int) < 0) := by omega
  go_enter Tryd.func43, Tryd.ntmps43
  go_wp2_with (at_builtin; refine wpList_append_nilR rfl _ _ rfl n rfl rfl h0 hn ?_; intro cap cs h1 h2 h3; have k0 : (0 : Int) ≤ (cap : Int) := by omega)
  go_ret
  exact ⟨_, rfl, ⟨rfl, .inr ⟨w.heap.size, cap, cs, rfl, Nat.le_refl _, heap_alloc_new w.drew _, Nat.zero_le _, h3, by omega, by simp⟩⟩, (Below.refl _ _).drew.trans (below1 w.drew _)⟩
/-- A row's slices as values, none of F's. -/
def RowsXF (F : Nat → Prop) (w : World) (xs : List Value) (rs : List (List UInt8)) : Prop :=
  xs.length = rs.length ∧ ∀ k, k < rs.length → ∃ A c, xs[k]? = some (.slice A (rs.getD k []).length c) ∧ RdBX F w A (rs.getD k [])
theorem RdRX.vals {F : Nat → Prop} {w : World} {A : Option Addr} {rs : List (List UInt8)} (h : RdRX F w A rs) : ∃ xs, RdV w w.heap.size A xs ∧ RowsXF F w xs rs ∧ ∀ u ∈ xs, u.oneCell' = true := by
  obtain ⟨xs, h1, h2, h3⟩ := h.rdr.vals
  refine ⟨xs, h1, ⟨h2.1, fun k hk => ?_⟩, h3⟩
  obtain ⟨b, off, rfl, hb, _, hc⟩ := h.2 (by omega)
  obtain ⟨A', c, e, hr⟩ := hc k hk
  obtain ⟨b', off', e', _, hc'⟩ := h1 (by rw [h2.1]; omega)
  injection e' with e'
  injection e' with e1 e2 _
  subst e1 e2
  have e3 := hc' k (by rw [h2.1]; exact hk)
  exact ⟨A', c, e3.symm.trans e, hr⟩
theorem RowsXF.append {F : Nat → Prop} {w : World} {xs ys : List Value} {rs qs : List (List UInt8)} (h : RowsXF F w xs rs) (h' : RowsXF F w ys qs) : RowsXF F w (xs ++ ys) (rs ++ qs) :=
  ⟨by rw [List.length_append, List.length_append, h.1, h'.1], fun k hk => by
    by_cases q : k < rs.length
    · rw [List.getElem?_append_left (by rw [h.1]; exact q), List.getD_eq_getElem?_getD, List.getElem?_append_left q, ← List.getD_eq_getElem?_getD]
      exact h.2 k q
    · rw [List.getElem?_append_right (by rw [h.1]; omega), List.getD_eq_getElem?_getD, List.getElem?_append_right (by omega), ← List.getD_eq_getElem?_getD, h.1]
      exact h'.2 (k - rs.length) (by rw [List.length_append] at hk; omega)⟩
theorem RowsXF.below {F : Nat → Prop} {w w' : World} {xs : List Value} {rs : List (List UInt8)} (h : RowsXF F w xs rs) (hb : Below w.heap.size w w') : RowsXF F w' xs rs :=
  ⟨h.1, fun k hk => by
    obtain ⟨A, c, e, hr⟩ := h.2 k hk
    exact ⟨A, c, e, hr.below hb⟩⟩
theorem rdrx_own {F : Nat → Prop} {w : World} {base : Nat} {e : TypeId} {v : Value} {n : Nat} {xs : List Value} {rs : List (List UInt8)} (h : w.ownsRow base e 1 v n xs) (hF : ∀ k, F k → k < base) (hl : rs.length ≤ 140737488355328) (hx : RowsXF F w xs rs) :
    ∃ A cap, v = .slice A rs.length cap ∧ RdRX F w A rs := by
  have hn : n = rs.length := by have := h.1; have := hx.1; omega
  subst hn
  rcases h.2 with ⟨rfl, h0⟩ | ⟨g, cap, cur, rfl, hb, hg, h3, _, _, htk⟩
  · exact ⟨none, 0, by rw [h0], hl, fun h => by omega⟩
  · refine ⟨_, cap, rfl, hl, fun _ => ⟨g, 0, rfl, (Array.getElem?_eq_some_iff.1 hg).1, fun q => by have := hF g q; omega, fun k hk => ?_⟩⟩
    obtain ⟨A, c, h1, h2⟩ := hx.2 k hk
    refine ⟨A, c, ?_, h2⟩
    rw [← htk, List.getElem?_take, if_pos (by omega), Array.getElem?_toList] at h1
    rw [Nat.zero_add, cell_of_row w g k cur e (0, 0) hg]
    exact h1
set_option maxHeartbeats 1600000 in
theorem bkConcat_any (F : Nat → Prop) (g : Nat) (A1 A2 : Option Addr) (n1 n2 c1 c2 : Nat) (t : TypeId) (f : Nat × Nat) (r1 r2 : List (List UInt8)) (w : World) (hF : ∀ k, F k → k < w.heap.size) (hg : w.heap[g]? = some (.cells #[.slice A1 n1 c1, .slice A2 n2 c2] t f)) (hn1 : r1.length = n1) (hn2 : r2.length = n2) (h0 : 0 < n1) (hle : n1 + n2 ≤ 1000)
    (h1 : RdRX F w A1 r1) (h2 : RdRX F w A2 r2) :
    Calls Tryd.prog 26 #[.slice (some ⟨g, 0, none⟩) 2 2] w fun e w' => ∃ A' c', e = .returned (.slice A' (n1 + n2) c') ∧ RdRX F w' A' (r1 ++ r2) ∧ Below w.heap.size w w' := by
  obtain ⟨xs, v1, x1, o1⟩ := h1.vals
  obtain ⟨ys, v2, x2, o2⟩ := h2.vals
  have hlx := x1.1.trans hn1
  have hly := x2.1.trans hn2
  have HX := Lib.hid (x1.append x2)
  have HL : Hid ((r1 ++ r2).length = n1 + n2) := by show _ = _; rw [List.length_append, hn1, hn2]
  have V1 := Lib.hid v1
  have V2 := Lib.hid v2
  have O1 := Lib.hid o1
  have O2 := Lib.hid o2
  have HF := Lib.hid hF
  have hlx' := Lib.hid hlx
  have hly' := Lib.hid hly
  have hgl := (Array.getElem?_eq_some_iff.1 hg).1
  have q0 := cell_of_row w g 0 _ t f hg
  have q1 := cell_of_row w g 1 _ t f hg
  have Q0 : Hid (w.cell? ⟨g, 0, none⟩ = some (.slice A1 n1 c1)) := q0
  have Q1 : Hid (w.cell? ⟨g, 1, none⟩ = some (.slice A2 n2 c2)) := q1
  clear q0 q1 hg v1 v2 x1 x2 o1 o2 hF hlx hly h1 h2 hn1 hn2
  go_enter Tryd.func26, Tryd.ntmps26
  go_wp2
  go_loopw [3, 11] (fun s i wr => ∃ j : Nat, j ≤ 2 ∧ i = .int .i64 j ∧ s = .int .i64 (((if j = 0 then 0 else if j = 1 then n1 else n1 + n2 : Nat)) : Int) ∧ w = wr) (fun _ i _ => 2 - (intOf i).toNat)
  case atStart => exact ⟨0, by omega, rfl, rfl, rfl⟩
  case round =>
    obtain ⟨j, hj, rfl, rfl, rfl⟩ := hrel
    obtain rfl | rfl | rfl : j = 0 ∨ j = 1 ∨ j = 2 := by omega
    · have q0 := Q0.out
      simp only [if_pos]
      go_wp2
      go_roundw
      case rel => exact ⟨1, by omega, by go_num, by go_num, trivial⟩
      case measure => simp [intOf]
    · have q1 := Q1.out
      have i1 : ¬ ((n1 : Int) + (n2 : Int) < 0) := by omega
      simp only [if_pos, if_neg (show ¬ (1 : Nat) = 0 by omega)]
      go_wp2
      go_roundw
      case rel => exact ⟨2, by omega, by go_num, by go_num, trivial⟩
      case measure => simp [intOf]
    · simp only [if_neg (show ¬ (2 : Nat) = 0 by omega), if_neg (show ¬ (2 : Nat) = 1 by omega)]
      have CG0 := bkGrow_any (n1 + n2) (by omega) hle w
      rw [Int.natCast_add] at CG0
      have CG := Lib.hid CG0
      clear CG0
      go_wp2_with fail
      (with_reducible refine CG.out.mono ?_); rintro e w1 ⟨v1, rfl, ho1, hb1⟩
      have B1 := Lib.hid hb1
      have R1 := Lib.hid ho1
      have hlt1 := Lib.hid hgl
      clear hb1 ho1 CG
      go_wp2
      go_loopw [6, 27] (fun o i wx => ∃ j : Nat, j ≤ 2 ∧ i = .int .i64 j ∧ wx.ownsRow w.heap.size 48 1 o (if j = 0 then 0 else if j = 1 then n1 else n1 + n2) (if j = 0 then [] else if j = 1 then xs else xs ++ ys) ∧ Below w.heap.size w wx) (fun _ i _ => 2 - (intOf i).toNat)
      case atStart => exact ⟨0, by omega, rfl, R1.out, B1.out⟩
      case round =>
        obtain ⟨j, hj, rfl, hown, hbx⟩ := hrel
        have Hbx := Lib.hid hbx
        obtain rfl | rfl | rfl : j = 0 ∨ j = 1 ∨ j = 2 := by omega
        · simp only [if_pos] at hown
          have q0 := (Hbx.out.cell (p := ⟨g, 0, none⟩) hgl).trans Q0.out
          have Hown := Lib.hid hown
          clear hown hbx
          go_wp2_with (at_builtin; refine wpList_append_V rfl _ _ _ rfl w.heap.size 48 (.slice none 0 0) 24 Tryd.underlying31 info_row rfl _ 0 [] rfl Hown.out w.heap.size A1 n1 c1 xs rfl hlx'.out.symm (V1.out.below Hbx.out (Nat.le_refl _)) O1.out (by unfold maxLen; omega) (by omega) Hbx.out.size ?_; intro v2 w2 hown2 hg2 hat2)
          have hb2 := Hbx.out.grown hg2 Hbx.out.size (fun k e => (Hown.out.lt k e).1)
          rw [Nat.zero_add, List.nil_append] at hown2
          have Hown2 := Lib.hid hown2
          clear hown2 hg2 hat2 q0
          go_wp2
          go_roundw
          case rel => exact ⟨1, by omega, by go_num, Hown2.out, hb2⟩
          case measure => simp [intOf]
        · simp only [if_neg (show ¬ (1 : Nat) = 0 by omega), if_pos] at hown
          have q1 := (Hbx.out.cell (p := ⟨g, 1, none⟩) hgl).trans Q1.out
          have Hown := Lib.hid hown
          clear hown hbx
          go_wp2_with (at_builtin; refine wpList_append_V rfl _ _ _ rfl w.heap.size 48 (.slice none 0 0) 24 Tryd.underlying31 info_row rfl _ n1 xs rfl Hown.out w.heap.size A2 n2 c2 ys rfl hly'.out.symm (V2.out.below Hbx.out (Nat.le_refl _)) O2.out (by unfold maxLen; omega) (by omega) Hbx.out.size ?_; intro v2 w2 hown2 hg2 hat2)
          have hb2 := Hbx.out.grown hg2 Hbx.out.size (fun k e => (Hown.out.lt k e).1)
          have Hown2 := Lib.hid hown2
          clear hown2 hg2 hat2 q1
          go_wp2
          go_roundw
          case rel => exact ⟨2, by omega, by go_num, Hown2.out, hb2⟩
          case measure => simp [intOf]
        · simp only [if_neg (show ¬ (2 : Nat) = 0 by omega), if_neg (show ¬ (2 : Nat) = 1 by omega)] at hown
          obtain ⟨A', c', rfl, hr⟩ := rdrx_own hown HF.out (by rw [HL.out]; omega) (HX.out.below Hbx.out)
          have Hr := Lib.hid hr
          rw [HL.out]
          clear hown hbx hr
          go_wp2
          go_ret
          exact ⟨A', c', rfl, Hr.out, Hbx.out⟩
end Go.Proofs.YtjnemopocmhfkaaDoor
end
