/- Texts put together: GeoCan, OwnZ. -/
import Derived.Test.YtiipdhmfdgbmiaaDoorTbaa
import Derived.Lib.AppendZerosOnto
section
namespace Go.Proofs.YtiipdhmfdgbmiaaDoor
open Go.RowKit

set_option maxHeartbeats 1000000 in
theorem can_ne (l d c l' d' c' : Int) (w : World) (hl : -9223372036854775808 ≤ l ∧ l ≤ 9223372036854775807) (hd : -9223372036854775808 ≤ d ∧ d ≤ 9223372036854775807) (hc : -9223372036854775808 ≤ c ∧ c ≤ 9223372036854775807)
    (hl' : -9223372036854775808 ≤ l' ∧ l' ≤ 9223372036854775807) (hd' : -9223372036854775808 ≤ d' ∧ d' ≤ 9223372036854775807) (hc' : -9223372036854775808 ≤ c' ∧ c' ≤ 9223372036854775807)
    (HG : Hid (gOk l d c = true)) (HG' : Hid (gOk l' d' c' = true)) (hE : Hid (gEq l d c l' d' c' = false)) :
    Calls Tryd.prog 87 #[.agg #[.int .i64 l, .int .i64 d, .int .i64 c], .agg #[.int .i64 l', .int .i64 d', .int .i64 c']] w fun e w' => e = .returned (.bool (gCan l d c l' d' c')) ∧ Below w.heap.size w w' := by
  have S0 := gs2_start w l d c l' d' c' 30 30 (0, 0) (0, 0)
  have H := Lib.hid ((gCan_ok HG.out HG'.out hE.out).trans (gGe_eq l d c l' d' c'))
  have hE' := gEq_no hE.out
  have HW : Hid (∀ W, Calls Tryd.prog 92 #[.agg #[.int .i64 l, .int .i64 d, .int .i64 c]] W fun e w' => e = .returned (.int .i64 (gWid l d c)) ∧ Below W.heap.size W w') := Lib.hid fun W => width_any l d c W hl hd hc
  have HW' : Hid (∀ W, Calls Tryd.prog 92 #[.agg #[.int .i64 l', .int .i64 d', .int .i64 c']] W fun e w' => e = .returned (.int .i64 (gWid l' d' c')) ∧ Below W.heap.size W w') := Lib.hid fun W => width_any l' d' c' W hl' hd' hc'
  have HC : Hid (∀ W, Calls Tryd.prog 77 #[.agg #[.int .i64 l, .int .i64 d, .int .i64 c]] W fun e w' => e = .returned (.int .i64 0) ∧ Below W.heap.size W w') := Lib.hid fun W => check_yes l d c W HG hl hd hc
  have HC' : Hid (∀ W, Calls Tryd.prog 77 #[.agg #[.int .i64 l', .int .i64 d', .int .i64 c']] W fun e w' => e = .returned (.int .i64 0) ∧ Below W.heap.size W w') := Lib.hid fun W => check_yes l' d' c' W HG' hl' hd' hc'
  generalize gCan l d c l' d' c' = can at H
  generalize gWid l d c = wd at H HW
  generalize gWid l' d' c' = wd' at H HW'
  clear hE
  have hE2 : (¬ l = l') ∨ (l = l' ∧ ¬ d = d') ∨ (l = l' ∧ d = d' ∧ ¬ c = c') := by omega
  clear hE'
  go_enter Tryd.func87, Tryd.ntmps87
  go_upto_region 1 with fail
  go_cut [17] (fun v W => v = .bool false ∧ GS2 w w.heap.size w.heap.size (w.heap.size + 1) l d c l' d' c' W)
  case first =>
    rcases hE2 with h1 | ⟨rfl, h1⟩ | ⟨rfl, rfl, h1⟩
    all_goals
      go_wp2_with fail
      (with_reducible refine (HC.out _).mono ?_); rintro e w1 ⟨rfl, hb⟩
      have S1 := S0.later hb
      clear hb S0
      obtain ⟨g1, g2, g3, g4, g5, g6, F⟩ := S1
      go_wp2_with fail
      (with_reducible refine (HC'.out _).mono ?_); rintro e w2 ⟨rfl, hb⟩
      have S2 := GS2.later ⟨g1, g2, g3, g4, g5, g6, F⟩ hb
      clear hb g1 g2 g3 g4 g5 g6 F
      obtain ⟨g1, g2, g3, g4, g5, g6, F⟩ := S2
      go_wp2_with fail
      go_meet
      exact ⟨rfl, ⟨g1, g2, g3, g4, g5, g6, F⟩⟩
  case rest =>
    obtain ⟨rfl, S3⟩ := hcut
    clear S0 hE2
    obtain ⟨g1, g2, g3, g4, g5, g6, F⟩ := S3
    by_cases hdd : d ≤ d'
    · by_cases hll : l ≤ l'
      · have S3 : GS2 w w.heap.size w.heap.size (w.heap.size + 1) l d c l' d' c' wc := ⟨g1, g2, g3, g4, g5, g6, F⟩
        clear g1 g2 g3 g4 g5 g6 F
        have Hn := Lib.hid (H.out.trans (show _ = decide (wd ≤ wd') by simp [hdd, hll]))
        go_wp2_with fail
        go_region_held3 (GS2 w w.heap.size w.heap.size (w.heap.size + 1) l d c l' d' c')
          (first | assumption | exact GS2.drew ‹_›)
          (first
            | (go_at_call_of 92 (Value.agg #[.int .i64 l, .int .i64 d, .int .i64 c]); (with_reducible refine (HW.out _).mono ?_); rintro e wA ⟨rfl, hbA⟩; have SA : GS2 w w.heap.size w.heap.size (w.heap.size + 1) l d c l' d' c' wA := GS2.later (by first | assumption | exact GS2.drew ‹_›) hbA; clear hbA)
            | (go_at_call_of 92 (Value.agg #[.int .i64 l', .int .i64 d', .int .i64 c']); (with_reducible refine (HW'.out _).mono ?_); rintro e wB ⟨rfl, hbB⟩; have SB : GS2 w w.heap.size w.heap.size (w.heap.size + 1) l d c l' d' c' wB := GS2.later (by first | assumption | exact GS2.drew ‹_›) hbB; clear hbB))
        go_wp2
        go_ret
        exact ⟨by rw [Hn.out]; rfl, SA.2.2.2.2.2.2⟩
      · have Hn := Lib.hid (H.out.trans (decide_eq_false (by omega)))
        have e1 : decide (d ≤ d') = true := decide_eq_true hdd
        have e2 : decide (l ≤ l') = false := decide_eq_false hll
        go_wp2_with fail
        go_quiet (fail)
        go_wp2
        go_ret
        exact ⟨by rw [Hn.out]; rfl, F.trans (belowN _ _ _)⟩
    · have Hn := Lib.hid (H.out.trans (decide_eq_false (by omega)))
      have e1 : decide (d ≤ d') = false := decide_eq_false hdd
      go_wp2_with fail
      go_quiet (fail)
      go_wp2
      go_ret
      exact ⟨by rw [Hn.out]; rfl, F.trans (belowN _ _ _)⟩
set_option maxHeartbeats 1000000 in
theorem can_any (l d c l' d' c' : Int) (w : World) (hl : -9223372036854775808 ≤ l ∧ l ≤ 9223372036854775807) (hd : -9223372036854775808 ≤ d ∧ d ≤ 9223372036854775807) (hc : -9223372036854775808 ≤ c ∧ c ≤ 9223372036854775807)
    (hl' : -9223372036854775808 ≤ l' ∧ l' ≤ 9223372036854775807) (hd' : -9223372036854775808 ≤ d' ∧ d' ≤ 9223372036854775807) (hc' : -9223372036854775808 ≤ c' ∧ c' ≤ 9223372036854775807) :
    Calls Tryd.prog 87 #[.agg #[.int .i64 l, .int .i64 d, .int .i64 c], .agg #[.int .i64 l', .int .i64 d', .int .i64 c']] w fun e w' => e = .returned (.bool (gCan l d c l' d' c')) ∧ Below w.heap.size w w' := by
  have S0 := gs2_start w l d c l' d' c' 30 30 (0, 0) (0, 0)
  cases hG : gOk l d c
  · have H : Hid (gCan l d c l' d' c' = false) := by unfold gCan; rw [hG]; rfl
    have HG := Lib.hid hG
    clear hG
    go_enter Tryd.func87, Tryd.ntmps87
    go_wp2_with fail
    (with_reducible refine (check_no l d c _ HG hl hd hc).mono ?_); rintro e w1 ⟨rfl, hb⟩
    have S1 := S0.later hb
    clear hb S0
    go_wp2_with fail
    go_ret
    exact ⟨by rw [H.out]; rfl, S1.2.2.2.2.2.2⟩
  · have HG := Lib.hid hG
    cases hG' : gOk l' d' c'
    · have H : Hid (gCan l d c l' d' c' = false) := by unfold gCan; rw [hG, hG']; rfl
      have HG' := Lib.hid hG'
      clear hG hG'
      go_enter Tryd.func87, Tryd.ntmps87
      go_wp2_with fail
      (with_reducible refine (check_yes l d c _ HG hl hd hc).mono ?_); rintro e w1 ⟨rfl, hb⟩
      have S1 := S0.later hb
      clear hb S0
      obtain ⟨g1, g2, g3, g4, g5, g6, F⟩ := S1
      go_wp2_with fail
      (with_reducible refine (check_no l' d' c' _ HG' hl' hd' hc').mono ?_); rintro e w2 ⟨rfl, hb⟩
      have S2 := GS2.later ⟨g1, g2, g3, g4, g5, g6, F⟩ hb
      clear hb g1 g2 g3 g4 g5 g6 F
      go_wp2_with fail
      go_ret
      exact ⟨by rw [H.out]; rfl, S2.2.2.2.2.2.2⟩
    · have HG' := Lib.hid hG'
      cases hE : gEq l d c l' d' c'
      · exact can_ne l d c l' d' c' w hl hd hc hl' hd' hc' HG HG' (Lib.hid hE)
      · obtain ⟨rfl, rfl, rfl⟩ := gEq_yes hE
        have H : Hid (gCan l d c l d c = false) := by unfold gCan; rw [hE, Bool.not_true, Bool.and_false, Bool.false_and]; rfl
        clear hG hG' hE
        go_enter Tryd.func87, Tryd.ntmps87
        go_wp2_with fail
        (with_reducible refine (check_yes l d c _ HG hl hd hc).mono ?_); rintro e w1 ⟨rfl, hb⟩
        have S1 := S0.later hb
        clear hb S0
        obtain ⟨g1, g2, g3, g4, g5, g6, F⟩ := S1
        go_wp2_with fail
        (with_reducible refine (check_yes l d c _ HG hl hd hc).mono ?_); rintro e w2 ⟨rfl, hb⟩
        have S2 := GS2.later ⟨g1, g2, g3, g4, g5, g6, F⟩ hb
        clear hb g1 g2 g3 g4 g5 g6 F
        obtain ⟨g1, g2, g3, g4, g5, g6, F⟩ := S2
        go_wp2_with fail
        go_ret
        exact ⟨by rw [H.out]; rfl, F⟩
end Go.Proofs.YtiipdhmfdgbmiaaDoor
end
section
namespace Go.Proofs.YtiipdhmfdgbmiaaDoor
open Go.RowKit

theorem zeroCells_u8 (n : Nat) : (Builtin.zeroCells (Value.int .u8 0).cells n).toList = List.replicate n (.int .u8 0) := by
  rw [← toList_madeCells_one]
  rw [show Builtin.zeroCells (Value.int .u8 0).cells n = madeCells #[.int .u8 0] (n * 1) from rfl, Nat.mul_one]
theorem zeroCells_size (n : Nat) : (Builtin.zeroCells (Value.int .u8 0).cells n).size = n := by
  rw [← Array.length_toList, zeroCells_u8, List.length_replicate]
section
variable {P : Program} (w : World)
theorem run_append_Z (base : Nat) (t tn ty e : TypeId) (kn : IntKind) (ht : P.underlying t = some (.slice e)) (htn : P.underlying tn = some (.int kn)) (hinfo : (P.info? e).map (fun i => (i.zero, i.size, i.bytes)) = some (some (.int .u8 0), 1, 1))
    (v : Value) (xs : List UInt8) (hown : OwB e w base v xs) (kq : IntKind) (n : Nat) (h0 : 0 < n) (hn : xs.length + n ≤ 1048576) (hbase : base ≤ w.heap.size) :
    ∃ v' w', (Builtin.append_ #[t, tn] ty #[v, .int kq (n : Int)]).run P w = .ok v' w' ∧ OwB e w' base v' (xs ++ List.replicate n 0) ∧ w.grownBy w' v.ownBlock ∧ (v'.ownBlock = v.ownBlock ∨ v'.ownBlock = some w.heap.size) := by
  obtain ⟨i, hi, hzz⟩ := Option.map_eq_some_iff.1 hinfo
  simp only [Prod.mk.injEq] at hzz
  obtain ⟨hz, hs, hb⟩ := hzz
  have hmap : (xs ++ List.replicate n (0 : UInt8)).map bv = xs.map bv ++ List.replicate n (.int .u8 0) := by simp [bv]
  have hlen : (xs ++ List.replicate n (0 : UInt8)).length = xs.length + n := by simp
  have grown : ∀ (old : Nat), old < xs.length + n → ∀ (row : Option Nat),
      OwB e (w.drew.alloc (.cells ((xs.map bv).toArray ++ Builtin.zeroCells (Value.int .u8 0).cells n ++ Builtin.zeroCells (Value.int .u8 0).cells (grownCap w (xs.length + n) old e - (xs.length + n))) e)) base
        (.slice (some ⟨w.heap.size, 0, none⟩) (xs.length + n) (grownCap w (xs.length + n) old e)) (xs ++ List.replicate n 0) ∧
      w.grownBy (w.drew.alloc (.cells ((xs.map bv).toArray ++ Builtin.zeroCells (Value.int .u8 0).cells n ++ Builtin.zeroCells (Value.int .u8 0).cells (grownCap w (xs.length + n) old e - (xs.length + n))) e)) row := by
    intro old ho row
    have hge := grownCap_ge w (xs.length + n) old e
    have hcm : grownCap w (xs.length + n) old e ≤ maxLen := grownCap_le_maxLen w (xs.length + n) old e (by unfold maxLen; omega)
    refine ⟨⟨⟨by simp, .inr ⟨w.heap.size, _, _, by rw [hlen], hbase, heap_alloc_new w.drew _, by rw [hlen]; exact hge, hcm, ?_, ?_⟩⟩, by rw [hlen]; omega⟩, ⟨rfl, rfl, rfl, by simp, fun k hk _ => heap_alloc_old w.drew _ hk⟩⟩
    · simp only [Array.size_append, List.size_toArray, zeroCells_size, List.length_map]
      omega
    · simp only [Array.toList_append, hmap, zeroCells_u8]
      rw [List.take_append_of_le_length (by simp), List.take_of_length_le (by simp)]
  rcases hown.1.2 with ⟨rfl, hx0⟩ | ⟨g, cap, cur, rfl, hbg, hg, hnc, hcm, hcs, htake⟩
  · obtain rfl : xs = [] := List.eq_nil_of_length_eq_zero hx0
    have hr := Lib.run_append_nil_zeros (P := P) w t tn ty e i _ kq kn ht htn hi hz n h0 (by omega) (by simp at hn; omega) (by rw [hb]; simp at hn; omega)
    have hgr := grown 0 (by simp; omega) (Value.ownBlock (.slice none 0 0))
    simp only [List.length_nil, Nat.zero_add, List.map_nil, List.nil_append, Array.empty_append] at hgr ⊢
    exact ⟨_, _, hr, hgr.1, hgr.2, .inr rfl⟩
  · by_cases hroom : xs.length + n ≤ cap
    · have hst := run_storeCells_at P g xs.length e (List.replicate n (.int .u8 0)) 0 cur w hg (by simp; omega) (fun u hu => by rw [List.eq_of_mem_replicate hu]; rfl)
      have hw : IntKind.i64.wrap (n : Int) = n := by rw [IntKind.wrap_i64]; omega
      have hneg : ¬ ((n : Int) < 0) := by omega
      have h48 : ¬ (281474976710656 < (n : Int)) := by omega
      have hn0 : n ≠ 0 := by omega
      have hadd : (⟨g, 0, none⟩ : Addr).add xs.length = ⟨g, xs.length, none⟩ := by unfold Addr.add; by_cases hx : xs.length = 0 <;> simp [hx]
      have hr : (Builtin.append_ #[t, tn] ty #[.slice (some ⟨g, 0, none⟩) xs.length cap, .int kq (n : Int)]).run P w = .ok (.slice (some ⟨g, 0, none⟩) (xs.length + n) cap) (w.setRow g (cur.toList.take xs.length ++ List.replicate n (Value.int .u8 0) ++ cur.toList.drop (xs.length + n)).toArray) := by
        simp only [List.length_replicate, Nat.add_zero] at hst
        simp [Builtin.append_, run_underlying ht, run_underlying htn, sizeOf, typeInfo, zeroValue, hi, hz, hs, hb, asInt, asIntOf, hw, hneg, h48, hn0, hroom, hadd, zeroCells_u8, hst]
      refine ⟨_, _, hr, ⟨⟨by simp, .inr ⟨g, cap, _, by rw [hlen], hbg, setRow_heap w g cur _ e _ hg, by rw [hlen]; exact hroom, hcm, ?_, ?_⟩⟩, by rw [hlen]; omega⟩, ⟨rfl, rfl, rfl, by simp, fun k _ hk => setRow_other w g k _ (fun e => hk (by simp [Value.ownBlock, e]))⟩, .inl rfl⟩
      · simp only [List.size_toArray, List.length_append, List.length_take, List.length_drop, Array.length_toList, List.length_replicate]
        omega
      · rw [Nat.mul_one] at htake
        rw [htake, hmap, List.toList_toArray, List.take_append_of_le_length (by simp), List.take_of_length_le (by simp)]
    · have holds : ∀ j u, (xs.map bv)[j]? = some u → w.cell? ((⟨g, 0, none⟩ : Addr).add j) = some u := hown.1.cells (g := g) rfl
      have hload : (Builtin.firstCells i.size xs.length (.slice (some ⟨g, 0, none⟩) xs.length cap)).run P w.drew = .ok (xs.map bv).toArray w.drew := by
        have := run_loadCells_list (P := P) w.drew ⟨g, 0, none⟩ (xs.map bv) holds
        simpa [Builtin.firstCells, hs] using this
      have hns := nextslicecap_le (need := xs.length + n) (old := cap) (by omega)
      have hr := Lib.run_append_grow_zeros (P := P) w t tn ty e i _ kq kn ht htn hi hz (some ⟨g, 0, none⟩) xs.length cap (xs.map bv) hload n h0 (by omega) (by omega) (by omega) (by rw [hb]; omega) (by rw [hb]; omega)
      have hgr := grown cap (by omega) (Value.ownBlock (.slice (some ⟨g, 0, none⟩) xs.length cap))
      exact ⟨_, _, hr, hgr.1, hgr.2, .inr rfl⟩
theorem wpList_append_Z {ops : Array Oper} {rest : List Oper} {o : Oper} {a : Act} {Q : Exit → Act → World → Prop} (hw : Region.wanted o (yielded ops a.tmps) = true) (s x : Operand) (t tn : TypeId)
    (ho : o.op = .call { callee := .builtin .append, args := #[s, x], argTypes := #[t, tn] }) (base : Nat) (e : TypeId) (kn : IntKind) (ht : P.underlying t = some (.slice e)) (htn : P.underlying tn = some (.int kn)) (hinfo : (P.info? e).map (fun i => (i.zero, i.size, i.bytes)) = some (some (.int .u8 0), 1, 1))
    (v : Value) (xs : List UInt8) (hs : a.eval s = v) (hown : OwB e w base v xs) (kq : IntKind) (n : Nat) (hx : a.eval x = .int kq (n : Int)) (h0 : 0 < n) (hn : xs.length + n ≤ 1048576) (hbase : base ≤ w.heap.size)
    (h : ∀ v' w', OwB e w' base v' (xs ++ List.replicate n 0) → w.grownBy w' v.ownBlock → (v'.ownBlock = v.ownBlock ∨ v'.ownBlock = some w.heap.size) → wpList P ops Q rest (a.put o.dst v') w') : wpList P ops Q (o :: rest) a w := by
  refine BigFrame.wpList_want hw fun K hK => ?_
  obtain ⟨v', w', hrun, h2, h3, h4⟩ := run_append_Z (P := P) w base t tn o.type e kn ht htn hinfo v xs hown kq n h0 hn hbase
  unfold Oper.wp execOp
  simp only [ho, resolve, invoke, builtin, Sem.run_bind, Sem.run_pure, Result.andThen_ok, List.map_toArray, List.map_cons, List.map_nil, hs, hx, hrun]
  exact hK _ _ (h v' w' h2 h3 h4)
theorem step_append_Z {ops : Array Oper} {o : Oper} {a : Act} {K : Act → World → Prop} {Q : Exit → Act → World → Prop} {E : Prop} (hgd : o.guard = none) (s x : Operand) (t tn : TypeId)
    (ho : o.op = .call { callee := .builtin .append, args := #[s, x], argTypes := #[t, tn] }) (base : Nat) (e : TypeId) (kn : IntKind) (ht : P.underlying t = some (.slice e)) (htn : P.underlying tn = some (.int kn)) (hinfo : (P.info? e).map (fun i => (i.zero, i.size, i.bytes)) = some (some (.int .u8 0), 1, 1))
    (v : Value) (xs : List UInt8) (hs : a.eval s = v) (hown : OwB e w base v xs) (kq : IntKind) (n : Nat) (hx : a.eval x = .int kq (n : Int)) (h0 : 0 < n) (hn : xs.length + n ≤ 1048576) (hbase : base ≤ w.heap.size)
    (h : ∀ v' w', OwB e w' base v' (xs ++ List.replicate n 0) → w.grownBy w' v.ownBlock → (v'.ownBlock = v.ownBlock ∨ v'.ownBlock = some w.heap.size) → K (a.put o.dst v') w') :
    if Region.wanted o (yielded ops a.tmps) = true then Oper.wp P o a w K Q else E := by
  have hw : Region.wanted o (yielded ops a.tmps) = true := by simp [Region.wanted, hgd]
  rw [if_pos hw]
  obtain ⟨v', w', hrun, h2, h3, h4⟩ := run_append_Z (P := P) w base t tn o.type e kn ht htn hinfo v xs hown kq n h0 hn hbase
  unfold Oper.wp execOp
  simp only [ho, resolve, invoke, builtin, Sem.run_bind, Sem.run_pure, Result.andThen_ok, List.map_toArray, List.map_cons, List.map_nil, hs, hx, hrun]
  exact h v' w' h2 h3 h4
end
end Go.Proofs.YtiipdhmfdgbmiaaDoor
end
