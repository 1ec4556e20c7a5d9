/- Texts put together: DskLeft, Off, DskClone, DskDelete, DskDamage, DskDmg, DskAllD. -/
import Derived.Test.YtenkkdnepmoihaaGreatDoorUraj
import Derived.Test.YtenkkdnepmoihaaGreatDoorUrag
import Derived.Deep.WholeRow
import Derived.Lib.SliceRun
section
namespace Go.Proofs.YtenkkdnepmoihaaGreatDoor
open Go.RowKit

end Go.Proofs.YtenkkdnepmoihaaGreatDoor
end
section
namespace Go.Proofs.YtenkkdnepmoihaaGreatDoor
open Go.RowKit

def Off (v : Value) (b : Nat) (pv : Value) : Prop := ∀ k, v.ownBlock = some k → ¬ DF b pv k
/-- Two disks beside one another. -/
def Apart (b : Nat) (pv : Value) (b2 : Nat) (pv2 : Value) : Prop := ∀ k, DF b pv k → ¬ DF b2 pv2 k
theorem DskAt.apart {w w' : World} {B b b2 : Nat} {pv pv2 : Value} {D : Dsk} (hd : DskAt w B b pv D) (h : Apart b pv b2 pv2) (hc : Chg (DF b2 pv2) w w') : DskAt w' B b pv D :=
  hd.chg hc (fun e => h b (.inl rfl) e) fun k hk e => h k (.inr hk) e
end Go.Proofs.YtenkkdnepmoihaaGreatDoor
end
section
set_option maxRecDepth 8000
namespace Go.Proofs.YtenkkdnepmoihaaGreatDoor
open Go.RowKit

theorem range_own {w : World} {B g n cap : Nat} {e : TypeId} {size : Nat} {xs : List Value} (h : w.ownsRow B e size (.slice (some ⟨g, 0, none⟩) n cap) n xs) : ∀ j u, xs[j]? = some u → w.cell? ((⟨g, 0, none⟩ : Addr).add j) = some u := fun j u hu => by
  have e1 : ((⟨g, 0, none⟩ : Addr).add j) = ⟨g, j, none⟩ := by unfold Addr.add; by_cases hk0 : j = 0 <;> simp [hk0]
  rw [e1, own_cell_at h j (List.getElem?_eq_some_iff.1 hu).1]
  exact hu
theorem wcells_len {ps : List (Nat × List UInt8)} (h : WOk ps) : (wcells ps).length = ps.length * 33 := by
  induction ps with
  | nil => rfl
  | cons p ps ih =>
    have e : wcells (p :: ps) = wcell p ++ wcells ps := by simp [wcells]
    rw [e, List.length_append, wcell_len (h p (List.mem_cons_self ..)).2, ih h.cons, List.length_cons]
    omega
theorem wcells_one {ps : List (Nat × List UInt8)} : ∀ u ∈ wcells ps, u.oneCell' = true := fun u hu => by
  obtain ⟨p, _, hp⟩ := List.mem_flatMap.1 hu
  rcases List.mem_cons.1 hp with rfl | h
  · rfl
  · exact map_bv_one u h
theorem size_pwc : (Tryz.prog.info? 124).map (fun i => (i.zero, i.size, i.bytes)) = some (some (.agg (Value.int .i64 0 :: List.replicate 32 (Value.int .u8 0)).toArray), 33, 40) := by kernel_rfl
set_option maxHeartbeats 400000 in
theorem clonew_any (pv : Value) (B : Nat) (ps : List (Nat × List UInt8)) (w : World) (h : w.ownsRow B 124 33 pv ps.length (wcells ps)) (hok : WOk ps) (hps : ps.length ≤ 2000000) :
    Calls Tryz.prog 89 #[pv] w fun e w' => ∃ v, e = .returned v ∧ w'.ownsRow w.heap.size 124 33 v ps.length (wcells ps) ∧ Below w.heap.size w w' := by
  rcases h.2 with ⟨rfl, h0⟩ | ⟨g, cap, cur, rfl, hB, hg, hc, _⟩
  · have hn : ps = [] := List.eq_nil_of_length_eq_zero h0
    subst hn
    have hq : ∀ W : World, (binOp .eql 114 (.slice none 0 0) (.slice none 0 0)).run Tryz.prog W = .ok (.bool true) W := fun _ => rfl
    go_enter Tryz.func89, Tryz.ntmps89
    go_wp2
    go_ret
    exact ⟨_, rfl, World.ownsRow_nil _ _ _ _, Below.refl _ _⟩
  · have hq : ∀ W : World, (binOp .eql 114 (.slice (some ⟨g, 0, none⟩) ps.length cap) (.slice none 0 0)).run Tryz.prog W = .ok (.bool false) W := fun _ => rfl
    obtain ⟨iw, hiw, hzz⟩ := Option.map_eq_some_iff.1 size_pwc
    simp only [Prod.mk.injEq] at hzz
    obtain ⟨hz, hs, hb⟩ := hzz
    have Hcells := Lib.hid (range_own h)
    have Hl := Lib.hid (wcells_len hok)
    have hglt : g < w.heap.size := (Array.getElem?_eq_some_iff.1 hg).1
    have Hc2 := Lib.hid (show ∀ o : Obj, ∀ j u, (wcells ps)[j]? = some u → (w.alloc o).cell? ((⟨g, 0, none⟩ : Addr).add j) = some u from fun o j u hu => by
      have h1 := Hcells.out j u hu
      rw [World.cell?_alloc_lt _ _ _ (by unfold Addr.add; split <;> simpa using hglt)]
      exact h1)
    have Hz := Lib.hid hz
    have Hs := Lib.hid hs
    have Hb := Lib.hid hb
    have Hiw := Lib.hid hiw
    have Ho := Lib.hid (show (w.alloc (.cells #[] 124)).ownsRow w.heap.size 124 33 (.slice (some ⟨w.heap.size, 0, none⟩) 0 0) 0 [] from ⟨rfl, .inr ⟨w.heap.size, 0, #[], rfl, Nat.le_refl _, heap_alloc_new _ _, Nat.le_refl _, by unfold maxLen; omega, rfl, rfl⟩⟩)
    clear h hg hz hs hb hiw
    go_enter Tryz.func89, Tryz.ntmps89
    go_wp2_with (at_builtin; refine wpList_append_own_at _ rfl _ _ _ rfl w.heap.size 124 iw _ 33 40 Tryz.underlying114 Hiw.out Hz.out Hs.out Hb.out rfl (by omega) (.slice (some ⟨w.heap.size, 0, none⟩) 0 0) 0 [] rfl Ho.out ⟨g, 0, none⟩ ps.length cap (wcells ps) rfl Hl.out (Hc2.out _) wcells_one (by unfold maxLen; omega) (by omega) (by simp) ?_; intro v' w' hown hgr hnil hat)
    have hbw := (below1 w (.cells #[] 124)).grown hgr (by simp) (by simp [Value.ownBlock])
    rw [List.nil_append, Nat.zero_add] at hown
    go_ret
    exact ⟨v', rfl, hown, hbw⟩
theorem wp_alloc_dsk {C : List Value} (hz : ∀ w, (zeroValue 116).run Tryz.prog w = .ok (.agg C.toArray) w) {ops : Array Oper} {rest : List Oper} {op : Oper} {a : Act} {w : World} {Q : Exit → Act → World → Prop} (hgd : op.guard = none) (ho : op.op = .alloc 116)
    (h : wpList Tryz.prog ops Q rest (a.put op.dst (.pointer (some ⟨w.heap.size, 0, none⟩))) (w.alloc (.cells C.toArray 116))) : wpList Tryz.prog ops Q (op :: rest) a w :=
  wpList_plain hgd fun K hK => by
    unfold Oper.wp execOp
    simp only [ho, Instr.alloc, Sem.run_bind, hz, Result.andThen_ok]
    simp [newVar, newRow, Value.cells, Oper.upon_value]
    exact hK _ _ h
set_option maxHeartbeats 800000 in
theorem dsk_clone_any (B b : Nat) (pv : Value) (D : Dsk) (w : World) (h : DskAt w B b pv D) (hps : D.ps.length ≤ 2000000) :
    Calls Tryz.prog 54 #[.pointer (some ⟨b, 0, none⟩)] w fun e w' => ∃ b' pv', e = .returned (.pointer (some ⟨b', 0, none⟩)) ∧ DskAt w' w.heap.size b' pv' D ∧ Below w.heap.size w w' := by
  have Hh := Lib.hid h
  have HS := Lib.hid h.ok.S
  have HN := Lib.hid h.ok.now
  have hblt := h.lt
  have Hrange := Lib.hid (show w.rangeAt b 0 (dcells D.S D.now pv D.f) from fun j v hj => by rw [Nat.zero_add, cell_of_row _ _ _ _ _ _ h.blk]; simpa using hj)
  have Hl := Lib.hid (dcells_len HS.out HN.out pv D.f)
  have hpv1 : pv.oneCell' = true := by rcases h.own.2 with ⟨rfl, _⟩ | ⟨g, cap, cur, rfl, _⟩ <;> rfl
  have H1 := Lib.hid (show ∀ u ∈ dcells D.S D.now pv D.f, u.oneCell' = true from fun u hu => by
    unfold dcells at hu
    rcases List.mem_append.1 hu with h | h
    · rcases List.mem_append.1 h with h | h <;> exact map_bv_one u h
    · rcases List.mem_cons.1 h with rfl | h
      · exact hpv1
      · rw [List.mem_singleton.1 h]; rfl)
  have Hz := Lib.hid (zero_of_info info_dsk).1
  have HlC := Lib.hid (dcells_len (List.length_replicate (n := 1664) (a := (0 : UInt8))) (List.length_replicate (n := 1664) (a := (0 : UInt8))) (.slice none 0 0) false)
  generalize dcells (List.replicate 1664 0) (List.replicate 1664 0) (.slice none 0 0) false = C at Hz HlC
  clear h hpv1
  go_enter Tryz.func54, Tryz.ntmps54
  go_wp2_with (first
    | (refine wpList_load_mid rfl 116 _ (by rfl) b 0 (by rfl) (dcells D.S D.now pv D.f) _ Hrange.out Tryz.underlying116 rfl (by rw [Hl.out]; exact size_dsk) ?_)
    | (refine wp_alloc_dsk Hz.out rfl (by rfl) ?_)
    | (refine wpList_store_blk rfl 116 _ _ (by rfl) w.heap.size 0 (.agg (dcells D.S D.now pv D.f).toArray) (by rfl) (by rfl) C 116 (heap_alloc_new _ _) (dcells D.S D.now pv D.f) (by rfl) 3330 Hl.out size_dsk (by rw [HlC.out]; omega) H1.out (dcells D.S D.now pv D.f) (spl_all (by rw [Hl.out, HlC.out])) ?_
       intro w1 h1 hg1
       have hB1 : Below w.heap.size w w1 := (below1 w _).grown hg1 (by simp) (fun j hj => by injection hj with hj; omega)
       have HD := Lib.hid (Hh.out.below hB1)
       have hcp := cell_dpv HD.out.blk HS.out HN.out
       have H1b := Lib.hid h1
       have HB1 := Lib.hid hB1
       have CC := Lib.hid (clonew_any pv B D.ps w1 HD.out.own HD.out.ok.ps hps)
       clear h1 hg1 hB1))
  refine CC.out.mono ?_
  rintro e w2 ⟨v2, rfl, hown2, hb2⟩
  have hlt1 : w.heap.size < w1.heap.size := (Array.getElem?_eq_some_iff.1 H1b.out).1
  have Hb := Lib.hid ((hb2.block w.heap.size hlt1).trans H1b.out)
  have hv1 : v2.oneCell' = true := by rcases hown2.2 with ⟨rfl, _⟩ | ⟨g, cap, cur, rfl, _⟩ <;> rfl
  have hvc : v2.cells = #[v2] := by rcases hown2.2 with ⟨rfl, _⟩ | ⟨g, cap, cur, rfl, _⟩ <;> rfl
  have Hown2 := Lib.hid hown2
  have HB2 := Lib.hid hb2
  have Hv1 := Lib.hid hv1
  have Hvc := Lib.hid hvc
  clear hown2 hb2 hv1 hvc hcp
  go_wp2_with (refine wpList_store_blk rfl 114 _ _ (by rfl) w.heap.size 3328 v2 (by rfl) (by rfl) (dcells D.S D.now pv D.f) 116 Hb.out [v2] Hvc.out 1 (by rfl) size_pend (by rw [Hl.out]; omega) (by intro u hu; simp at hu; subst hu; exact Hv1.out) (dcells D.S D.now v2 D.f) (spl_pv HS.out HN.out) ?_; intro w3 h3 hg3)
  go_ret
  have hne : ∀ k, v2.ownBlock = some k → k ≠ w.heap.size := fun k hk e => by have := (Hown2.out.lt k hk).1; omega
  refine ⟨w.heap.size, v2, rfl, ⟨h3, ?_, Nat.le_refl _, fun e => hne _ e rfl, Hh.out.ok⟩, (HB1.out.trans (HB2.out.mono (by omega))).grown hg3 (by have := HB2.out.size; omega) (fun j hj => by injection hj with hj; omega)⟩
  have h5 := own_chg Hown2.out (chg_grown hg3) fun k hk e => hne k hk (by injection e with e; exact e.symm)
  refine ⟨h5.1, ?_⟩
  rcases h5.2 with h6 | ⟨g, cap, cur, h6, h7, r⟩
  · exact .inl h6
  · exact .inr ⟨g, cap, cur, h6, by omega, r⟩
end Go.Proofs.YtenkkdnepmoihaaGreatDoor
end
section
set_option maxRecDepth 8000
namespace Go.Proofs.YtenkkdnepmoihaaGreatDoor
open Go.RowKit

section
variable {P : Program}
theorem wpList_clear_blk {ops : Array Oper} {rest : List Oper} {op : Oper} {a : Act} {w : World} {Q : Exit → Act → World → Prop} (hgd : op.guard = none) (x : Operand) (t e : TypeId) (ho : op.op = .call { callee := .builtin .clear, args := #[x], argTypes := #[t] })
    (g o n c sz : Nat) (hx : a.eval x = .slice (some ⟨g, o, none⟩) n c) (hn : 0 < n) (ht : P.underlying t = some (.slice e)) (z : Value) (hz : ∀ w, (zeroValue e).run P w = .ok z w) (hzs : z.cells.size = sz) (hz1 : ∀ i, i < sz → (z.cells[i]!).oneCell' = true) (hsz : 0 < sz)
    (cur : List Value) (t' : TypeId) (hb : w.heap[g]? = some (.cells cur.toArray t' (0, 0))) (hl : o + n * sz ≤ cur.length)
    (h : ∀ w' vs, vs.length = n * sz → w'.heap[g]? = some (.cells (spl cur o vs).toArray t' (0, 0)) → w.grownBy w' (some g) → wpList P ops Q rest (a.put op.dst (.tuple #[])) w') : wpList P ops Q (op :: rest) a w := by
  refine wpList_plain hgd fun K hK => ?_
  have hzl : (Builtin.zeroCells z.cells n).toList.length = n * sz := by simp [Builtin.zeroCells, hzs]
  have h1 : ∀ u ∈ (Builtin.zeroCells z.cells n).toList, u.oneCell' = true := fun u hu => by
    simp only [Builtin.zeroCells, Array.toList_map, List.mem_map] at hu
    obtain ⟨i, _, rfl⟩ := hu
    exact hz1 _ (by rw [hzs]; exact Nat.mod_lt _ hsz)
  have hst := run_storeCells_at P g o t' (Builtin.zeroCells z.cells n).toList 0 cur.toArray w hb (by rw [hzl]; simpa using hl) h1
  have hrun : (Builtin.clear_ #[t] op.type #[.slice (some ⟨g, o, none⟩) n c]).run P w = .ok (.tuple #[]) (w.setRow g (spl cur o (Builtin.zeroCells z.cells n).toList).toArray) := by
    obtain ⟨m, rfl⟩ : ∃ m, n = m + 1 := ⟨n - 1, by omega⟩
    simp only [Nat.add_zero] at hst
    simp [Builtin.clear_, run_underlying ht, hz, hst, spl]
  unfold Oper.wp execOp
  simp only [ho, resolve, invoke, builtin, Sem.run_bind, Sem.run_pure, Result.andThen_ok, List.map_toArray, List.map_cons, List.map_nil, hx, hrun]
  refine hK _ _ (h _ _ hzl ?_ ?_)
  · exact setRow_heap w g _ _ t' (0, 0) hb
  · exact ⟨rfl, rfl, rfl, by simp, fun k _ hk => setRow_other w g k _ (fun e => hk (by rw [e]))⟩
end
theorem closure_any (p : Nat × List UInt8) (G k : Nat) (w : World) (hc : w.cell? ⟨G, 0, none⟩ = some (.int .i64 (k : Int))) (hG : G < w.heap.size) :
    Calls Tryz.prog 109 #[.agg (wcell p).toArray, .pointer (some ⟨G, 0, none⟩)] w fun e w' => e = .returned (.bool (decide (p.1 = k))) ∧ Below w.heap.size w w' := by
  obtain ⟨i, x⟩ := p
  show Calls Tryz.prog 109 #[.agg (Value.int .i64 (i : Int) :: x.map bv).toArray, .pointer (some ⟨G, 0, none⟩)] w fun e w' => e = .returned (.bool (decide (i = k))) ∧ Below w.heap.size w w'
  have hb := below1 w (.cells (Value.int .i64 (i : Int) :: x.map bv).toArray 124)
  have hne : G ≠ w.heap.size := by omega
  have Hd : Hid (((i : Int) == (k : Int)) = decide (i = k)) := by
    show _ = _
    by_cases h : i = k
    · subst h; simp
    · rw [decide_eq_false h, beq_eq_false_iff_ne]; omega
  go_enter Tryz.func109, Tryz.ntmps109
  go_wp2
  go_ret
  exact ⟨by rw [← Hd.out]; rfl, hb⟩
/-- Which is the first write to sector k? -/
def FirstI (ps : List (Nat × List UInt8)) (k : Nat) (r : Int) : Prop :=
  (r = -1 ∧ ∀ p ∈ ps, p.1 ≠ k) ∨ (∃ i : Nat, r = (i : Int) ∧ i < ps.length ∧ (ps.getD i (0, [])).1 = k ∧ ∀ p ∈ ps.take i, p.1 ≠ k)
theorem take_getD_succ {ps : List (Nat × List UInt8)} {i : Nat} (hi : i < ps.length) : ps.take (i + 1) = ps.take i ++ [ps.getD i (0, [])] := by
  rw [List.take_succ_eq_append_getElem hi]; simp [hi]
set_option maxHeartbeats 800000 in
theorem indexf_any (pv : Value) (B : Nat) (ps : List (Nat × List UInt8)) (G k : Nat) (w : World) (h : w.ownsRow B 124 33 pv ps.length (wcells ps)) (hok : WOk ps) (hps : ps.length ≤ 2000000) (hc : w.cell? ⟨G, 0, none⟩ = some (.int .i64 (k : Int))) (hG : G < w.heap.size) :
    Calls Tryz.prog 136 #[pv, .func (.func 109) #[] #[.pointer (some ⟨G, 0, none⟩)]] w fun e w' => ∃ r : Int, e = .returned (.int .i64 r) ∧ FirstI ps k r ∧ Below w.heap.size w w' := by
  have Hown := Lib.hid h
  have Hok := Lib.hid hok
  obtain ⟨P, pc, rfl, hpc, Hpg⟩ := own_form h
  clear h hok
  go_enter Tryz.func136, Tryz.ntmps136
  go_wp2
  go_loopw [8] (fun i wr => ∃ j : Nat, j ≤ ps.length ∧ i = .int .i64 j ∧ (∀ p ∈ ps.take j, p.1 ≠ k) ∧ Below w.heap.size w wr) (fun i _ => ps.length - (intOf i).toNat)
  case atStart => exact ⟨0, Nat.zero_le _, rfl, fun p hp => by simp at hp, Below.refl _ _⟩
  case round =>
    obtain ⟨j, hj, rfl, hall, hbr⟩ := hrel
    have Hall := Lib.hid hall
    clear hall
    by_cases hlt : j < ps.length
    · obtain ⟨g, rfl, hBg⟩ := Hpg (by omega)
      have hglt : g < w.heap.size := (Hown.out.lt g rfl).2
      have hrp := range_heap (range_pend Hown.out Hok.out (i := j) hlt) (hbr.block g hglt)
      have hpm : ps.getD j (0, []) ∈ ps := by simp [hlt]
      have Hwl := Lib.hid (wcell_len (Hok.out _ hpm).2)
      have Hts := Lib.hid (take_getD_succ hlt)
      have Hget : Hid ((ps.getD j (0, [])) = ps.getD j (0, [])) := rfl
      have hcr : wr.cell? ⟨G, 0, none⟩ = some (.int .i64 (k : Int)) := (hbr.cell (p := ⟨G, 0, none⟩) hG).trans hc
      have CL := Lib.hid (closure_any (ps.getD j (0, [])) G k wr hcr (Nat.lt_of_lt_of_le hG hbr.size))
      generalize hp : ps.getD j (0, []) = p at hrp Hwl Hts CL
      have Hp := Lib.hid hp
      have Hrp := Lib.hid hrp
      have k0 : (0 : Int) ≤ (j : Int) := by omega
      have k1 : (j : Int) < (ps.length : Int) := by omega
      clear hrp hp hpm hcr Hget
      by_cases hpk : p.1 = k
      · rw [decide_eq_true hpk] at CL
        have Hpk := Lib.hid hpk
        clear hpk
        go_wp2_with (first
          | (refine wpList_load_mid rfl 124 _ (by rfl) g (j * 33) (by rfl) (wcell p) _ Hrp.out Tryz.underlying124 rfl (by rw [Hwl.out]; exact (by kernel_rfl : (Tryz.prog.info? 124).map (·.size) = some 33)) ?_)
          | (go_at_call 109; refine CL.out.mono ?_; rintro e w1 ⟨rfl, hb1⟩))
        go_ret
        exact ⟨_, rfl, .inr ⟨j, rfl, hlt, by rw [Hp.out]; exact Hpk.out, Hall.out⟩, hbr.trans (hb1.mono hbr.size)⟩
      · rw [decide_eq_false hpk] at CL
        have Hpk := Lib.hid hpk
        clear hpk
        go_wp2_with (first
          | (refine wpList_load_mid rfl 124 _ (by rfl) g (j * 33) (by rfl) (wcell p) _ Hrp.out Tryz.underlying124 rfl (by rw [Hwl.out]; exact (by kernel_rfl : (Tryz.prog.info? 124).map (·.size) = some 33)) ?_)
          | (go_at_call 109; refine CL.out.mono ?_; rintro e w1 ⟨rfl, hb1⟩))
        go_roundw
        case rel => exact ⟨j + 1, by omega, by go_num, by rw [Hts.out]; intro q hq; rcases List.mem_append.1 hq with h1 | h1; exact Hall.out q h1; rw [List.mem_singleton.1 h1]; exact Hpk.out, hbr.trans (hb1.mono hbr.size)⟩
        case measure => simp [intOf]; omega
    · obtain rfl : j = ps.length := by omega
      go_wp2
      go_ret
      exact ⟨-1, rfl, .inl ⟨rfl, by have := Hall.out; rwa [List.take_length] at this⟩, hbr⟩
end Go.Proofs.YtenkkdnepmoihaaGreatDoor
end
section
set_option maxRecDepth 8000
namespace Go.Proofs.YtenkkdnepmoihaaGreatDoor
open Go.RowKit

theorem zw_one : ∀ i, i < 33 → ((Value.agg (Value.int .i64 0 :: List.replicate 32 (Value.int .u8 0)).toArray).cells[i]!).oneCell' = true := by decide
def keepW (k : Nat) (ps : List (Nat × List UInt8)) : List (Nat × List UInt8) := ps.filter fun p => decide (p.1 ≠ k)
theorem keepW_all {k : Nat} {ps : List (Nat × List UInt8)} (h : ∀ p ∈ ps, p.1 ≠ k) : keepW k ps = ps := List.filter_eq_self.2 fun p hp => by simpa using h p hp
theorem keepW_snoc_yes {k : Nat} {ps : List (Nat × List UInt8)} {p : Nat × List UInt8} (h : p.1 ≠ k) : keepW k (ps ++ [p]) = keepW k ps ++ [p] := by simp [keepW, h]
theorem keepW_snoc_no {k : Nat} {ps : List (Nat × List UInt8)} {p : Nat × List UInt8} (h : p.1 = k) : keepW k (ps ++ [p]) = keepW k ps := by simp [keepW, h]
theorem keepW_ok {k : Nat} {ps : List (Nat × List UInt8)} (h : WOk ps) : WOk (keepW k ps) := h.filter _
theorem wcells_append (ps qs : List (Nat × List UInt8)) : wcells (ps ++ qs) = wcells ps ++ wcells qs := by simp [wcells]
theorem wcells_drop {ps : List (Nat × List UInt8)} {j : Nat} (hj : j < ps.length) : wcells (ps.drop j) = wcell (ps.getD j (0, [])) ++ wcells (ps.drop (j + 1)) := by
  have e : ps.getD j (0, []) = ps[j] := by simp [hj]
  rw [e, List.drop_eq_getElem_cons hj]
  rfl
/-- The row of writes while some are struck: those that stay, then what is left over, then those not yet looked at, then spare cells. -/
def delCells (k : Nat) (ps : List (Nat × List UInt8)) (Z : List Value) (j : Nat) (M : List Value) : List Value := wcells (keepW k (ps.take j)) ++ M ++ wcells (ps.drop j) ++ Z
theorem range_list {w : World} {g : Nat} {A X C : List Value} {t : TypeId} (hb : w.heap[g]? = some (.cells (A ++ X ++ C).toArray t (0, 0))) {o : Nat} (ho : A.length = o) : w.rangeAt g o X := fun j v hj => by
  have hl : j < X.length := (List.getElem?_eq_some_iff.1 hj).1
  rw [cell_of_row w g _ _ t (0, 0) hb, List.getElem?_toArray, List.append_assoc, List.getElem?_append_right (by omega), ho, Nat.add_sub_cancel_left, List.getElem?_append_left hl]
  exact hj
theorem own_split {w : World} {B g n cap : Nat} {e : TypeId} {size : Nat} {xs : List Value} (h : w.ownsRow B e size (.slice (some ⟨g, 0, none⟩) n cap) n xs) : ∃ Z, w.heap[g]? = some (.cells (xs ++ Z).toArray e (0, 0)) ∧ (xs ++ Z).length = cap * size ∧ n ≤ cap ∧ cap ≤ maxLen := by
  rcases h.2 with ⟨h1, _⟩ | ⟨g', cap', cur, h1, h2, h3, h4, h5, h6, h7⟩
  · cases h1
  · injection h1 with h8 _ h9
    injection h8 with h8
    injection h8 with h8 _ _
    subst h8 h9
    refine ⟨cur.toList.drop (n * size), ?_, ?_, h4, h5⟩
    · rw [← h7, List.take_append_drop]; exact h3
    · rw [← h7, List.take_append_drop, Array.length_toList]; exact h6
theorem own_join {w : World} {B g n cap : Nat} {e : TypeId} {size : Nat} {xs Z : List Value} (hx : xs.length = n * size) (hB : B ≤ g) (hg : w.heap[g]? = some (.cells (xs ++ Z).toArray e (0, 0))) (hl : (xs ++ Z).length = cap * size) (hn : n ≤ cap) (hm : cap ≤ maxLen) :
    w.ownsRow B e size (.slice (some ⟨g, 0, none⟩) n cap) n xs :=
  ⟨hx, .inr ⟨g, cap, _, rfl, hB, hg, hn, hm, by simpa using hl, by rw [List.toList_toArray, ← hx, List.take_left]⟩⟩
set_option maxHeartbeats 1600000 in
theorem deletef_any (pv : Value) (B : Nat) (ps : List (Nat × List UInt8)) (G k : Nat) (w : World) (h : w.ownsRow B 124 33 pv ps.length (wcells ps)) (hok : WOk ps) (hps : ps.length ≤ 2000000) (hc : w.cell? ⟨G, 0, none⟩ = some (.int .i64 (k : Int))) (hG : G < w.heap.size) (hGp : pv.ownBlock ≠ some G) :
    Calls Tryz.prog 108 #[pv, .func (.func 109) #[] #[.pointer (some ⟨G, 0, none⟩)]] w fun e w' => ∃ v, e = .returned v ∧ w'.ownsRow B 124 33 v (keepW k ps).length (wcells (keepW k ps)) ∧ Chg (fun j => pv.ownBlock = some j) w w' ∧ ∀ j, v.ownBlock = some j → pv.ownBlock = some j := by
  have CI := Lib.hid (indexf_any pv B ps G k w h hok hps hc hG)
  have Hown := Lib.hid h
  have Hok := Lib.hid hok
  obtain ⟨P, pc, rfl, hpc, Hpg⟩ := own_form h
  clear h hok
  go_enter Tryz.func108, Tryz.ntmps108
  go_wp2_with fail
  refine CI.out.mono ?_
  rintro e w1 ⟨r, rfl, hfi, hb1⟩
  rcases hfi with ⟨rfl, hall⟩ | ⟨i0, rfl, hi0, hik, hall⟩
  · have Hall := Lib.hid (keepW_all hall)
    clear hall
    go_wp2
    go_ret
    exact ⟨_, rfl, by rw [Hall.out]; exact own_heap Hown.out fun j hj => hb1.block j (Hown.out.lt j hj).2, (chg_below _ hb1), fun j hj => hj⟩
  · obtain ⟨g, rfl, hBg⟩ := Hpg (by omega)
    have hGg : G ≠ g := fun e => hGp (by rw [e]; rfl)
    have hglt : g < w.heap.size := (Hown.out.lt g rfl).2
    have hown1 : w1.ownsRow B 124 33 (.slice (some ⟨g, 0, none⟩) ps.length pc) ps.length (wcells ps) := own_heap Hown.out fun j hj => hb1.block j (Hown.out.lt j hj).2
    obtain ⟨Z, hgZ, hlZ, _, hmax⟩ := own_split hown1
    have Hk0 := Lib.hid (keepW_all hall)
    have hts := take_getD_succ hi0
    have Hk1 := Lib.hid (show keepW k (ps.take (i0 + 1)) = ps.take i0 by rw [hts, keepW_snoc_no hik, Hk0.out])
    have hpm0 : ps.getD i0 (0, []) ∈ ps := by simp [hi0]
    have Hg0 := Lib.hid (show w1.heap[g]? = some (.cells (delCells k ps Z (i0 + 1) (wcell (ps.getD i0 (0, [])))).toArray 124 (0, 0)) by
      rw [hgZ, delCells, Hk1.out, ← wcells_snoc, ← hts, ← wcells_append, List.take_append_drop])
    have Hl0 := Lib.hid (wcell_len (Hok.out _ hpm0).2)
    have hc1 : w1.cell? ⟨G, 0, none⟩ = some (.int .i64 (k : Int)) := (hb1.cell (p := ⟨G, 0, none⟩) hG).trans hc
    have HlZ := Lib.hid hlZ
    have hn1 : IntKind.i64.wrap ((i0 : Int) + 1) = (i0 : Int) + 1 := by rw [IntKind.wrap_i64]; omega
    have hbq : ((i0 : Int) == -1) = false := by rw [beq_eq_false_iff_ne]; omega
    clear hgZ hlZ hall hts hpm0 hik hown1
    generalize wcell (ps.getD i0 (0, [])) = M0 at Hg0 Hl0
    go_wp2
    go_loopw [5, 6] (fun si sj wr => ∃ (i j : Nat) (M : List Value), j ≤ ps.length ∧ i + 1 ≤ j ∧ si = .int .i64 i ∧ sj = .int .i64 j ∧ (keepW k (ps.take j)).length = i ∧ M.length = (j - i) * 33 ∧ wr.heap[g]? = some (.cells (delCells k ps Z j M).toArray 124 (0, 0)) ∧ Chg (fun x => x = g) w1 wr) (fun _ sj _ => ps.length - (intOf sj).toNat)
    case atStart => exact ⟨i0, i0 + 1, M0, by omega, by omega, rfl, by go_num, by rw [Hk1.out, List.length_take]; omega, by rw [Hl0.out]; omega, Hg0.out, Chg.refl _ _⟩
    case round =>
      obtain ⟨i, j, M, hj, hij, rfl, rfl, hfl, hMl, hbg, hch⟩ := hrel
      have Hfl := Lib.hid hfl
      have Hch := Lib.hid hch
      have i0' : (0 : Int) ≤ (i : Int) := by omega
      have i1' : (i : Int) < (ps.length : Int) := by omega
      have hglr : g < wr.heap.size := (Array.getElem?_eq_some_iff.1 hbg).1
      have HFl := Lib.hid (show (wcells (keepW k (ps.take j))).length = i * 33 by rw [wcells_len (keepW_ok (fun q hq => Hok.out q (List.mem_of_mem_take hq))), hfl])
      clear hfl hch
      by_cases hlt : j < ps.length
      · have hpm : ps.getD j (0, []) ∈ ps := by simp [hlt]
        have Hwl := Lib.hid (wcell_len (Hok.out _ hpm).2)
        have Hts := Lib.hid (take_getD_succ hlt)
        have Hone := Lib.hid (show ∀ u ∈ wcell (ps.getD j (0, [])), u.oneCell' = true from fun u hu => by
          rcases List.mem_cons.1 hu with rfl | hu
          · rfl
          · exact map_bv_one u hu)
        have Hbg := Lib.hid (show wr.heap[g]? = some (.cells (wcells (keepW k (ps.take j)) ++ M ++ wcell (ps.getD j (0, [])) ++ (wcells (ps.drop (j + 1)) ++ Z)).toArray 124 (0, 0)) by
          rw [hbg, delCells, wcells_drop hlt]; simp)
        have HE := Lib.hid (show ∀ (F : List (Nat × List UInt8)) (M' : List Value), keepW k (ps.take (j + 1)) = F → delCells k ps Z (j + 1) M' = wcells F ++ M' ++ wcells (ps.drop (j + 1)) ++ Z from fun F M' e => by rw [← e]; rfl)
        have hcr : wr.cell? ⟨G, 0, none⟩ = some (.int .i64 (k : Int)) := (World.cell?_of_block (a := ⟨G, 0, none⟩) (Hch.out.block G (Nat.lt_of_lt_of_le hG hb1.size) hGg)).trans hc1
        have hGr : G < wr.heap.size := Nat.lt_of_lt_of_le (Nat.lt_of_lt_of_le hG hb1.size) Hch.out.size
        generalize ps.getD j (0, []) = p at Hwl Hts Hone Hbg
        have Hkp := Lib.hid (fun (h : p.1 ≠ k) => (by rw [Hts.out]; exact keepW_snoc_yes h : keepW k (ps.take (j + 1)) = keepW k (ps.take j) ++ [p]))
        have Hkn := Lib.hid (fun (h : p.1 = k) => (by rw [Hts.out]; exact keepW_snoc_no h : keepW k (ps.take (j + 1)) = keepW k (ps.take j)))
        generalize keepW k (ps.take j) = F at HFl Hfl Hbg Hkp Hkn
        have Hrp := Lib.hid (range_list Hbg.out (show (wcells F ++ M).length = j * 33 by rw [List.length_append, HFl.out, hMl]; omega))
        have CL := Lib.hid (fun W hc hG => closure_any p G k W hc hG)
        have Hcr := Lib.hid hcr
        have k0 : (0 : Int) ≤ (j : Int) := by omega
        have k1 : (j : Int) < (ps.length : Int) := by omega
        have hn2 : IntKind.i64.wrap ((j : Int) + 1) = (j : Int) + 1 := by rw [IntKind.wrap_i64]; omega
        have hn3 : IntKind.i64.wrap ((i : Int) + 1) = (i : Int) + 1 := by rw [IntKind.wrap_i64]; omega
        clear hbg hpm hcr hn1
        by_cases hpk : p.1 = k
        · have Hks := Lib.hid (Hkn.out hpk)
          rw [decide_eq_true hpk] at CL
          clear hpk Hkp Hkn
          go_wp2_with (first
            | (refine wpList_load_mid rfl 124 _ (by rfl) g (j * 33) (by rfl) (wcell p) _ Hrp.out Tryz.underlying124 rfl (by rw [Hwl.out]; exact (by kernel_rfl : (Tryz.prog.info? 124).map (·.size) = some 33)) ?_)
            | (refine wpList_store_blk rfl 124 _ _ (by rfl) wr.heap.size 0 (.agg (wcell p).toArray) (by rfl) (by rfl) (Value.int .i64 0 :: List.replicate 32 (Value.int .u8 0)) 124 (heap_alloc_new _ _) (wcell p) (by rfl) 33 Hwl.out (by kernel_rfl) (by decide) Hone.out (wcell p) (spl_all (by rw [Hwl.out]; rfl)) ?_
               intro w2 h2 hg2
               have hB2 : Below wr.heap.size wr w2 := (below1 wr _).grown hg2 (by simp) (fun x hx => by injection hx with hx; omega)
               have HB2 := Lib.hid hB2
               have Hr2 := Lib.hid (show w2.rangeAt wr.heap.size 0 (wcell p) from fun x v hx => by rw [Nat.zero_add, cell_of_row _ _ _ _ _ _ h2]; simpa using hx)
               have HG2 := Lib.hid ((hB2.cell (p := ⟨G, 0, none⟩) hGr).trans Hcr.out)
               have Hg2lt := Lib.hid (Nat.lt_of_lt_of_le hglr hB2.size)
               have HGlt := Lib.hid (Nat.lt_of_lt_of_le hGr hB2.size)
               have Hg2 := Lib.hid ((hB2.block g hglr).trans Hbg.out)
               have Hslt := Lib.hid ((Array.getElem?_eq_some_iff.1 h2).1)
               clear h2 hg2 hB2)
            | (refine wpList_load_mid rfl 124 _ (by rfl) wr.heap.size 0 (by rfl) (wcell p) _ Hr2.out Tryz.underlying124 rfl (by rw [Hwl.out]; exact (by kernel_rfl : (Tryz.prog.info? 124).map (·.size) = some 33)) ?_)
            | (go_at_call 109
               refine (CL.out w2 HG2.out HGlt.out).mono ?_
               rintro e w3 ⟨rfl, hb3⟩))
          go_roundw
          case rel => exact ⟨i, j + 1, M ++ wcell p, by omega, by omega, rfl, by go_num, by rw [Hks.out]; exact Hfl.out, by rw [List.length_append, hMl, Hwl.out]; omega,
            by rw [HE.out _ _ Hks.out, hb3.block g Hg2lt.out, Hg2.out]; simp, ((Hch.out.trans (chg_below (fun x => x = g) HB2.out) fun _ _ e => e).trans (chg_below (fun x => x = g) hb3) fun _ _ e => e)⟩
          case measure => simp [intOf]; omega
        · have Hks := Lib.hid (Hkp.out hpk)
          rw [decide_eq_false hpk] at CL
          clear hpk Hkp Hkn
          have HM1 := Lib.hid (show (M.take 33).length = 33 by rw [List.length_take, hMl]; omega)
          have HM2 := Lib.hid (show (M.drop 33).length = (j - i) * 33 - 33 by rw [List.length_drop, hMl])
          have HM := Lib.hid (List.take_append_drop 33 M).symm
          go_wp2_with (first
            | (refine wpList_load_mid rfl 124 _ (by rfl) g (j * 33) (by rfl) (wcell p) _ Hrp.out Tryz.underlying124 rfl (by rw [Hwl.out]; exact (by kernel_rfl : (Tryz.prog.info? 124).map (·.size) = some 33)) ?_)
            | (refine wpList_store_blk rfl 124 _ _ (by rfl) wr.heap.size 0 (.agg (wcell p).toArray) (by rfl) (by rfl) (Value.int .i64 0 :: List.replicate 32 (Value.int .u8 0)) 124 (heap_alloc_new _ _) (wcell p) (by rfl) 33 Hwl.out (by kernel_rfl) (by decide) Hone.out (wcell p) (spl_all (by rw [Hwl.out]; rfl)) ?_
               intro w2 h2 hg2
               have hB2 : Below wr.heap.size wr w2 := (below1 wr _).grown hg2 (by simp) (fun x hx => by injection hx with hx; omega)
               have HB2 := Lib.hid hB2
               have Hr2 := Lib.hid (show w2.rangeAt wr.heap.size 0 (wcell p) from fun x v hx => by rw [Nat.zero_add, cell_of_row _ _ _ _ _ _ h2]; simpa using hx)
               have HG2 := Lib.hid ((hB2.cell (p := ⟨G, 0, none⟩) hGr).trans Hcr.out)
               have Hg2lt := Lib.hid (Nat.lt_of_lt_of_le hglr hB2.size)
               have HGlt := Lib.hid (Nat.lt_of_lt_of_le hGr hB2.size)
               have Hg2 := Lib.hid ((hB2.block g hglr).trans Hbg.out)
               have Hslt := Lib.hid ((Array.getElem?_eq_some_iff.1 h2).1)
               clear h2 hg2 hB2)
            | (refine wpList_load_mid rfl 124 _ (by rfl) wr.heap.size 0 (by rfl) (wcell p) _ Hr2.out Tryz.underlying124 rfl (by rw [Hwl.out]; exact (by kernel_rfl : (Tryz.prog.info? 124).map (·.size) = some 33)) ?_)
            | (go_at_call 109
               refine (CL.out w2 HG2.out HGlt.out).mono ?_
               rintro e w3 ⟨rfl, hb3⟩
               have HB3 := Lib.hid hb3
               have Hr3 := Lib.hid (range_heap Hr2.out (hb3.block _ Hslt.out))
               have Hg3 := Lib.hid (show w3.heap[g]? = some (.cells (wcells F ++ M.take 33 ++ (M.drop 33 ++ wcell p ++ (wcells (ps.drop (j + 1)) ++ Z))).toArray 124 (0, 0)) by
                 rw [hb3.block g Hg2lt.out, Hg2.out]
                 have e := HM.out
                 generalize M.take 33 = Ma at e
                 generalize M.drop 33 = Mb at e
                 rw [e]; simp)
               clear hb3)
            | (refine wpList_load_mid rfl 124 _ (by rfl) wr.heap.size 0 (by rfl) (wcell p) _ Hr3.out Tryz.underlying124 rfl (by rw [Hwl.out]; exact (by kernel_rfl : (Tryz.prog.info? 124).map (·.size) = some 33)) ?_)
            | (refine wpList_store_blk rfl 124 _ _ (by rfl) g (i * 33) (.agg (wcell p).toArray) (by rfl) (by rfl) (wcells F ++ M.take 33 ++ (M.drop 33 ++ wcell p ++ (wcells (ps.drop (j + 1)) ++ Z))) 124 Hg3.out (wcell p) (by rfl) 33 Hwl.out (by kernel_rfl) (by rw [List.length_append, List.length_append, HFl.out, HM1.out]; omega) Hone.out _ (spl_mid HFl.out (by rw [HM1.out, Hwl.out])) ?_
               intro w4 h4 hg4
               have Hb4 := Lib.hid h4
               have Hg4 := Lib.hid hg4
               clear h4 hg4))
          go_roundw
          case rel => exact ⟨i + 1, j + 1, M.drop 33 ++ wcell p, by omega, by omega, by go_num, by go_num, by rw [Hks.out, List.length_append, Hfl.out]; rfl, by rw [List.length_append, HM2.out, Hwl.out]; omega,
            by rw [HE.out _ _ Hks.out, Hb4.out, wcells_snoc]; simp, (((Hch.out.trans (chg_below (fun x => x = g) HB2.out) fun _ _ e => e).trans (chg_below (fun x => x = g) HB3.out) fun _ _ e => e).trans (chg_grown Hg4.out) fun x _ e => by injection e with e; exact e.symm)⟩
          case measure => simp [intOf]; omega
      · obtain rfl : j = ps.length := by omega
        rw [List.take_length] at Hfl HFl
        have Hbg := Lib.hid (show wr.heap[g]? = some (.cells (wcells (keepW k ps) ++ (M ++ Z)).toArray 124 (0, 0)) by
          rw [hbg, delCells, List.take_length, List.drop_length]; simp [wcells])
        have hMZ := HlZ.out
        rw [List.length_append, wcells_len Hok.out] at hMZ
        have HLa := Lib.hid (show (wcells (keepW k ps) ++ (M ++ Z)).length = pc * 33 by rw [List.length_append, HFl.out, List.length_append, hMl]; omega)
        have hic : (i : Int) ≤ (pc : Int) := by omega
        have hil : (i : Int) ≤ (ps.length : Int) := by omega
        have hine : ¬ pc = i := by omega
        have hz : ∀ w, (zeroValue 124).run Tryz.prog w = .ok (.agg (Value.int .i64 0 :: List.replicate 32 (Value.int .u8 0)).toArray) w := fun w => (Tryz.zeroValue124 w).trans rfl
        have Hz := Lib.hid hz
        clear hbg hMZ hz
        go_wp2_with (refine wpList_clear_blk rfl _ 114 124 rfl g (i * 33) (ps.length - i) (pc - i) 33 (by rfl) (by omega) Tryz.underlying114 (.agg (Value.int .i64 0 :: List.replicate 32 (Value.int .u8 0)).toArray) Hz.out rfl zw_one (by omega) (wcells (keepW k ps) ++ (M ++ Z)) 124 Hbg.out (by rw [HLa.out]; have : (i + (ps.length - i)) * 33 ≤ pc * 33 := Nat.mul_le_mul_right _ (by omega); omega) ?_; intro w5 vs hvl h5 hg5)
        go_ret
        have e5 : spl (wcells (keepW k ps) ++ (M ++ Z)) (i * 33) vs = wcells (keepW k ps) ++ (vs ++ (M ++ Z).drop vs.length) := by
          unfold spl
          rw [← HFl.out, List.take_left, List.append_assoc]
          congr 2
          rw [List.drop_append, List.drop_of_length_le (by omega), List.nil_append]
          congr 1
          omega
        rw [e5] at h5
        refine ⟨_, rfl, ?_, ((chg_below (fun x => (Value.slice (some ⟨g, 0, none⟩) ps.length pc).ownBlock = some x) hb1).trans Hch.out fun x _ e => by rw [e]; rfl).trans (chg_grown hg5) fun x _ e => e, fun x hx => hx⟩
        rw [Hfl.out]
        exact own_join (by rw [HFl.out]) hBg h5 (by rw [← e5, spl_len (by rw [HLa.out, hvl]; have : (i + (ps.length - i)) * 33 ≤ pc * 33 := Nat.mul_le_mul_right _ (by omega); omega), HLa.out]) (by omega) hmax
end Go.Proofs.YtenkkdnepmoihaaGreatDoor
end
section
set_option maxRecDepth 8000
namespace Go.Proofs.YtenkkdnepmoihaaGreatDoor
open Go.RowKit

section
variable (B b : Nat) (pv : Value) (D : Dsk) (w : World) (h : DskAt w B b pv D)
include h
theorem dsk_damage_no (k : Int) (A : Option Addr) (n c : Nat) (hk : -9223372036854775808 ≤ k ∧ k ≤ 9223372036854775807) (hn : n ≤ 140737488355328) (hE : takeE D.f k n ≠ 0) :
    Calls Tryz.prog 77 #[.pointer (some ⟨b, 0, none⟩), .int .i64 k, .slice A n c] w fun e w' => e = .returned (.int .i64 (takeE D.f k n)) ∧ Below w.heap.size w w' := by
  have C := Lib.hid (dsk_take_any B b pv D (w.alloc (.cells #[.int .i64 k] 3)) (h.below (below1 w _)) k A n c hk hn)
  have hb := below1 w (.cells #[.int .i64 k] 3)
  clear h
  generalize takeE D.f k n = E at C hE ⊢
  have e2 : (E != 0) = true := by rw [bne_iff_ne]; exact hE
  clear hE
  go_enter Tryz.func77, Tryz.ntmps77
  go_wp2_with fail
  refine C.out.mono ?_
  rintro e w' ⟨rfl, rfl⟩
  go_wp2
  go_ret
  exact ⟨rfl, hb⟩
set_option maxHeartbeats 800000 in
theorem dsk_damage_ok (k : Nat) (x : List UInt8) (A : Option Addr) (c : Nat) (hf : D.f = false) (hk : k < 52) (hx : x.length = 32) (hr : RdB w w.heap.size A x) (hps : D.ps.length ≤ 2000000) :
    Calls Tryz.prog 77 #[.pointer (some ⟨b, 0, none⟩), .int .i64 (k : Int), .slice A 32 c] w fun e w' => ∃ pv', e = .returned (.int .i64 0) ∧ DskAt w' B b pv' (D.damage k x) ∧ Chg (DF b pv) w w' ∧ NewOr w pv pv' := by
  have hB0 := below1 w (.cells #[.int .i64 (k : Int)] 3)
  have Hh := Lib.hid h
  have H0 := Lib.hid (h.below hB0)
  have C := Lib.hid (dsk_take_any B b pv D (w.alloc (.cells #[.int .i64 (k : Int)] 3)) H0.out (k : Int) A 32 c (by omega) (by omega))
  have hE : takeE D.f (k : Int) 32 = 0 := by
    have : reachE D.f (k : Int) = 0 := by unfold reachE; rw [hf, if_neg (by simp), if_neg (by omega)]
    unfold takeE; rw [this]; rfl
  rw [hE] at C
  obtain ⟨g, off, rfl, hg, hcells⟩ := hr.2 (by omega)
  have Hra := Lib.hid (show w.rangeAt g off (x.map bv) from fun j v hj => by
    obtain ⟨hj1, rfl⟩ := List.getElem?_eq_some_iff.1 hj
    have hj2 : j < x.length := by simpa using hj1
    rw [hcells j hj2]
    simp [bv, hj2])
  have Hx := Lib.hid hx
  have HS := Lib.hid h.ok.S
  have HN := Lib.hid h.ok.now
  have harr := arr_at (some ⟨g, off, none⟩) 32 c (Nat.le_refl _)
  have k0 : (0 : Int) ≤ (k : Int) := by omega
  have k1 : (k : Int) < 52 := by omega
  have Hplt := Lib.hid h.plt
  have hblt := h.lt
  have hG0 : (w.alloc (.cells #[.int .i64 (k : Int)] 3)).heap[w.heap.size]? = some (.cells #[.int .i64 (k : Int)] 3 (0, 0)) := heap_alloc_new _ _
  have Hra0 := Lib.hid (World.rangeAt_alloc Hra.out (.cells #[.int .i64 (k : Int)] 3))
  have HB0 := Lib.hid hB0
  have hs0 : (w.alloc (.cells #[.int .i64 (k : Int)] 3)).heap.size = w.heap.size + 1 := by simp
  clear h hcells hr hE hx hB0
  go_enter Tryz.func77, Tryz.ntmps77
  go_wp2_with fail
  generalize hw0 : w.alloc (.cells #[.int .i64 (k : Int)] 3) = w0 at C H0 hG0 Hra0 HB0 hs0 ⊢
  generalize hGe : w.heap.size = G at hG0 HB0 hs0 Hplt hblt hg ⊢
  have HGe := Lib.hid hGe
  have Hw0 := Lib.hid hw0
  clear hGe hw0
  refine C.out.mono ?_
  rintro e w' ⟨rfl, rfl⟩
  have HG0 := Lib.hid hG0
  go_wp2
  refine wp_region_still_tail 8 (by kernel_rfl) (by kernel_rfl) ?_
  simp only [List.take_succ_cons, List.take_zero, List.drop_succ_cons, List.drop_zero]
  change wpStill _ _ w'.drew _ _ _
  have hcG : w'.drew.cell? ⟨G, 0, none⟩ = some (.int .i64 (k : Int)) := cell_of_row w' G 0 _ _ _ HG0.out
  still_step
  still_step
  still_step
  still_step
  refine wpStill_load_mid rfl 112 _ (by rfl) g off (by rfl) (x.map bv) _ ((World.rangeAt_drew _ _ _ _).2 Hra0.out) Tryz.underlying112 rfl (by rw [List.length_map, Hx.out]; exact size_sec) ?_
  repeat still_step
  refine wpStill_nil ?_
  change wpList _ _ _ _ _ w'.drew
  refine wpList_store_blk rfl 112 _ _ (by rfl) b (k * 32) (.agg (x.map bv).toArray) (by rfl) (by rfl) (dcells D.S D.now pv D.f) 116 H0.out.blk (x.map bv) (by rfl) 32 (by rw [List.length_map, Hx.out]) size_sec (by rw [dcells_len HS.out HN.out]; omega) map_bv_one (dcells (putAt D.S k x) D.now pv D.f) (spl_Ssec HS.out hk Hx.out) ?_
  intro w1 hb1 hg1
  have HS' := Lib.hid (show (putAt D.S k x).length = 1664 from putAt_len HS.out (by omega) Hx.out)
  have HN' := Lib.hid (show (putAt D.now k x).length = 1664 from putAt_len HN.out (by omega) Hx.out)
  have HG1 := Lib.hid ((hg1.block G (show G < w'.heap.size by omega) (by intro e; injection e with e; omega)).trans HG0.out)
  have hr1 := range_sec (k := k) (range_S hb1)
  rw [sec_put_same HS.out hk Hx.out, Nat.zero_add] at hr1
  have Hr1 := Lib.hid hr1
  have Hb1 := Lib.hid hb1
  have Hg1 := Lib.hid (show w'.grownBy w1 (some b) from ⟨hg1.os, hg1.tape, hg1.output, hg1.size, hg1.block⟩)
  clear hb1 hg1 hr1 hcG hG0
  go_wp2
  refine wp_region_still_tail 11 (by kernel_rfl) (by kernel_rfl) ?_
  simp only [List.take_succ_cons, List.take_zero, List.drop_succ_cons, List.drop_zero]
  change wpStill _ _ w1.drew _ _ _
  have hcG : w1.drew.cell? ⟨G, 0, none⟩ = some (.int .i64 (k : Int)) := cell_of_row w1 G 0 _ _ _ HG1.out
  still_step
  still_step
  still_step
  still_step
  still_step
  still_step
  still_step
  refine wpStill_load_mid rfl 112 _ (by rfl) b (k * 32) (by rfl) (x.map bv) _ ((World.rangeAt_drew _ _ _ _).2 Hr1.out) Tryz.underlying112 rfl (by rw [List.length_map, Hx.out]; exact size_sec) ?_
  repeat still_step
  refine wpStill_nil ?_
  change wpList _ _ _ _ _ w1.drew
  refine wpList_store_blk rfl 112 _ _ (by rfl) b (1664 + k * 32) (.agg (x.map bv).toArray) (by rfl) (by rfl) (dcells (putAt D.S k x) D.now pv D.f) 116 Hb1.out (x.map bv) (by rfl) 32 (by rw [List.length_map, Hx.out]) size_sec (by rw [dcells_len HS'.out HN.out]; omega) map_bv_one (dcells (putAt D.S k x) (putAt D.now k x) pv D.f) (spl_Nsec HS'.out HN.out hk Hx.out) ?_
  intro w2 hb2 hg2
  have hc12 : Chg (fun j => j = b) w' w2 := (chg_grown Hg1.out).trans (chg_grown hg2).ofDrew (fun _ _ e => e) |>.mono fun i _ e => by injection e with e; exact e.symm
  have hG2 := (hg2.block G (show G < w1.heap.size by have := Hg1.out.size; omega) (by intro e; injection e with e; omega)).trans HG1.out
  have hcG2 : w2.cell? ⟨G, 0, none⟩ = some (.int .i64 (k : Int)) := cell_of_row w2 G 0 _ _ _ hG2
  have hG2lt : G < w2.heap.size := (Array.getElem?_eq_some_iff.1 hG2).1
  have hown2 : w2.ownsRow B 124 33 pv D.ps.length (wcells D.ps) := own_chg H0.out.own hc12 fun j hj e => H0.out.ne (by rw [hj, e])
  have hcp := cell_dpv hb2 HS'.out HN'.out
  have CD := Lib.hid (deletef_any pv B D.ps G k w2 hown2 Hh.out.ok.ps hps hcG2 hG2lt (fun e => by have := (Hplt.out G e).2; omega))
  have Hb2 := Lib.hid hb2
  have Hc12 := Lib.hid hc12
  have hb2lt : b < w2.heap.size := (Array.getElem?_eq_some_iff.1 hb2).1
  have hmf : ∀ (fn : Fn) (first cap : Array Value) (w : World), (Instr.makeFunc fn first cap).run Tryz.prog w = .ok (.func fn first cap) w := fun _ _ _ _ => rfl
  clear hb2 hg2 hc12 hG2 hcG2 hown2 hcG
  go_wp2_with fail
  refine CD.out.mono ?_
  rintro e w3 ⟨v3, rfl, hown3, hc3, hv3⟩
  have Hb3 := Lib.hid ((hc3.block b hb2lt (Hh.out.ne)).trans Hb2.out)
  have hv1 : v3.oneCell' = true := by rcases hown3.2 with ⟨rfl, _⟩ | ⟨g, cap, cur, rfl, _⟩ <;> rfl
  have hvc : v3.cells = #[v3] := by rcases hown3.2 with ⟨rfl, _⟩ | ⟨g, cap, cur, rfl, _⟩ <;> rfl
  have Hown3 := Lib.hid hown3
  have Hc3 := Lib.hid hc3
  have Hv1 := Lib.hid hv1
  have Hvc := Lib.hid hvc
  clear hown3 hc3 hv1 hvc hcp
  go_wp2_with (refine wpList_store_blk rfl 114 _ _ (by rfl) b 3328 v3 (by rfl) (by rfl) (dcells (putAt D.S k x) (putAt D.now k x) pv D.f) 116 Hb3.out [v3] Hvc.out 1 (by rfl) size_pend (by rw [dcells_len HS'.out HN'.out]; omega) (by intro u hu; simp at hu; subst hu; exact Hv1.out) (dcells (putAt D.S k x) (putAt D.now k x) v3 D.f) (spl_pv HS'.out HN'.out) ?_; intro w4 h4 hg4)
  go_ret
  have hne : v3.ownBlock ≠ some b := fun e => Hh.out.ne (hv3 b e)
  refine ⟨v3, rfl, ⟨?_, ?_, Hh.out.le, hne, Hh.out.ok.damage hk Hx.out⟩, ?_, fun j hj => .inl (hv3 j hj)⟩
  · rw [Dsk.damage_now Hh.out.ok hk Hx.out]; exact h4
  · exact own_heap Hown3.out fun j hj => hg4.block j (Hown3.out.lt j hj).2 (by intro e; injection e with e; exact hne (by rw [hj, e]))
  · have c0 : Chg (DF b pv) w w' := by rw [← Hw0.out]; exact chg_below _ (below1 w _)
    exact ((c0.trans Hc12.out fun i _ e => .inl e).trans Hc3.out fun i _ e => .inr e).trans (chg_grown hg4) fun i _ e => .inl (by injection e with e; exact e.symm)
end
end Go.Proofs.YtenkkdnepmoihaaGreatDoor
end
section
namespace Go.Proofs.YtenkkdnepmoihaaGreatDoor
open Go.RowKit

theorem dsk_damage_any (B b : Nat) (pv : Value) (D : Dsk) (w : World) (h : DskAt w B b pv D) (k : Int) (x : List UInt8) (A : Option Addr) (n c : Nat) (hn : n = x.length) (hk : -9223372036854775808 ≤ k ∧ k ≤ 9223372036854775807) (hr : RdB w w.heap.size A x) (hps : D.ps.length ≤ 2000000) :
    Calls Tryz.prog 77 #[.pointer (some ⟨b, 0, none⟩), .int .i64 k, .slice A n c] w fun e w' => ∃ pv', e = .returned (.int .i64 (takeE D.f k n)) ∧ DskAt w' B b pv' (D.damageE k x) ∧ Chg (DF b pv) w w' ∧ NewOr w pv pv' := by
  subst hn
  unfold Dsk.damageE
  by_cases he : takeE D.f k x.length = 0
  · obtain ⟨hf, h0, h1, hl⟩ := takeE_zero he
    have e := dsk_damage_ok B b pv D w h k.toNat x A c hf (by omega) hl hr hps
    rw [Int.toNat_of_nonneg h0] at e
    rw [if_pos he, he, hl]
    exact e
  · rw [if_neg he]
    refine (dsk_damage_no B b pv D w h k A x.length c hk (by have := hr.1; omega) he).mono ?_
    rintro e w' ⟨rfl, hb⟩
    exact ⟨pv, rfl, h.below hb, chg_below _ hb, NewOr.refl _ _⟩
end Go.Proofs.YtenkkdnepmoihaaGreatDoor
end
