/- Texts put together: CloneB, OwnZ, EraseMath, CopyS, OwnFull. -/
import Derived.Test.YtjnemopocmhfkaaDoorBbaa
import Derived.Lib.AppendZerosOnto
import Derived.Lib.LazyBuf
section
set_option maxRecDepth 8000
namespace Go.Proofs.YtjnemopocmhfkaaDoor
open Go.RowKit

theorem own_empty (w : World) : OwB 5 (w.alloc (.cells #[] 5)) w.heap.size (.slice (some ⟨w.heap.size, 0, none⟩) 0 0) [] :=
  ⟨World.ownsRow_lit w #[] 0 (Nat.le_refl _) (by unfold maxLen; omega) rfl, by simp⟩
theorem clone_any (A : Option Addr) (bs : List UInt8) (n c : Nat) (w : World) (hn : n = bs.length) (hp : 0 < bs.length) (hr : RdB w w.heap.size A bs) :
    Calls Tryd.prog 49 #[.slice A n c] w fun e w' => ∃ v, e = .returned v ∧ OwB 5 w' w.heap.size v bs ∧ Below w.heap.size w w' := by
  have hl := hr.1
  obtain ⟨b, off, rfl, hb, hc⟩ := hr.2 hp
  subst hn
  have ho := own_empty w
  have hq : ∀ W : World, (binOp .eql 48 (.slice (some ⟨b, off, none⟩) bs.length c) (.slice none 0 0)).run Tryd.prog W = .ok (.bool false) W := fun _ => rfl
  have hr1 := hr.below (below1 w (.cells #[] 5)) (Nat.le_refl _)
  go_enter Tryd.func49, Tryd.ntmps49
  go_wp2_with (at_builtin; refine wpList_append_B _ rfl _ _ _ rfl w.heap.size 5 Tryd.underlying48 info_u8 (.slice (some ⟨w.heap.size, 0, none⟩) 0 0) [] rfl ho w.heap.size (some ⟨b, off, none⟩) bs.length c bs rfl rfl hr1 (by simpa using hl) (by simp) ?_; intro v' w' hown hg hat)
  have hbw := (below1 w (.cells #[] 5)).grown hg (by simp) (by simp [Value.ownBlock])
  rw [List.nil_append] at hown
  go_ret
  exact ⟨v', rfl, hown, hbw⟩
end Go.Proofs.YtjnemopocmhfkaaDoor
end
section
namespace Go.Proofs.YtjnemopocmhfkaaDoor
open Go.RowKit

theorem zeroCells_u8 (n : Nat) : (Builtin.zeroCells (Value.int .u8 0).cells n).toList = List.replicate n (.int .u8 0) := by
  rw [← toList_madeCells_one]
  rw [show Builtin.zeroCells (Value.int .u8 0).cells n = madeCells #[.int .u8 0] (n * 1) from rfl, Nat.mul_one]
theorem zeroCells_size (n : Nat) : (Builtin.zeroCells (Value.int .u8 0).cells n).size = n := by
  rw [← Array.length_toList, zeroCells_u8, List.length_replicate]
section
variable {P : Program} (w : World)
theorem run_append_Z (base : Nat) (t tn ty e : TypeId) (kn : IntKind) (ht : P.underlying t = some (.slice e)) (htn : P.underlying tn = some (.int kn)) (hinfo : (P.info? e).map (fun i => (i.zero, i.size, i.bytes)) = some (some (.int .u8 0), 1, 1))
    (v : Value) (xs : List UInt8) (hown : OwB e w base v xs) (kq : IntKind) (n : Nat) (h0 : 0 < n) (hn : xs.length + n ≤ 1048576) (hbase : base ≤ w.heap.size) :
    ∃ v' w', (Builtin.append_ #[t, tn] ty #[v, .int kq (n : Int)]).run P w = .ok v' w' ∧ OwB e w' base v' (xs ++ List.replicate n 0) ∧ w.grownBy w' v.ownBlock ∧ (v'.ownBlock = v.ownBlock ∨ v'.ownBlock = some w.heap.size) := by
  obtain ⟨i, hi, hzz⟩ := Option.map_eq_some_iff.1 hinfo
  simp only [Prod.mk.injEq] at hzz
  obtain ⟨hz, hs, hb⟩ := hzz
  have hmap : (xs ++ List.replicate n (0 : UInt8)).map bv = xs.map bv ++ List.replicate n (.int .u8 0) := by simp [bv]
  have hlen : (xs ++ List.replicate n (0 : UInt8)).length = xs.length + n := by simp
  have grown : ∀ (old : Nat), old < xs.length + n → ∀ (row : Option Nat),
      OwB e (w.drew.alloc (.cells ((xs.map bv).toArray ++ Builtin.zeroCells (Value.int .u8 0).cells n ++ Builtin.zeroCells (Value.int .u8 0).cells (grownCap w (xs.length + n) old e - (xs.length + n))) e)) base
        (.slice (some ⟨w.heap.size, 0, none⟩) (xs.length + n) (grownCap w (xs.length + n) old e)) (xs ++ List.replicate n 0) ∧
      w.grownBy (w.drew.alloc (.cells ((xs.map bv).toArray ++ Builtin.zeroCells (Value.int .u8 0).cells n ++ Builtin.zeroCells (Value.int .u8 0).cells (grownCap w (xs.length + n) old e - (xs.length + n))) e)) row := by
    intro old ho row
    have hge := grownCap_ge w (xs.length + n) old e
    have hcm : grownCap w (xs.length + n) old e ≤ maxLen := grownCap_le_maxLen w (xs.length + n) old e (by unfold maxLen; omega)
    refine ⟨⟨⟨by simp, .inr ⟨w.heap.size, _, _, by rw [hlen], hbase, heap_alloc_new w.drew _, by rw [hlen]; exact hge, hcm, ?_, ?_⟩⟩, by rw [hlen]; omega⟩, ⟨rfl, rfl, rfl, by simp, fun k hk _ => heap_alloc_old w.drew _ hk⟩⟩
    · simp only [Array.size_append, List.size_toArray, zeroCells_size, List.length_map]
      omega
    · simp only [Array.toList_append, hmap, zeroCells_u8]
      rw [List.take_append_of_le_length (by simp), List.take_of_length_le (by simp)]
  rcases hown.1.2 with ⟨rfl, hx0⟩ | ⟨g, cap, cur, rfl, hbg, hg, hnc, hcm, hcs, htake⟩
  · obtain rfl : xs = [] := List.eq_nil_of_length_eq_zero hx0
    have hr := Lib.run_append_nil_zeros (P := P) w t tn ty e i _ kq kn ht htn hi hz n h0 (by omega) (by simp at hn; omega) (by rw [hb]; simp at hn; omega)
    have hgr := grown 0 (by simp; omega) (Value.ownBlock (.slice none 0 0))
    simp only [List.length_nil, Nat.zero_add, List.map_nil, List.nil_append, Array.empty_append] at hgr ⊢
    exact ⟨_, _, hr, hgr.1, hgr.2, .inr rfl⟩
  · by_cases hroom : xs.length + n ≤ cap
    · have hst := run_storeCells_at P g xs.length e (List.replicate n (.int .u8 0)) 0 cur w hg (by simp; omega) (fun u hu => by rw [List.eq_of_mem_replicate hu]; rfl)
      have hw : IntKind.i64.wrap (n : Int) = n := by rw [IntKind.wrap_i64]; omega
      have hneg : ¬ ((n : Int) < 0) := by omega
      have h48 : ¬ (281474976710656 < (n : Int)) := by omega
      have hn0 : n ≠ 0 := by omega
      have hadd : (⟨g, 0, none⟩ : Addr).add xs.length = ⟨g, xs.length, none⟩ := by unfold Addr.add; by_cases hx : xs.length = 0 <;> simp [hx]
      have hr : (Builtin.append_ #[t, tn] ty #[.slice (some ⟨g, 0, none⟩) xs.length cap, .int kq (n : Int)]).run P w = .ok (.slice (some ⟨g, 0, none⟩) (xs.length + n) cap) (w.setRow g (cur.toList.take xs.length ++ List.replicate n (Value.int .u8 0) ++ cur.toList.drop (xs.length + n)).toArray) := by
        simp only [List.length_replicate, Nat.add_zero] at hst
        simp [Builtin.append_, run_underlying ht, run_underlying htn, sizeOf, typeInfo, zeroValue, hi, hz, hs, hb, asInt, asIntOf, hw, hneg, h48, hn0, hroom, hadd, zeroCells_u8, hst]
      refine ⟨_, _, hr, ⟨⟨by simp, .inr ⟨g, cap, _, by rw [hlen], hbg, setRow_heap w g cur _ e _ hg, by rw [hlen]; exact hroom, hcm, ?_, ?_⟩⟩, by rw [hlen]; omega⟩, ⟨rfl, rfl, rfl, by simp, fun k _ hk => setRow_other w g k _ (fun e => hk (by simp [Value.ownBlock, e]))⟩, .inl rfl⟩
      · simp only [List.size_toArray, List.length_append, List.length_take, List.length_drop, Array.length_toList, List.length_replicate]
        omega
      · rw [Nat.mul_one] at htake
        rw [htake, hmap, List.toList_toArray, List.take_append_of_le_length (by simp), List.take_of_length_le (by simp)]
    · have holds : ∀ j u, (xs.map bv)[j]? = some u → w.cell? ((⟨g, 0, none⟩ : Addr).add j) = some u := hown.1.cells (g := g) rfl
      have hload : (Builtin.firstCells i.size xs.length (.slice (some ⟨g, 0, none⟩) xs.length cap)).run P w.drew = .ok (xs.map bv).toArray w.drew := by
        have := run_loadCells_list (P := P) w.drew ⟨g, 0, none⟩ (xs.map bv) holds
        simpa [Builtin.firstCells, hs] using this
      have hns := nextslicecap_le (need := xs.length + n) (old := cap) (by omega)
      have hr := Lib.run_append_grow_zeros (P := P) w t tn ty e i _ kq kn ht htn hi hz (some ⟨g, 0, none⟩) xs.length cap (xs.map bv) hload n h0 (by omega) (by omega) (by omega) (by rw [hb]; omega) (by rw [hb]; omega)
      have hgr := grown cap (by omega) (Value.ownBlock (.slice (some ⟨g, 0, none⟩) xs.length cap))
      exact ⟨_, _, hr, hgr.1, hgr.2, .inr rfl⟩
theorem wpList_append_Z {ops : Array Oper} {rest : List Oper} {o : Oper} {a : Act} {Q : Exit → Act → World → Prop} (hw : Region.wanted o (yielded ops a.tmps) = true) (s x : Operand) (t tn : TypeId)
    (ho : o.op = .call { callee := .builtin .append, args := #[s, x], argTypes := #[t, tn] }) (base : Nat) (e : TypeId) (kn : IntKind) (ht : P.underlying t = some (.slice e)) (htn : P.underlying tn = some (.int kn)) (hinfo : (P.info? e).map (fun i => (i.zero, i.size, i.bytes)) = some (some (.int .u8 0), 1, 1))
    (v : Value) (xs : List UInt8) (hs : a.eval s = v) (hown : OwB e w base v xs) (kq : IntKind) (n : Nat) (hx : a.eval x = .int kq (n : Int)) (h0 : 0 < n) (hn : xs.length + n ≤ 1048576) (hbase : base ≤ w.heap.size)
    (h : ∀ v' w', OwB e w' base v' (xs ++ List.replicate n 0) → w.grownBy w' v.ownBlock → (v'.ownBlock = v.ownBlock ∨ v'.ownBlock = some w.heap.size) → wpList P ops Q rest (a.put o.dst v') w') : wpList P ops Q (o :: rest) a w := by
  refine BigFrame.wpList_want hw fun K hK => ?_
  obtain ⟨v', w', hrun, h2, h3, h4⟩ := run_append_Z (P := P) w base t tn o.type e kn ht htn hinfo v xs hown kq n h0 hn hbase
  unfold Oper.wp execOp
  simp only [ho, resolve, invoke, builtin, Sem.run_bind, Sem.run_pure, Result.andThen_ok, List.map_toArray, List.map_cons, List.map_nil, hs, hx, hrun]
  exact hK _ _ (h v' w' h2 h3 h4)
end
end Go.Proofs.YtjnemopocmhfkaaDoor
end
section
namespace Go.Proofs.YtjnemopocmhfkaaDoor

section
variable {N : Nat} {p q : List UInt8} {all : List (List UInt8)} {i j : Nat}
end
end Go.Proofs.YtjnemopocmhfkaaDoor
end
section
set_option linter.unusedVariables false
set_option linter.unusedSimpArgs false
namespace Go.Proofs.YtjnemopocmhfkaaDoor
open Go.RowKit

def setsB (bs : List UInt8) : Nat → List UInt8 → List UInt8
  | _, [] => bs
  | o, x :: r => setsB (bs.set o x) (o + 1) r
theorem OwB.sets {e : TypeId} {B g n cap : Nat} : ∀ (xs : List UInt8) (o : Nat) {w : World} {bs : List UInt8}, OwB e w B (.slice (some ⟨g, 0, none⟩) n cap) bs → bs.length = n →
    OwB e (w.setCells g o (xs.map fun x => Value.int .u8 (x.toNat : Int))) B (.slice (some ⟨g, 0, none⟩) n cap) (setsB bs o xs) ∧ w.grownBy (w.setCells g o (xs.map fun x => Value.int .u8 (x.toNat : Int))) (some g)
  | [], _, w, _, h, _ => ⟨h, World.grownBy.refl w _⟩
  | x :: r, o, w, bs, h, hn => by
    obtain ⟨h1, h2⟩ := h.set hn o x
    obtain ⟨h3, h4⟩ := OwB.sets r (o + 1) h1 ((List.length_set ..).trans hn)
    exact ⟨h3, h2.trans h4⟩
theorem size_u8' (w : World) : (Go.sizeOf 5).run Tryd.prog w = .ok 1 w := by kernel_rfl
/-- copy(own, a text). -/
theorem wpList_copy_S {w : World} {ops : Array Oper} {rest : List Oper} {o : Oper} {a : Act} {Q : Exit → Act → World → Prop} (hw : Region.wanted o (yielded ops a.tmps) = true) (d x : Operand)
    (ho : o.op = .call { callee := .builtin .copy, args := #[d, x], argTypes := #[48, 9] })
    (g n cap B : Nat) (ds xs : List UInt8) (hd : a.eval d = .slice (some ⟨g, 0, none⟩) n cap) (hx : a.eval x = .string ⟨xs.toArray⟩) (hown : OwB 5 w B (.slice (some ⟨g, 0, none⟩) n cap) ds) (hdn : ds.length = n) (hle : xs.length ≤ n)
    (h : ∀ w', OwB 5 w' B (.slice (some ⟨g, 0, none⟩) n cap) (setsB ds 0 xs) → w.grownBy w' (some g) → ∀ r : Value, wpList Tryd.prog ops Q rest (a.put o.dst r) w') : wpList Tryd.prog ops Q (o :: rest) a w := by
  refine BigFrame.wpList_want hw fun K hK => ?_
  have hsz : (⟨xs.toArray⟩ : ByteArray).size = xs.length := by show xs.toArray.size = _; simp
  have hrun := Go.run_copy_string (P := Tryd.prog) w 48 9 o.type 5 g 0 n cap ⟨xs.toArray⟩ Tryd.underlying48 size_u8' (by rw [hsz]; exact hle)
    (fun j hj => by rw [Nat.zero_add, (hown.cell hdn j (by omega)).1]; rfl) (fun j hj => by rw [Nat.zero_add]; exact (hown.cell hdn j (by omega)).2)
  obtain ⟨h1, h2⟩ := hown.sets xs 0 hdn
  unfold Oper.wp execOp
  simp only [ho, resolve, invoke, builtin, Sem.run_bind, Sem.run_pure, Result.andThen_ok, List.map_toArray, List.map_cons, List.map_nil, hd, hx, hrun]
  exact hK _ _ (h _ h1 h2 _)
end Go.Proofs.YtjnemopocmhfkaaDoor
end
section
set_option linter.unusedVariables false
set_option linter.unusedSimpArgs false
namespace Go.Proofs.YtjnemopocmhfkaaDoor
open Go.RowKit

theorem rdb_cells {w : World} {B : Nat} {ad : Addr} {bs : List UInt8} (hr : RdB w B (some ad) bs) : ∀ j u, (bs.map bv)[j]? = some u → w.cell? (ad.add j) = some u := by
  intro j u hu
  simp only [List.getElem?_map, Option.map_eq_some_iff] at hu
  obtain ⟨b, hb1, rfl⟩ := hu
  obtain ⟨hj, rfl⟩ := List.getElem?_eq_some_iff.1 hb1
  obtain ⟨b2, off, h, _, hc⟩ := hr.2 (by omega)
  injection h with h
  subst h
  have e1 : ((⟨b2, off, none⟩ : Addr).add j) = ⟨b2, off + j, none⟩ := by unfold Addr.add; by_cases hk0 : j = 0 <;> simp [hk0]
  rw [e1, hc j hj]
  simp [bv, hj]
section
variable {P : Program} (w : World)
theorem run_append_F (t ty e : TypeId) (ht : P.underlying t = some (.slice e)) (hinfo : (P.info? e).map (fun i => (i.zero, i.size, i.bytes)) = some (some (.int .u8 0), 1, 1))
    (A0 : Option Addr) (n B0 : Nat) (xs : List UInt8) (hx : xs.length = n) (h0 : 0 < n) (hr0 : RdB w B0 A0 xs) (A : Option Addr) (m c B : Nat) (bs : List UInt8) (hm : m = bs.length) (hm0 : 0 < bs.length) (hr : RdB w B A bs) (hn : n + bs.length ≤ 1048576) :
    ∃ v' w', (Builtin.append_ #[t, t] ty #[.slice A0 n n, .slice A m c]).run P w = .ok v' w' ∧ OwB e w' w.heap.size v' (xs ++ bs) ∧ Below w.heap.size w w' := by
  subst hx hm
  obtain ⟨i, hi, hzz⟩ := Option.map_eq_some_iff.1 hinfo
  simp only [Prod.mk.injEq] at hzz
  obtain ⟨hz, hs, hb⟩ := hzz
  obtain ⟨b0, o0, rfl, _, _⟩ := hr0.2 h0
  obtain ⟨b1, o1, rfl, _, _⟩ := hr.2 hm0
  have hr2 := run_append_grow (P := P) w t ty e i _ ht hi hz ⟨b0, o0, none⟩ xs.length xs.length (xs.map bv) (by rw [hs]; simp) (rdb_cells hr0) ⟨b1, o1, none⟩ bs.length c (bs.map bv) (by rw [hs]; simp) (rdb_cells hr) (by omega) (by omega) (by
    have := growslice_fits (old := xs.length) (need := xs.length + bs.length) (bytes := i.bytes) (by omega) (by rw [hb]; omega)
    exact this)
  have hge := grownCap_ge w (xs.length + bs.length) xs.length e
  have hcm : grownCap w (xs.length + bs.length) xs.length e ≤ maxLen := grownCap_le_maxLen w (xs.length + bs.length) xs.length e (by unfold maxLen; omega)
  refine ⟨_, _, hr2, ⟨⟨by simp, .inr ⟨w.heap.size, _, _, by rw [List.length_append], Nat.le_refl _, heap_alloc_new w.drew _, by rw [List.length_append]; exact hge, hcm, ?_, ?_⟩⟩, by simp; omega⟩, ((Below.refl w.heap.size w).drew.trans (below1 w.drew _))⟩
  · simp only [Array.size_append, List.size_toArray, zeroCells_size, List.length_map]
    omega
  · simp only [Array.toList_append, List.map_append]
    rw [List.take_append_of_le_length (by simp), List.take_of_length_le (by simp)]
theorem wpList_append_F {ops : Array Oper} {rest : List Oper} {o : Oper} {a : Act} {Q : Exit → Act → World → Prop} (hw : Region.wanted o (yielded ops a.tmps) = true) (s x : Operand) (t : TypeId)
    (ho : o.op = .call { callee := .builtin .append, args := #[s, x], argTypes := #[t, t] })
    (e : TypeId) (ht : P.underlying t = some (.slice e)) (hinfo : (P.info? e).map (fun i => (i.zero, i.size, i.bytes)) = some (some (.int .u8 0), 1, 1))
    (A0 : Option Addr) (n B0 : Nat) (xs : List UInt8) (hs : a.eval s = .slice A0 n n) (hl : xs.length = n) (h0 : 0 < n) (hr0 : RdB w B0 A0 xs) (A : Option Addr) (m c B : Nat) (bs : List UInt8) (hx : a.eval x = .slice A m c) (hm : m = bs.length) (hm0 : 0 < bs.length) (hr : RdB w B A bs) (hn : n + bs.length ≤ 1048576)
    (h : ∀ v' w', OwB e w' w.heap.size v' (xs ++ bs) → Below w.heap.size w w' → wpList P ops Q rest (a.put o.dst v') w') : wpList P ops Q (o :: rest) a w := by
  refine BigFrame.wpList_want hw fun K hK => ?_
  obtain ⟨v', w', hrun, h2, h3⟩ := run_append_F (P := P) w t o.type e ht hinfo A0 n B0 xs hl h0 hr0 A m c B bs hm hm0 hr hn
  unfold Oper.wp execOp
  simp only [ho, resolve, invoke, builtin, Sem.run_bind, Sem.run_pure, Result.andThen_ok, List.map_toArray, List.map_cons, List.map_nil, hs, hx, hrun]
  exact hK _ _ (h v' w' h2 h3)
end
end Go.Proofs.YtjnemopocmhfkaaDoor
end
