/- Texts put together: OpsKit, Own, Within0, Keep, KeepCopy, KeepCut, GfMath. -/
import Derived.Test.YtenkkdnepmoihaaGreatDoorProg
import Derived.Test.YtenkkdnepmoihaaGreatDoorUraa
import Derived.Maps.AppendAt
import Derived.Laws.AppendOwnNone
import Derived.Deep.AppendLies
import Derived.Laws.CopyOwn
section
namespace Go.Proofs.YtenkkdnepmoihaaGreatDoor
open Go.RowKit

theorem conv_const (w : World) (B : Nat) (C : Array Value) (n c : Nat) (hB : B = w.heap.size) :
    (convert 35 35 (.slice (some ⟨B, 0, none⟩) n c)).run Tryz.prog (w.alloc (.cells C 5)) = .ok (.slice (some ⟨B, 0, none⟩) n c) (w.alloc (.cells C 5 (C.size, C.size + 1))) := by
  subst hB; exact Lib.run_convert_bytes_const (P := Tryz.prog) w 35 5 C n c Tryz.underlying35 Tryz.underlying5
theorem info_u8 : (Tryz.prog.info? 5).map (fun i => (i.zero, i.size, i.bytes)) = some (some (.int .u8 0), 1, 1) := by kernel_rfl
theorem make_bytes (n : Nat) (hn : n ≤ 140737488355328) (w : World) :
    (Instr.makeSlice 35 (.int .i64 (n : Int)) (.int .i64 (n : Int))).run Tryz.prog w = .ok (.slice (some ⟨w.heap.size, 0, none⟩) n n) (w.alloc (.cells (zcells n) 5)) :=
  run_make_row' _ _ _ 1 Tryz.underlying35 info_u8 rfl _ _ n (by omega) (by omega) w
end Go.Proofs.YtenkkdnepmoihaaGreatDoor
end
section
namespace Go.Proofs.YtenkkdnepmoihaaGreatDoor
open Go.RowKit

theorem map_bv_one {bs : List UInt8} : ∀ u ∈ bs.map bv, u.oneCell' = true := fun u hu => by
  obtain ⟨b, _, rfl⟩ := List.mem_map.1 hu
  rfl
/-- The slice value v owns these bytes, in a block from B on. -/
def OwB (e : TypeId) (w : World) (B : Nat) (v : Value) (bs : List UInt8) : Prop := w.ownsRow B e 1 v bs.length (bs.map bv) ∧ bs.length ≤ 140737488355328

section
variable {e : TypeId} {w w' : World} {B B' : Nat} {v : Value} {bs : List UInt8}
theorem OwB.nil (e : TypeId) (w : World) (B : Nat) : OwB e w B (.slice none 0 0) [] := ⟨World.ownsRow_nil _ _ _ _, by simp⟩
/-- What an own slice is: nil and empty, or a row of its own block. -/
theorem OwB.form (h : OwB e w B v bs) : (v = .slice none 0 0 ∧ bs = []) ∨ ∃ g cap cur, v = .slice (some ⟨g, 0, none⟩) bs.length cap ∧ B ≤ g ∧ w.heap[g]? = some (.cells cur e (0, 0)) ∧ bs.length ≤ cap ∧ cap ≤ maxLen ∧ cur.size = cap ∧
    (∀ k, k < bs.length → cur[k]? = some (.int .u8 ((bs.getD k 0).toNat : Int))) := by
  rcases h.1.2 with ⟨h1, h2⟩ | ⟨g, cap, cur, h1, h2, h3, h4, h5, h6, h7⟩
  · exact .inl ⟨h1, List.eq_nil_of_length_eq_zero h2⟩
  · refine .inr ⟨g, cap, cur, h1, h2, h3, h4, h5, by simpa using h6, fun k hk => ?_⟩
    have : (cur.toList.take (bs.length * 1))[k]? = (bs.map bv)[k]? := by rw [h7]
    rw [List.getElem?_take, if_pos (by omega), Array.getElem?_toList] at this
    rw [this]
    simp [hk, bv]
theorem OwB.rd (h : OwB e w B v bs) : ∃ A cap, v = .slice A bs.length cap ∧ bs.length ≤ cap ∧ RdB w w.heap.size A bs := by
  rcases h.form with ⟨rfl, rfl⟩ | ⟨g, cap, cur, rfl, _, hg, hc, _, _, hk⟩
  · exact ⟨none, 0, rfl, Nat.le_refl _, RdB.nil _ _ _⟩
  · exact ⟨_, cap, rfl, hc, h.2, fun _ => ⟨g, 0, rfl, (Array.getElem?_eq_some_iff.1 hg).1, fun k hk' => by rw [Nat.zero_add, cell_of_row w g k cur e (0, 0) hg]; exact hk k hk'⟩⟩
theorem OwB.rdS {A : Option Addr} {n c : Nat} (h : OwB e w B (.slice A n c) bs) : RdB w w.heap.size A bs ∧ n = bs.length ∧ n ≤ c := by
  obtain ⟨A', c', hv, hc, hr⟩ := h.rd
  injection hv with h1 h2 h3
  subst h1 h2 h3
  exact ⟨hr, rfl, hc⟩
theorem OwB.pos (h : OwB e w B v bs) (hp : 0 < bs.length) : ∃ g cap, v = .slice (some ⟨g, 0, none⟩) bs.length cap ∧ B ≤ g ∧ g < w.heap.size ∧ bs.length ≤ cap ∧ cap ≤ maxLen ∧ RdB w w.heap.size (some ⟨g, 0, none⟩) bs := by
  obtain ⟨A, c, hv, _, hr⟩ := h.rd
  rcases h.form with ⟨_, rfl⟩ | ⟨g, cap, cur, rfl, hB, hg, hc, hm, _, _⟩
  · simp at hp
  · injection hv with h1 _ _
    exact ⟨g, cap, rfl, hB, (Array.getElem?_eq_some_iff.1 hg).1, hc, hm, h1 ▸ hr⟩
/-- A new row of n zero bytes. -/
theorem own_make (e : TypeId) (w : World) (n : Nat) (hn : n ≤ 140737488355328) : OwB e (w.alloc (.cells (zcells n) e)) w.heap.size (.slice (some ⟨w.heap.size, 0, none⟩) n n) (List.replicate n 0) := by
  refine ⟨?_, by simpa using hn⟩
  have h := World.ownsRow_lit (base := w.heap.size) (e := e) (size := 1) w (zcells n) n (Nat.le_refl _) (by unfold maxLen; omega) (by rw [zcells_size]; omega)
  unfold zcells at h ⊢
  rw [toList_madeCells_one] at h
  simpa [bv] using h
theorem OwB.grown {row : Option Nat} (h : OwB e w B v bs) (hg : w.grownBy w' row) (hne : v.ownBlock = none ∨ v.ownBlock ≠ row) : OwB e w' B v bs := ⟨h.1.kept hg hne, h.2⟩
theorem grown_none {a b : World} (h : Below a.heap.size a b) : a.grownBy b none := ⟨h.os, h.tape, h.output, h.size, fun k hk _ => h.block k hk⟩
theorem OwB.below (h : OwB e w B v bs) (hb : Below w.heap.size w w') : OwB e w' B v bs := h.grown (grown_none hb) (by cases v.ownBlock <;> simp)
theorem OwB.lt (h : OwB e w B v bs) : ∀ k, v.ownBlock = some k → B ≤ k ∧ k < w.heap.size := h.1.lt
theorem OwB.le (h : OwB e w B v bs) (hB : B' ≤ B) : OwB e w B' v bs := by
  refine ⟨⟨h.1.1, ?_⟩, h.2⟩
  rcases h.1.2 with h1 | ⟨g, cap, cur, h1, h2, r⟩
  · exact .inl h1
  · exact .inr ⟨g, cap, cur, h1, by omega, r⟩
end

section
variable {e : TypeId} {w w' : World} {B g n cap : Nat} {bs : List UInt8}
theorem OwB.cell (h : OwB e w B (.slice (some ⟨g, 0, none⟩) n cap) bs) (hn : bs.length = n) (j : Nat) (hj : j < n) : w.cell? ⟨g, j, none⟩ = some (.int .u8 ((bs.getD j 0).toNat : Int)) ∧ w.frozen? ⟨g, j, none⟩ = false := by
  subst hn
  refine ⟨?_, h.1.frozenAt j⟩
  rw [h.1.cellAt j (by omega)]
  simp [hj, bv]
theorem OwB.set (h : OwB e w B (.slice (some ⟨g, 0, none⟩) n cap) bs) (hn : bs.length = n) (j : Nat) (b : UInt8) :
    OwB e (w.setCell ⟨g, j, none⟩ (.int .u8 (b.toNat : Int))) B (.slice (some ⟨g, 0, none⟩) n cap) (bs.set j b) ∧ w.grownBy (w.setCell ⟨g, j, none⟩ (.int .u8 (b.toNat : Int))) (some g) := by
  subst hn
  obtain ⟨h1, h2⟩ := h.1.stored j (.int .u8 (b.toNat : Int))
  refine ⟨⟨?_, by simpa using h.2⟩, h2⟩
  rw [List.map_set, List.length_set]
  exact h1
theorem grown_of_below {a b : World} (h : Below a.heap.size a b) (row : Option Nat) : a.grownBy b row := ⟨h.os, h.tape, h.output, h.size, fun k hk _ => h.block k hk⟩
end

section
variable {P : Program} (w : World)
/-- append(own, source...): the source nil, empty or full. -/
theorem run_append_B (base : Nat) (t ty e : TypeId) (ht : P.underlying t = some (.slice e)) (hinfo : (P.info? e).map (fun i => (i.zero, i.size, i.bytes)) = some (some (.int .u8 0), 1, 1))
    (v : Value) (xs : List UInt8) (hown : OwB e w base v xs) (B : Nat) (A : Option Addr) (c : Nat) (bs : List UInt8) (hr : RdB w B A bs) (hn : xs.length + bs.length ≤ 140737488355328) (hbase : base ≤ w.heap.size) :
    ∃ v' w', (Builtin.append_ #[t, t] ty #[v, .slice A bs.length c]).run P w = .ok v' w' ∧ OwB e w' base v' (xs ++ bs) ∧ w.grownBy w' v.ownBlock ∧ (v'.ownBlock = v.ownBlock ∨ v'.ownBlock = some w.heap.size) := by
  obtain ⟨i, hi, hzz⟩ := Option.map_eq_some_iff.1 hinfo
  simp only [Prod.mk.injEq] at hzz
  obtain ⟨hz, hs, hb⟩ := hzz
  rcases A with _ | ad
  · have hm : bs = [] := by
      rcases bs with _ | ⟨b, r⟩
      · rfl
      · obtain ⟨_, _, h, _⟩ := hr.2 (by simp)
        cases h
    subst hm
    refine ⟨v, w, ?_, by simpa using hown, World.grownBy.refl w _, .inl rfl⟩
    rcases hown.1.2 with ⟨rfl, _⟩ | ⟨g, cap, cur, rfl, _, _, hnc, _⟩
    · simp [Builtin.append_, run_underlying ht, sizeOf, typeInfo, hi, Builtin.lenOf, Builtin.firstCells]
    · simp [Builtin.append_, run_underlying ht, sizeOf, typeInfo, hi, Builtin.lenOf, Builtin.firstCells, hnc, storeCells]
  · have hcells : ∀ j u, (bs.map bv)[j]? = some u → w.cell? (ad.add j) = some u := by
      intro j u hu
      simp only [List.getElem?_map, Option.map_eq_some_iff] at hu
      obtain ⟨b, hb1, rfl⟩ := hu
      obtain ⟨hj, rfl⟩ := List.getElem?_eq_some_iff.1 hb1
      obtain ⟨b2, off, h, _, hc⟩ := hr.2 (by omega)
      injection h with h
      subst h
      have e1 : ((⟨b2, off, none⟩ : Addr).add j) = ⟨b2, off + j, none⟩ := by unfold Addr.add; by_cases hk0 : j = 0 <;> simp [hk0]
      rw [e1, hc j hj]
      simp [bv, hj]
    obtain ⟨v', w', hrun, h2, h3, _, h5⟩ := run_append_own_at (P := P) w base t ty e i _ 1 1 ht hi hz hs hb rfl (by omega) v xs.length (xs.map bv) hown.1 ad bs.length c (bs.map bv) (by simp) hcells map_bv_one (by unfold maxLen; omega) (by omega) hbase
    exact ⟨v', w', hrun, ⟨by simpa using h2, by simpa using hn⟩, h3, h5⟩
theorem wpList_append_B {ops : Array Oper} {rest : List Oper} {o : Oper} {a : Act} {Q : Exit → Act → World → Prop} (hw : Region.wanted o (yielded ops a.tmps) = true) (s x : Operand) (t : TypeId)
    (ho : o.op = .call { callee := .builtin .append, args := #[s, x], argTypes := #[t, t] })
    (base : Nat) (e : TypeId) (ht : P.underlying t = some (.slice e)) (hinfo : (P.info? e).map (fun i => (i.zero, i.size, i.bytes)) = some (some (.int .u8 0), 1, 1))
    (v : Value) (xs : List UInt8) (hs : a.eval s = v) (hown : OwB e w base v xs) (B : Nat) (A : Option Addr) (n c : Nat) (bs : List UInt8) (hx : a.eval x = .slice A n c) (hnl : n = bs.length) (hr : RdB w B A bs)
    (hn : xs.length + bs.length ≤ 140737488355328) (hbase : base ≤ w.heap.size)
    (h : ∀ v' w', OwB e w' base v' (xs ++ bs) → w.grownBy w' v.ownBlock → (v'.ownBlock = v.ownBlock ∨ v'.ownBlock = some w.heap.size) → wpList P ops Q rest (a.put o.dst v') w') : wpList P ops Q (o :: rest) a w := by
  subst hnl
  refine BigFrame.wpList_want hw fun K hK => ?_
  obtain ⟨v', w', hrun, h2, h3, h4⟩ := run_append_B (P := P) w base t o.type e ht hinfo v xs hown B A c bs hr hn hbase
  unfold Oper.wp execOp
  simp only [ho, resolve, invoke, builtin, Sem.run_bind, Sem.run_pure, Result.andThen_ok, List.map_toArray, List.map_cons, List.map_nil, hs, hx, hrun]
  exact hK _ _ (h v' w' h2 h3 h4)

/-- copy(own, source): what own reads then. -/
def copyB (ds bs : List UInt8) : List UInt8 := bs.take ds.length ++ ds.drop bs.length
theorem copyB_len (ds bs : List UInt8) : (copyB ds bs).length = ds.length := by simp [copyB]; omega
theorem wpList_copy_B {w : World} {ops : Array Oper} {rest : List Oper} {o : Oper} {a : Act} {Q : Exit → Act → World → Prop} (hgd : o.guard = none) (d s : Operand) (t : TypeId)
    (ho : o.op = .call { callee := .builtin .copy, args := #[d, s], argTypes := #[t, t] }) (e : TypeId) (hu : P.underlying t = some (.slice e)) (hsz : (P.info? e).map (·.size) = some 1)
    (g n cap B : Nat) (ds : List UInt8) (hd : a.eval d = .slice (some ⟨g, 0, none⟩) n cap) (hown : OwB e w B (.slice (some ⟨g, 0, none⟩) n cap) ds) (hdn : ds.length = n)
    (B' : Nat) (A : Option Addr) (m c : Nat) (bs : List UInt8) (hs : a.eval s = .slice A m c) (hm : m = bs.length) (hr : RdB w B' A bs)
    (h : ∀ w', OwB e w' B (.slice (some ⟨g, 0, none⟩) n cap) (copyB ds bs) → w.grownBy w' (some g) → ∀ r : Value, wpList P ops Q rest (a.put o.dst r) w') : wpList P ops Q (o :: rest) a w := by
  subst hm hdn
  by_cases h0 : Nat.min bs.length ds.length = 0
  · refine wpList_copy_nothing hgd d s t t ho e hu hsz _ _ _ _ _ _ hd hs h0 (h w ?_ (World.grownBy.refl w _) _)
    have : copyB ds bs = ds := by
      unfold copyB
      rcases bs with _ | ⟨b, r⟩
      · simp
      · rcases ds with _ | ⟨x, y⟩
        · simp
        · exfalso
          have h1 : Nat.min (r.length + 1) (y.length + 1) = 0 := h0
          rcases Nat.le_total (r.length + 1) (y.length + 1) with hle | hle
          · rw [show Nat.min (r.length + 1) (y.length + 1) = r.length + 1 from Nat.min_eq_left hle] at h1; omega
          · rw [show Nat.min (r.length + 1) (y.length + 1) = y.length + 1 from Nat.min_eq_right hle] at h1; omega
    rw [this]
    exact hown
  · rcases hown.1.2 with ⟨h1, _⟩ | ⟨g', cap', cur, h1, h2, h3, h4, h5, h6, h7⟩
    · cases h1
    · injection h1 with h1 _ hc
      injection h1 with h1
      injection h1 with h1 _ _
      subst h1 hc
      have hpos : 0 < bs.length := by
        rcases Nat.eq_zero_or_pos bs.length with h | h
        · rw [h] at h0; exact absurd (show Nat.min 0 ds.length = 0 from Nat.zero_min _) h0
        · exact h
      obtain ⟨b2, off, rfl, _, hc2⟩ := hr.2 hpos
      have hkl : ((bs.take ds.length).map bv).length = Nat.min bs.length ds.length := by
        rw [List.length_map, List.length_take, Nat.min_comm]
      have hks : ((bs.take ds.length).map bv).length ≤ ds.length := by simp; omega
      refine wpList_copy_own hgd d s t t ho e hu hsz g 0 ds.length cap ⟨b2, off, none⟩ bs.length c hd hs cur e h3 ((bs.take ds.length).map bv) hkl ?_ (by omega) map_bv_one
        (h _ ⟨⟨by simp, .inr ⟨g, cap, _, by rw [copyB_len], h2, setRow_heap w g cur _ e (0, 0) h3, by rw [copyB_len]; exact h4, h5, ?_, ?_⟩⟩, by rw [copyB_len]; exact hown.2⟩
          ⟨rfl, rfl, rfl, by simp, fun k _ hk => setRow_other w g k _ (fun e => hk (by rw [e]))⟩ _)
      · intro j v hj
        simp only [List.getElem?_map, Option.map_eq_some_iff] at hj
        obtain ⟨b, hb1, rfl⟩ := hj
        obtain ⟨hjl, rfl⟩ := List.getElem?_eq_some_iff.1 hb1
        have hjb : j < bs.length := by simp at hjl; omega
        have e1 : ((⟨b2, off, none⟩ : Addr).add j) = ⟨b2, off + j, none⟩ := by unfold Addr.add; by_cases hk0 : j = 0 <;> simp [hk0]
        rw [e1, hc2 j hjb]
        simp [bv, hjb]
      · simp only [List.size_toArray, List.length_append, List.length_take, List.length_drop, Array.length_toList]
        omega
      · rw [copyB_len, List.toList_toArray, Nat.mul_one, List.take_zero, List.nil_append, Nat.zero_add]
        rw [List.take_append, List.take_of_length_le hks, copyB, List.map_append]
        congr 1
        rw [Nat.mul_one] at h7
        rw [← List.drop_take, h7, List.map_drop]
        apply List.ext_getElem?
        intro j
        simp only [List.getElem?_drop, hkl]
        by_cases hle : bs.length ≤ ds.length
        · rw [show Nat.min bs.length ds.length = bs.length from Nat.min_eq_left hle]
        · rw [show Nat.min bs.length ds.length = ds.length from Nat.min_eq_right (by omega), List.getElem?_eq_none (by simp), List.getElem?_eq_none (by simp; omega)]

/-- A slice that holds these values, one cell each. -/
def RdV (w : World) (B : Nat) (A : Option Addr) (xs : List Value) : Prop :=
  0 < xs.length → ∃ b off, A = some ⟨b, off, none⟩ ∧ b < B ∧ ∀ k, k < xs.length → w.cell? ⟨b, off + k, none⟩ = xs[k]?
theorem wpList_append_V {w : World} {ops : Array Oper} {rest : List Oper} {o : Oper} {a : Act} {Q : Exit → Act → World → Prop} (hw : Region.wanted o (yielded ops a.tmps) = true) (s x : Operand) (t : TypeId)
    (ho : o.op = .call { callee := .builtin .append, args := #[s, x], argTypes := #[t, t] })
    (base : Nat) (e : TypeId) (z : Value) (bytes : Nat) (ht : P.underlying t = some (.slice e)) (hinfo : (P.info? e).map (fun i => (i.zero, i.size, i.bytes)) = some (some z, 1, bytes)) (hz1 : z.cells.size = 1)
    (v : Value) (n : Nat) (xs : List Value) (hs : a.eval s = v) (hown : w.ownsRow base e 1 v n xs) (B : Nat) (A : Option Addr) (m c : Nat) (news : List Value) (hx : a.eval x = .slice A m c) (hm : m = news.length)
    (hr : RdV w B A news) (h1 : ∀ u ∈ news, u.oneCell' = true) (h63 : n + m ≤ maxLen) (hbytes : (n + m) * bytes ≤ 140737488355328) (hbase : base ≤ w.heap.size)
    (h : ∀ v' w', w'.ownsRow base e 1 v' (n + m) (xs ++ news) → w.grownBy w' v.ownBlock → (v'.ownBlock = v.ownBlock ∨ v'.ownBlock = some w.heap.size) → wpList P ops Q rest (a.put o.dst v') w') : wpList P ops Q (o :: rest) a w := by
  subst hm
  refine BigFrame.wpList_want hw fun K hK => ?_
  obtain ⟨i, hi, hzz⟩ := Option.map_eq_some_iff.1 hinfo
  simp only [Prod.mk.injEq] at hzz
  obtain ⟨hz, hsz, hb⟩ := hzz
  have hrun : ∃ v' w', (Builtin.append_ #[t, t] o.type #[v, .slice A news.length c]).run P w = .ok v' w' ∧ w'.ownsRow base e 1 v' (n + news.length) (xs ++ news) ∧ w.grownBy w' v.ownBlock ∧ (v'.ownBlock = v.ownBlock ∨ v'.ownBlock = some w.heap.size) := by
    rcases A with _ | ad
    · have hm : news = [] := by
        rcases news with _ | ⟨b, r⟩
        · rfl
        · obtain ⟨_, _, h, _⟩ := hr (by simp)
          cases h
      subst hm
      refine ⟨v, w, ?_, by simpa using hown, World.grownBy.refl w _, .inl rfl⟩
      rcases hown.2 with ⟨rfl, _⟩ | ⟨g, cap, cur, rfl, _, _, hnc, _⟩
      · simp [Builtin.append_, run_underlying ht, sizeOf, typeInfo, hi, Builtin.lenOf, Builtin.firstCells]
      · simp [Builtin.append_, run_underlying ht, sizeOf, typeInfo, hi, Builtin.lenOf, Builtin.firstCells, hnc, storeCells]
    · have hcells : ∀ j u, news[j]? = some u → w.cell? (ad.add j) = some u := by
        intro j u hu
        obtain ⟨hj, _⟩ := List.getElem?_eq_some_iff.1 hu
        obtain ⟨b2, off, h, _, hc⟩ := hr (by omega)
        injection h with h
        subst h
        have e1 : ((⟨b2, off, none⟩ : Addr).add j) = ⟨b2, off + j, none⟩ := by unfold Addr.add; by_cases hk0 : j = 0 <;> simp [hk0]
        rw [e1, hc j hj, hu]
      obtain ⟨v', w', hrun, h2, h3, _, h5⟩ := run_append_own_at (P := P) w base t o.type e i _ 1 bytes ht hi hz hsz hb hz1 (by omega) v n xs hown ad news.length c news (by simp) hcells h1 h63 hbytes hbase
      exact ⟨v', w', hrun, h2, h3, h5⟩
  obtain ⟨v', w', hrun, h2, h3, h4⟩ := hrun
  unfold Oper.wp execOp
  simp only [ho, resolve, invoke, builtin, Sem.run_bind, Sem.run_pure, Result.andThen_ok, List.map_toArray, List.map_cons, List.map_nil, hs, hx, hrun]
  exact hK _ _ (h v' w' h2 h3 h4)
end
end Go.Proofs.YtenkkdnepmoihaaGreatDoor
end
section
namespace Go.Proofs.YtenkkdnepmoihaaGreatDoor
open Go.RowKit

def withinI (v n : Int) : Int := if n < 1 then 0 else v % n
theorem withinI_bd (v n : Int) (hn : 1 ≤ n) : 0 ≤ withinI v n ∧ withinI v n < n := by
  unfold withinI
  rw [if_neg (by omega)]
  exact ⟨Int.emod_nonneg _ (by omega), Int.emod_lt_of_pos _ (by omega)⟩
theorem tmod_within (v n : Int) (hn : 1 ≤ n) : withinI v n = if v.tmod n < 0 then v.tmod n + n else v.tmod n := by
  have h0 := Int.emod_nonneg v (show n ≠ 0 by omega)
  have h1 := Int.emod_lt_of_pos v (show 0 < n by omega)
  unfold withinI
  rw [if_neg (by omega), Int.tmod_eq_emod]
  split <;> split <;> omega
theorem within_any (v n : Int) (w : World) (hv : -9223372036854775808 ≤ v ∧ v ≤ 9223372036854775807) (hn : 1 ≤ n ∧ n ≤ 140737488355329) :
    Calls Tryz.prog 10 #[.int .i64 v, .int .i64 n] w fun e w' => e = .returned (.int .i64 (withinI v n)) ∧ w' = w := by
  obtain ⟨h1, h2⟩ := hn
  obtain ⟨h3, h4⟩ := hv
  have Ht := Lib.hid (tmod_within v n h1)
  have hlo : -n < v.tmod n := Int.lt_tmod_of_pos _ (by omega)
  have hhi : v.tmod n < n := Int.tmod_lt_of_pos _ (by omega)
  by_cases hneg : v.tmod n < 0
  · go_enter Tryz.func10, Tryz.ntmps10
    go_wp2
    go_ret
    exact ⟨by rw [Ht.out, if_pos hneg]; rfl, rfl⟩
  · go_enter Tryz.func10, Tryz.ntmps10
    go_wp2
    go_ret
    exact ⟨by rw [Ht.out, if_neg (by omega)]; rfl, rfl⟩
end Go.Proofs.YtenkkdnepmoihaaGreatDoor
end
section
namespace Go.Proofs.YtenkkdnepmoihaaGreatDoor
open Go.RowKit

theorem xor_u8 (a b : UInt8) : bits .xor .u8 (a.toNat : Int) (b.toNat : Int) = (((a ^^^ b).toNat : Nat) : Int) := by
  rw [u8_xor_nat _ _ a.toNat_lt b.toNat_lt, UInt8.toNat_xor]
theorem take_snoc_eq {bs bs' : List UInt8} {j : Nat} (h : bs.take j = bs'.take j) (hj : j < bs.length) (hj' : j < bs'.length) (he : bs.getD j 0 = bs'.getD j 0) : bs.take (j + 1) = bs'.take (j + 1) := by
  rw [List.take_succ_eq_append_getElem hj, List.take_succ_eq_append_getElem hj', h]
  have e : bs[j] = bs'[j] := by simpa [hj, hj'] using he
  rw [e]
theorem getD_of_eq {bs bs' : List UInt8} (h : bs = bs') (j : Nat) : bs.getD j 0 = bs'.getD j 0 := by rw [h]
theorem u8_bne {a b : UInt8} (h : a ≠ b) : ((a.toNat : Int) != (b.toNat : Int)) = true := by
  rw [bne_iff_ne]; intro h'; exact h (UInt8.toNat_inj.1 (by omega))
def SamePost (bs bs' : List UInt8) (w : World) (e : Ending) (w' : World) : Prop := e = .returned (.bool (decide (bs = bs'))) ∧ ∃ m, w' = w.drewN m
set_option maxHeartbeats 400000 in
theorem same_any (A A' : Option Addr) (n n' c c' B : Nat) (bs bs' : List UInt8) (w : World) (hn : n = bs.length) (hn' : n' = bs'.length) (hr : RdB w B A bs) (hr' : RdB w B A' bs') :
    Calls Tryz.prog 19 #[.slice A n c, .slice A' n' c'] w (SamePost bs bs' w) := by
  subst hn hn'
  have hl := hr.1
  have hl' := hr'.1
  by_cases hlen : bs.length = bs'.length
  · have hle := Lib.hid hlen
    have hne : ((bs.length : Int) != (bs'.length : Int)) = false := by rw [hlen]; simp
    clear hlen
    go_enter Tryz.func19, Tryz.ntmps19
    go_wp2
    go_loopw [5] (fun i wr => ∃ j m : Nat, j ≤ bs.length ∧ i = .int .i64 j ∧ bs.take j = bs'.take j ∧ wr = w.drewN m) (fun i _ => bs.length - (intOf i).toNat)
    case atStart => exact ⟨0, 0, Nat.zero_le _, rfl, rfl, rfl⟩
    case round =>
      obtain ⟨j, m, hj, rfl, htk, rfl⟩ := hrel
      have Htk := Lib.hid htk
      clear htk
      by_cases hlt : j < bs.length
      · have hlt' : j < bs'.length := by have := hle.out; omega
        obtain ⟨b, off, rfl, hb, hc⟩ := hr.2 (by omega)
        obtain ⟨b', off', rfl, hb', hc'⟩ := hr'.2 (by omega)
        have h1 := hc j hlt
        have h2 := hc' j hlt'
        have i0 : (0 : Int) ≤ (j : Int) := by omega
        have i1 : (j : Int) < (bs.length : Int) := by omega
        have i2 : (j : Int) < (bs'.length : Int) := by omega
        clear hc hc'
        by_cases he : bs.getD j 0 = bs'.getD j 0
        · have Hsn := Lib.hid (take_snoc_eq Htk.out hlt hlt' he)
          rw [← he] at h2
          clear he
          generalize bs.getD j 0 = x at h1 h2
          go_wp2
          go_quiet (fail)
          go_wp2
          go_roundw
          case rel => exact ⟨j + 1, _, by omega, by go_num, Hsn.out, rfl⟩
          case measure => simp [intOf]; omega
        · have hd : decide (bs = bs') = false := by simpa using fun h => he (getD_of_eq h j)
          have Hd := Lib.hid hd
          have hb := u8_bne he
          clear hd he
          generalize bs.getD j 0 = x at h1 hb
          generalize bs'.getD j 0 = y at h2 hb
          go_wp2
          go_quiet (fail)
          go_wp2
          go_ret
          exact ⟨by rw [Hd.out]; rfl, m + nq, World.drewN_drewN _ _ _⟩
      · obtain rfl : j = bs.length := by omega
        have Hd : Hid (decide (bs = bs') = true) := by
          have h1 := Htk.out
          rw [List.take_length, hle.out, List.take_length] at h1
          exact decide_eq_true h1
        go_wp2
        go_ret
        exact ⟨by rw [Hd.out]; rfl, m, rfl⟩
  · go_enter Tryz.func19, Tryz.ntmps19
    have hne : ((bs.length : Int) != (bs'.length : Int)) = true := by rw [bne_iff_ne]; omega
    go_wp2
    go_ret
    exact ⟨by rw [decide_eq_false (fun h => hlen (by rw [h]))]; rfl, 0, rfl⟩
end Go.Proofs.YtenkkdnepmoihaaGreatDoor
end
section
namespace Go.Proofs.YtenkkdnepmoihaaGreatDoor
open Go.RowKit

end Go.Proofs.YtenkkdnepmoihaaGreatDoor
end
section
namespace Go.Proofs.YtenkkdnepmoihaaGreatDoor
open Go.RowKit

end Go.Proofs.YtenkkdnepmoihaaGreatDoor
end
section
namespace Go.Proofs.YtenkkdnepmoihaaGreatDoor

/-- Powers of two, and of which one a byte is (the field of 0x11D). -/
def gexpT : Array Nat := #[1, 2, 4, 8, 16, 32, 64, 128, 29, 58, 116, 232, 205, 135, 19, 38, 76, 152, 45, 90, 180, 117, 234, 201, 143, 3, 6, 12, 24, 48, 96, 192, 157, 39, 78, 156, 37, 74, 148, 53, 106, 212, 181, 119, 238, 193, 159, 35, 70, 140, 5, 10, 20, 40, 80, 160, 93, 186, 105, 210, 185, 111, 222, 161, 95, 190, 97, 194, 153, 47, 94, 188, 101, 202, 137, 15, 30, 60, 120, 240, 253, 231, 211, 187, 107, 214, 177, 127, 254, 225, 223, 163, 91, 182, 113, 226, 217, 175, 67, 134, 17, 34, 68, 136, 13, 26, 52, 104, 208, 189, 103, 206, 129, 31, 62, 124, 248, 237, 199, 147, 59, 118, 236, 197, 151, 51, 102, 204, 133, 23, 46, 92, 184, 109, 218, 169, 79, 158, 33, 66, 132, 21, 42, 84, 168, 77, 154, 41, 82, 164, 85, 170, 73, 146, 57, 114, 228, 213, 183, 115, 230, 209, 191, 99, 198, 145, 63, 126, 252, 229, 215, 179, 123, 246, 241, 255, 227, 219, 171, 75, 150, 49, 98, 196, 149, 55, 110, 220, 165, 87, 174, 65, 130, 25, 50, 100, 200, 141, 7, 14, 28, 56, 112, 224, 221, 167, 83, 166, 81, 162, 89, 178, 121, 242, 249, 239, 195, 155, 43, 86, 172, 69, 138, 9, 18, 36, 72, 144, 61, 122, 244, 245, 247, 243, 251, 235, 203, 139, 11, 22, 44, 88, 176, 125, 250, 233, 207, 131, 27, 54, 108, 216, 173, 71, 142]
def glogT : Array Nat := #[0, 0, 1, 25, 2, 50, 26, 198, 3, 223, 51, 238, 27, 104, 199, 75, 4, 100, 224, 14, 52, 141, 239, 129, 28, 193, 105, 248, 200, 8, 76, 113, 5, 138, 101, 47, 225, 36, 15, 33, 53, 147, 142, 218, 240, 18, 130, 69, 29, 181, 194, 125, 106, 39, 249, 185, 201, 154, 9, 120, 77, 228, 114, 166, 6, 191, 139, 98, 102, 221, 48, 253, 226, 152, 37, 179, 16, 145, 34, 136, 54, 208, 148, 206, 143, 150, 219, 189, 241, 210, 19, 92, 131, 56, 70, 64, 30, 66, 182, 163, 195, 72, 126, 110, 107, 58, 40, 84, 250, 133, 186, 61, 202, 94, 155, 159, 10, 21, 121, 43, 78, 212, 229, 172, 115, 243, 167, 87, 7, 112, 192, 247, 140, 128, 99, 13, 103, 74, 222, 237, 49, 197, 254, 24, 227, 165, 153, 119, 38, 184, 180, 124, 17, 68, 146, 217, 35, 32, 137, 46, 55, 63, 209, 91, 149, 188, 207, 205, 144, 135, 151, 178, 220, 252, 190, 97, 242, 86, 211, 171, 20, 42, 93, 158, 132, 60, 57, 83, 71, 109, 65, 162, 31, 45, 67, 216, 183, 123, 164, 118, 196, 23, 73, 236, 127, 12, 111, 246, 108, 161, 59, 82, 41, 157, 85, 170, 251, 96, 134, 177, 187, 204, 62, 90, 203, 89, 95, 176, 156, 169, 160, 81, 11, 245, 22, 235, 122, 117, 44, 215, 79, 174, 213, 233, 230, 231, 173, 232, 116, 214, 244, 234, 168, 80, 88, 175]
def gE (i : Nat) : Nat := gexpT.getD (i % 255) 0
def gL (a : Nat) : Nat := glogT.getD a 0
/-- Times two. -/
def dbl (a : Nat) : Nat := if a < 128 then 2 * a else (2 * a - 256) ^^^ 29
/-- The product, digit by digit of b. -/
def mulF : Nat → Nat → Nat → Nat → Nat
  | 0, s, _, _ => s
  | f + 1, s, x, y => mulF f (if y % 2 = 1 then s ^^^ x else s) (dbl x) (y / 2)
def gmul (a b : Nat) : Nat := mulF 8 0 a b
def ginv (a : Nat) : Nat := if a = 0 then 0 else gE (255 - gL a)
def glog (a : Nat) : Int := if a = 0 then -1 else (gL a : Int)
/-- Two to the n, n any number. -/
def gpow (n : Int) : Nat := gE (n % 255).toNat

/-- A table of a check, by numbers only (the kernel reckons). -/
def allB : Nat → (Nat → Bool) → Bool
  | 0, _ => true
  | k + 1, p => p k && allB k p
theorem allB_iff {n : Nat} {p : Nat → Bool} (h : allB n p = true) : ∀ k, k < n → p k = true := by
  induction n with
  | zero => intro k hk; omega
  | succ n ih =>
    intro k hk
    have h' : (p n && allB n p) = true := h
    rw [Bool.and_eq_true] at h'
    by_cases e : k = n
    · rw [e]; exact h'.1
    · exact ih h'.2 k (by omega)
theorem gL_lt : ∀ a, a < 256 → gL a < 255 := fun a h => of_decide_eq_true (allB_iff (p := fun a => decide (gL a < 255)) (n := 256) (by decide +kernel) a h)
theorem gE_tab : ∀ i, i < 255 → gE i < 256 ∧ gE i ≠ 0 ∧ gL (gE i) = i ∧ gE (i + 1) = dbl (gE i) := fun a h => by
  have := allB_iff (p := fun i => Nat.blt (gE i) 256 && (!Nat.beq (gE i) 0 && (Nat.beq (gL (gE i)) i && Nat.beq (gE (i + 1)) (dbl (gE i))))) (n := 255) (by decide +kernel) a h
  simp only [Bool.and_eq_true, Nat.blt_eq, Nat.beq_eq, Bool.not_eq_eq_eq_not, Bool.not_true] at this
  obtain ⟨h1, h2, h3, h4⟩ := this
  exact ⟨h1, fun e => by rw [e] at h2; exact absurd h2 (by decide), h3, h4⟩
theorem gE_mod (i : Nat) : gE (i % 255) = gE i := by unfold gE; rw [Nat.mod_mod]
theorem gE_lt (i : Nat) : gE i < 256 := by rw [← gE_mod]; exact (gE_tab _ (Nat.mod_lt _ (by decide))).1
theorem gE_ne (i : Nat) : gE i ≠ 0 := by rw [← gE_mod]; exact (gE_tab _ (Nat.mod_lt _ (by decide))).2.1
theorem gL_gE (i : Nat) : gL (gE i) = i % 255 := by rw [← gE_mod]; exact (gE_tab _ (Nat.mod_lt _ (by decide))).2.2.1
theorem gE_succ (i : Nat) : gE (i + 1) = dbl (gE i) := by
  have := (gE_tab _ (Nat.mod_lt i (by decide : 0 < 255))).2.2.2
  rw [gE_mod] at this
  rw [← this, ← gE_mod (i + 1), ← gE_mod (i % 255 + 1)]; exact congrArg gE (by omega)
theorem gE_gL : ∀ a, a < 256 → a ≠ 0 → gE (gL a) = a := fun a h h0 => by
  have := allB_iff (p := fun a => Nat.beq a 0 || Nat.beq (gE (gL a)) a) (n := 256) (by decide +kernel) a h
  simp at this; omega
theorem dbl_xor : ∀ a b, a < 256 → b < 256 → dbl (a ^^^ b) = dbl a ^^^ dbl b := fun a b ha hb => by
  have := allB_iff (allB_iff (p := fun a => allB 256 fun b => Nat.beq (dbl (a ^^^ b)) (dbl a ^^^ dbl b)) (n := 256) (by decide +kernel) a ha) b hb
  simpa using this
theorem dbl_lt : ∀ a, a < 256 → dbl a < 256 := fun a h => by
  have := allB_iff (p := fun a => Nat.blt (dbl a) 256) (n := 256) (by decide +kernel) a h
  simpa using this
theorem xor_lt8 {a b : Nat} (ha : a < 256) (hb : b < 256) : a ^^^ b < 256 := Nat.xor_lt_two_pow (n := 8) ha hb
theorem mulF_lt (f : Nat) : ∀ s x y, s < 256 → x < 256 → mulF f s x y < 256 := by
  induction f with
  | zero => intro s x y hs _; exact hs
  | succ f ih =>
    intro s x y hs hx
    unfold mulF
    split
    · exact ih _ _ _ (xor_lt8 hs hx) (dbl_lt _ hx)
    · exact ih _ _ _ hs (dbl_lt _ hx)
theorem gmul_lt {a b : Nat} (ha : a < 256) : gmul a b < 256 := mulF_lt 8 0 a b (by decide) ha
theorem mulF_dbl (f : Nat) : ∀ s x y, s < 256 → x < 256 → mulF f (dbl s) (dbl x) y = dbl (mulF f s x y) := by
  induction f with
  | zero => intro s x y _ _; rfl
  | succ f ih =>
    intro s x y hs hx
    unfold mulF
    split
    · rw [← dbl_xor _ _ hs hx]; exact ih _ _ _ (xor_lt8 hs hx) (dbl_lt _ hx)
    · exact ih _ _ _ hs (dbl_lt _ hx)
theorem xor_swap (a b c d : Nat) : (a ^^^ b) ^^^ (c ^^^ d) = (a ^^^ c) ^^^ (b ^^^ d) := by
  rw [Nat.xor_assoc, Nat.xor_assoc, ← Nat.xor_assoc b c d, Nat.xor_comm b c, Nat.xor_assoc c b d]
theorem mulF_xor (f : Nat) : ∀ s t x z y, s < 256 → t < 256 → x < 256 → z < 256 → mulF f (s ^^^ t) (x ^^^ z) y = mulF f s x y ^^^ mulF f t z y := by
  induction f with
  | zero => intro s t x z y _ _ _ _; rfl
  | succ f ih =>
    intro s t x z y hs ht hx hz
    unfold mulF
    rw [dbl_xor _ _ hx hz]
    split
    · rw [xor_swap]; exact ih _ _ _ _ _ (xor_lt8 hs hx) (xor_lt8 ht hz) (dbl_lt _ hx) (dbl_lt _ hz)
    · exact ih _ _ _ _ _ hs ht (dbl_lt _ hx) (dbl_lt _ hz)
theorem mulF_zero_left (f : Nat) : ∀ y, mulF f 0 0 y = 0 := by
  induction f with
  | zero => intro y; rfl
  | succ f ih => intro y; unfold mulF; simp only [Nat.xor_self, ite_self]; exact ih _
theorem mulF_zero_right (f : Nat) : ∀ s x, mulF f s x 0 = s := by
  induction f with
  | zero => intro s x; rfl
  | succ f ih => intro s x; unfold mulF; exact ih _ _
theorem gmul_zero_left (b : Nat) : gmul 0 b = 0 := mulF_zero_left 8 b
theorem gmul_zero_right (a : Nat) : gmul a 0 = 0 := mulF_zero_right 8 0 a
theorem gmul_one_left : ∀ b, b < 256 → gmul 1 b = b := fun a h => by
  have := allB_iff (p := fun a => Nat.beq (gmul 1 a) a) (n := 256) (by decide +kernel) a h
  simpa using this
theorem gmul_dbl {a : Nat} (b : Nat) (ha : a < 256) : gmul (dbl a) b = dbl (gmul a b) := mulF_dbl 8 0 a b (by decide) ha
theorem gmul_pow (i : Nat) : ∀ j, gmul (gE i) (gE j) = gE (i + j) := by
  induction i with
  | zero => intro j; rw [show gE 0 = 1 from by decide +kernel, gmul_one_left _ (gE_lt j), Nat.zero_add]
  | succ i ih => intro j; rw [gE_succ, gmul_dbl _ (gE_lt i), ih, ← gE_succ]; congr 1; omega
/-- The product by logs. -/
theorem gmul_tab {a b : Nat} (ha : a < 256) (hb : b < 256) : gmul a b = if a = 0 ∨ b = 0 then 0 else gE (gL a + gL b) := by
  split
  · next h => rcases h with rfl | rfl; exact gmul_zero_left b; exact gmul_zero_right a
  · next h => rw [← gmul_pow, gE_gL a ha (by omega), gE_gL b hb (by omega)]
theorem gmul_comm {a b : Nat} (ha : a < 256) (hb : b < 256) : gmul a b = gmul b a := by
  rw [gmul_tab ha hb, gmul_tab hb ha, Nat.add_comm]
  by_cases h : a = 0 <;> by_cases h' : b = 0 <;> simp [h, h']
theorem gmul_one_right {a : Nat} (ha : a < 256) : gmul a 1 = a := by rw [gmul_comm ha (by decide), gmul_one_left a ha]
theorem gE_congr {i j : Nat} (h : i % 255 = j % 255) : gE i = gE j := by rw [← gE_mod i, h, gE_mod]
theorem gmul_assoc {a b c : Nat} (ha : a < 256) (hb : b < 256) (hc : c < 256) : gmul a (gmul b c) = gmul (gmul a b) c := by
  by_cases h : a = 0
  · subst h; rw [gmul_zero_left, gmul_zero_left, gmul_zero_left]
  by_cases h' : b = 0
  · subst h'; rw [gmul_zero_left, gmul_zero_right, gmul_zero_left]
  by_cases h'' : c = 0
  · subst h''; rw [gmul_zero_right, gmul_zero_right, gmul_zero_right]
  rw [gmul_tab hb hc, if_neg (by omega), gmul_tab ha hb, if_neg (by omega), gmul_tab ha (gE_lt _), if_neg (by have := gE_ne (gL b + gL c); omega), gmul_tab (gE_lt _) hc, if_neg (by have := gE_ne (gL a + gL b); omega), gL_gE, gL_gE]
  exact gE_congr (by omega)
theorem gmul_xor_left {a c : Nat} (b : Nat) (ha : a < 256) (hc : c < 256) : gmul (a ^^^ c) b = gmul a b ^^^ gmul c b := mulF_xor 8 0 0 a c b (by decide) (by decide) ha hc
theorem gmul_xor_right {a b c : Nat} (ha : a < 256) (hb : b < 256) (hc : c < 256) : gmul a (b ^^^ c) = gmul a b ^^^ gmul a c := by
  rw [gmul_comm ha (xor_lt8 hb hc), gmul_xor_left a hb hc, gmul_comm hb ha, gmul_comm hc ha]
theorem ginv_lt (a : Nat) : ginv a < 256 := by unfold ginv; split; decide; exact gE_lt _
theorem ginv_ne {a : Nat} (h : a ≠ 0) : ginv a ≠ 0 := by unfold ginv; rw [if_neg h]; exact gE_ne _
theorem gmul_inv {a : Nat} (ha : a < 256) (h : a ≠ 0) : gmul a (ginv a) = 1 := by
  have := gL_lt a ha
  rw [gmul_tab ha (ginv_lt a), if_neg (by have := ginv_ne h; omega)]
  unfold ginv
  rw [if_neg h, gL_gE, show (1 : Nat) = gE 0 from by decide +kernel]
  exact gE_congr (by omega)
theorem gpow_lt (n : Int) : gpow n < 256 := gE_lt _
theorem gpow_add (m n : Int) : gmul (gpow m) (gpow n) = gpow (m + n) := by
  unfold gpow
  rw [gmul_pow]
  exact gE_congr (by omega)
theorem glog_gE (i : Nat) : glog (gE i) = ((i % 255 : Nat) : Int) := by unfold glog; rw [if_neg (gE_ne i), gL_gE]
theorem glog_gpow (n : Int) : glog (gpow n) = n % 255 := by unfold gpow; rw [glog_gE]; omega
/-- a to the n. -/
def gpw (a : Nat) : Nat → Nat
  | 0 => 1
  | n + 1 => gmul a (gpw a n)
theorem gpw_lt {a : Nat} (ha : a < 256) (n : Nat) : gpw a n < 256 := by cases n with | zero => exact (by decide : (1 : Nat) < 256) | succ n => exact gmul_lt ha
theorem gpw_two {a : Nat} (ha : a < 256) (m : Nat) : gpw (gmul a a) m = gpw a (2 * m) := by
  induction m with
  | zero => rfl
  | succ m ih => rw [show 2 * (m + 1) = 2 * m + 1 + 1 from by omega]; show gmul (gmul a a) (gpw (gmul a a) m) = gmul a (gmul a (gpw a (2 * m))); rw [ih, gmul_assoc ha ha (gpw_lt ha _)]
theorem gpw_half {x a : Nat} (hx : x < 256) (ha : a < 256) (n : Nat) : gmul (if n % 2 = 1 then gmul x a else x) (gpw (gmul a a) (n / 2)) = gmul x (gpw a n) := by
  rw [gpw_two ha]
  split
  · next h => obtain ⟨m, rfl⟩ : ∃ m, n = 2 * m + 1 := ⟨n / 2, by omega⟩
              rw [show 2 * ((2 * m + 1) / 2) = 2 * m from by omega, ← gmul_assoc hx ha (gpw_lt ha _)]; rfl
  · next h => rw [show 2 * (n / 2) = n from by omega]
theorem gpw_gE (i n : Nat) : gpw (gE i) n = gE (i * n) := by
  induction n with
  | zero => rw [Nat.mul_zero]; exact (by decide +kernel : (1 : Nat) = gE 0)
  | succ n ih => show gmul (gE i) (gpw (gE i) n) = _; rw [ih, gmul_pow]; exact congrArg gE (by rw [Nat.mul_succ]; omega)
theorem gpw_two_n (n : Nat) : gpw 2 n = gE n := by
  have := gpw_gE 1 n
  rw [show gE 1 = 2 from by decide +kernel, Nat.one_mul] at this
  exact this
theorem gpw_inv {a : Nat} (ha : a < 256) : gpw a 254 = ginv a := by
  by_cases h : a = 0
  · subst h; exact gmul_zero_left _
  · have hl := gL_lt a ha
    have e : gpw a 254 = gE (gL a * 254) := by rw [← gpw_gE, gE_gL a ha h]
    rw [e]; unfold ginv; rw [if_neg h]; exact gE_congr (by omega)
end Go.Proofs.YtenkkdnepmoihaaGreatDoor
end
