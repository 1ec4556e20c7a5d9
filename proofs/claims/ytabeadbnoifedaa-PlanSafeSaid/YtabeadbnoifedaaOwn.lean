/- Slices of bytes that a call itself made: read, appended to, stored into. Of no program. -/
import Derived.Test.YtabeadbnoifedaaMem
import Derived.Maps.AppendAt
import Derived.Laws.AppendOwnNone
import Derived.Deep.AppendLies
import Derived.Laws.CopyOwn
namespace Go.Proofs.Ytabeadbnoifedaa
open Go.RowKit

theorem bv_one (b : UInt8) : (bv b).oneCell' = true := rfl
theorem map_bv_one {bs : List UInt8} : ∀ u ∈ bs.map bv, u.oneCell' = true := fun u hu => by
  obtain ⟨b, _, rfl⟩ := List.mem_map.1 hu
  rfl
/-- The slice value v owns these bytes, in a block from B on. -/
def OwB (e : TypeId) (w : World) (B : Nat) (v : Value) (bs : List UInt8) : Prop := w.ownsRow B e 1 v bs.length (bs.map bv) ∧ bs.length ≤ 140737488355328

section
variable {e : TypeId} {w w' : World} {B B' : Nat} {v : Value} {bs : List UInt8}
theorem OwB.nil (e : TypeId) (w : World) (B : Nat) : OwB e w B (.slice none 0 0) [] := ⟨World.ownsRow_nil _ _ _ _, by simp⟩
/-- What an own slice is: nil and empty, or a row of its own block. -/
theorem OwB.form (h : OwB e w B v bs) : (v = .slice none 0 0 ∧ bs = []) ∨ ∃ g cap cur, v = .slice (some ⟨g, 0, none⟩) bs.length cap ∧ B ≤ g ∧ w.heap[g]? = some (.cells cur e (0, 0)) ∧ bs.length ≤ cap ∧ cap ≤ maxLen ∧ cur.size = cap ∧
    (∀ k, k < bs.length → cur[k]? = some (.int .u8 ((bs.getD k 0).toNat : Int))) := by
  rcases h.1.2 with ⟨h1, h2⟩ | ⟨g, cap, cur, h1, h2, h3, h4, h5, h6, h7⟩
  · exact .inl ⟨h1, List.eq_nil_of_length_eq_zero h2⟩
  · refine .inr ⟨g, cap, cur, h1, h2, h3, h4, h5, by simpa using h6, fun k hk => ?_⟩
    have : (cur.toList.take (bs.length * 1))[k]? = (bs.map bv)[k]? := by rw [h7]
    rw [List.getElem?_take, if_pos (by omega), Array.getElem?_toList] at this
    rw [this]
    simp [hk, bv]
theorem OwB.rd (h : OwB e w B v bs) : ∃ A cap, v = .slice A bs.length cap ∧ bs.length ≤ cap ∧ RdB w w.heap.size A bs := by
  rcases h.form with ⟨rfl, rfl⟩ | ⟨g, cap, cur, rfl, _, hg, hc, _, _, hk⟩
  · exact ⟨none, 0, rfl, Nat.le_refl _, RdB.nil _ _ _⟩
  · exact ⟨_, cap, rfl, hc, h.2, fun _ => ⟨g, 0, rfl, (Array.getElem?_eq_some_iff.1 hg).1, fun k hk' => by rw [Nat.zero_add, cell_of_row w g k cur e (0, 0) hg]; exact hk k hk'⟩⟩
theorem OwB.rdS {A : Option Addr} {n c : Nat} (h : OwB e w B (.slice A n c) bs) : RdB w w.heap.size A bs ∧ n = bs.length ∧ n ≤ c := by
  obtain ⟨A', c', hv, hc, hr⟩ := h.rd
  injection hv with h1 h2 h3
  subst h1 h2 h3
  exact ⟨hr, rfl, hc⟩
theorem OwB.pos (h : OwB e w B v bs) (hp : 0 < bs.length) : ∃ g cap, v = .slice (some ⟨g, 0, none⟩) bs.length cap ∧ B ≤ g ∧ g < w.heap.size ∧ bs.length ≤ cap ∧ cap ≤ maxLen ∧ RdB w w.heap.size (some ⟨g, 0, none⟩) bs := by
  obtain ⟨A, c, hv, _, hr⟩ := h.rd
  rcases h.form with ⟨_, rfl⟩ | ⟨g, cap, cur, rfl, hB, hg, hc, hm, _, _⟩
  · simp at hp
  · injection hv with h1 _ _
    exact ⟨g, cap, rfl, hB, (Array.getElem?_eq_some_iff.1 hg).1, hc, hm, h1 ▸ hr⟩
/-- A new row of n zero bytes. -/
theorem own_make (e : TypeId) (w : World) (n : Nat) (hn : n ≤ 140737488355328) : OwB e (w.alloc (.cells (zcells n) e)) w.heap.size (.slice (some ⟨w.heap.size, 0, none⟩) n n) (List.replicate n 0) := by
  refine ⟨?_, by simpa using hn⟩
  have h := World.ownsRow_lit (base := w.heap.size) (e := e) (size := 1) w (zcells n) n (Nat.le_refl _) (by unfold maxLen; omega) (by rw [zcells_size]; omega)
  unfold zcells at h ⊢
  rw [toList_madeCells_one] at h
  simpa [bv] using h
theorem OwB.grown {row : Option Nat} (h : OwB e w B v bs) (hg : w.grownBy w' row) (hne : v.ownBlock = none ∨ v.ownBlock ≠ row) : OwB e w' B v bs := ⟨h.1.kept hg hne, h.2⟩
theorem OwB.growF {row : Option Nat} (h : OwB e w B v bs) (hg : w.grownBy w' row) (hr : ∀ j, row = some j → j < B) : OwB e w' B v bs := by
  refine h.grown hg ?_
  rcases hv : v.ownBlock with _ | k
  · exact .inl rfl
  · refine .inr fun e => ?_
    have h1 := hr k e.symm
    have h2 : B ≤ k := by
      rcases h.1.2 with ⟨rfl, _⟩ | ⟨g, cap, cur, rfl, h2, _⟩
      · simp [Value.ownBlock] at hv
      · simp [Value.ownBlock] at hv; omega
    omega
theorem grown_none {a b : World} (h : Below a.heap.size a b) : a.grownBy b none := ⟨h.os, h.tape, h.output, h.size, fun k hk _ => h.block k hk⟩
theorem OwB.below (h : OwB e w B v bs) (hb : Below w.heap.size w w') : OwB e w' B v bs := h.grown (grown_none hb) (by cases v.ownBlock <;> simp)
theorem OwB.lt (h : OwB e w B v bs) : ∀ k, v.ownBlock = some k → B ≤ k ∧ k < w.heap.size := h.1.lt
theorem OwB.le (h : OwB e w B v bs) (hB : B' ≤ B) : OwB e w B' v bs := by
  refine ⟨⟨h.1.1, ?_⟩, h.2⟩
  rcases h.1.2 with h1 | ⟨g, cap, cur, h1, h2, r⟩
  · exact .inl h1
  · exact .inr ⟨g, cap, cur, h1, by omega, r⟩
end

section
variable {e : TypeId} {w w' : World} {B g n cap : Nat} {bs : List UInt8}
theorem OwB.cell (h : OwB e w B (.slice (some ⟨g, 0, none⟩) n cap) bs) (hn : bs.length = n) (j : Nat) (hj : j < n) : w.cell? ⟨g, j, none⟩ = some (.int .u8 ((bs.getD j 0).toNat : Int)) ∧ w.frozen? ⟨g, j, none⟩ = false := by
  subst hn
  refine ⟨?_, h.1.frozenAt j⟩
  rw [h.1.cellAt j (by omega)]
  simp [hj, bv]
theorem OwB.set (h : OwB e w B (.slice (some ⟨g, 0, none⟩) n cap) bs) (hn : bs.length = n) (j : Nat) (b : UInt8) :
    OwB e (w.setCell ⟨g, j, none⟩ (.int .u8 (b.toNat : Int))) B (.slice (some ⟨g, 0, none⟩) n cap) (bs.set j b) ∧ w.grownBy (w.setCell ⟨g, j, none⟩ (.int .u8 (b.toNat : Int))) (some g) := by
  subst hn
  obtain ⟨h1, h2⟩ := h.1.stored j (.int .u8 (b.toNat : Int))
  refine ⟨⟨?_, by simpa using h.2⟩, h2⟩
  rw [List.map_set, List.length_set]
  exact h1
theorem OwB.takeS {g n cap : Nat} (h : OwB e w B (.slice (some ⟨g, 0, none⟩) n cap) bs) (hn : bs.length = n) (k : Nat) (hk : k ≤ n) : OwB e w B (.slice (some ⟨g, 0, none⟩) k cap) (bs.take k) := by
  subst hn
  have hl : (bs.take k).length = k := by rw [List.length_take]; omega
  rcases h.1.2 with ⟨h1, _⟩ | ⟨g', cap', cur, h1, h2, h3, h4, h5, h6, h7⟩
  · cases h1
  · injection h1 with h8 _ h9
    injection h8 with h8
    injection h8 with h8 _ _
    subst h8 h9
    refine ⟨⟨by simp, .inr ⟨g, cap, cur, by rw [hl], h2, h3, by omega, h5, h6, ?_⟩⟩, by have := h.2; omega⟩
    rw [hl, List.map_take, ← h7, List.take_take]
    congr 1
    omega
theorem grown_drewN {a b : World} {row : Option Nat} (h : a.grownBy b row) (n : Nat) : a.grownBy (b.drewN n) row := ⟨h.os, h.tape, h.output, h.size, h.block⟩
theorem grown_of_below {a b : World} (h : Below a.heap.size a b) (row : Option Nat) : a.grownBy b row := ⟨h.os, h.tape, h.output, h.size, fun k hk _ => h.block k hk⟩
end

section
variable {P : Program} (w : World)
/-- append(own, source...): the source nil, empty or full. -/
theorem run_append_B (base : Nat) (t ty e : TypeId) (ht : P.underlying t = some (.slice e)) (hinfo : (P.info? e).map (fun i => (i.zero, i.size, i.bytes)) = some (some (.int .u8 0), 1, 1))
    (v : Value) (xs : List UInt8) (hown : OwB e w base v xs) (B : Nat) (A : Option Addr) (c : Nat) (bs : List UInt8) (hr : RdB w B A bs) (hn : xs.length + bs.length ≤ 140737488355328) (hbase : base ≤ w.heap.size) :
    ∃ v' w', (Builtin.append_ #[t, t] ty #[v, .slice A bs.length c]).run P w = .ok v' w' ∧ OwB e w' base v' (xs ++ bs) ∧ w.grownBy w' v.ownBlock ∧ (v'.ownBlock = v.ownBlock ∨ v'.ownBlock = some w.heap.size) := by
  obtain ⟨i, hi, hzz⟩ := Option.map_eq_some_iff.1 hinfo
  simp only [Prod.mk.injEq] at hzz
  obtain ⟨hz, hs, hb⟩ := hzz
  rcases A with _ | ad
  · have hm : bs = [] := by
      rcases bs with _ | ⟨b, r⟩
      · rfl
      · obtain ⟨_, _, h, _⟩ := hr.2 (by simp)
        cases h
    subst hm
    refine ⟨v, w, ?_, by simpa using hown, World.grownBy.refl w _, .inl rfl⟩
    rcases hown.1.2 with ⟨rfl, _⟩ | ⟨g, cap, cur, rfl, _, _, hnc, _⟩
    · simp [Builtin.append_, run_underlying ht, sizeOf, typeInfo, hi, Builtin.lenOf, Builtin.firstCells]
    · simp [Builtin.append_, run_underlying ht, sizeOf, typeInfo, hi, Builtin.lenOf, Builtin.firstCells, hnc, storeCells]
  · have hcells : ∀ j u, (bs.map bv)[j]? = some u → w.cell? (ad.add j) = some u := by
      intro j u hu
      simp only [List.getElem?_map, Option.map_eq_some_iff] at hu
      obtain ⟨b, hb1, rfl⟩ := hu
      obtain ⟨hj, rfl⟩ := List.getElem?_eq_some_iff.1 hb1
      obtain ⟨b2, off, h, _, hc⟩ := hr.2 (by omega)
      injection h with h
      subst h
      have e1 : ((⟨b2, off, none⟩ : Addr).add j) = ⟨b2, off + j, none⟩ := by unfold Addr.add; by_cases hk0 : j = 0 <;> simp [hk0]
      rw [e1, hc j hj]
      simp [bv, hj]
    obtain ⟨v', w', hrun, h2, h3, _, h5⟩ := run_append_own_at (P := P) w base t ty e i _ 1 1 ht hi hz hs hb rfl (by omega) v xs.length (xs.map bv) hown.1 ad bs.length c (bs.map bv) (by simp) hcells map_bv_one (by unfold maxLen; omega) (by omega) hbase
    exact ⟨v', w', hrun, ⟨by simpa using h2, by simpa using hn⟩, h3, h5⟩
theorem wpList_append_B {ops : Array Oper} {rest : List Oper} {o : Oper} {a : Act} {Q : Exit → Act → World → Prop} (hw : Region.wanted o (yielded ops a.tmps) = true) (s x : Operand) (t : TypeId)
    (ho : o.op = .call { callee := .builtin .append, args := #[s, x], argTypes := #[t, t] })
    (base : Nat) (e : TypeId) (ht : P.underlying t = some (.slice e)) (hinfo : (P.info? e).map (fun i => (i.zero, i.size, i.bytes)) = some (some (.int .u8 0), 1, 1))
    (v : Value) (xs : List UInt8) (hs : a.eval s = v) (hown : OwB e w base v xs) (B : Nat) (A : Option Addr) (n c : Nat) (bs : List UInt8) (hx : a.eval x = .slice A n c) (hnl : n = bs.length) (hr : RdB w B A bs)
    (hn : xs.length + bs.length ≤ 140737488355328) (hbase : base ≤ w.heap.size)
    (h : ∀ v' w', OwB e w' base v' (xs ++ bs) → w.grownBy w' v.ownBlock → (v'.ownBlock = v.ownBlock ∨ v'.ownBlock = some w.heap.size) → wpList P ops Q rest (a.put o.dst v') w') : wpList P ops Q (o :: rest) a w := by
  subst hnl
  refine BigFrame.wpList_want hw fun K hK => ?_
  obtain ⟨v', w', hrun, h2, h3, h4⟩ := run_append_B (P := P) w base t o.type e ht hinfo v xs hown B A c bs hr hn hbase
  unfold Oper.wp execOp
  simp only [ho, resolve, invoke, builtin, Sem.run_bind, Sem.run_pure, Result.andThen_ok, List.map_toArray, List.map_cons, List.map_nil, hs, hx, hrun]
  exact hK _ _ (h v' w' h2 h3 h4)

/-- copy(own, source): what own reads then. -/
def copyB (ds bs : List UInt8) : List UInt8 := bs.take ds.length ++ ds.drop bs.length
theorem copyB_len (ds bs : List UInt8) : (copyB ds bs).length = ds.length := by simp [copyB]; omega
theorem wpList_copy_B {w : World} {ops : Array Oper} {rest : List Oper} {o : Oper} {a : Act} {Q : Exit → Act → World → Prop} (hgd : o.guard = none) (d s : Operand) (t : TypeId)
    (ho : o.op = .call { callee := .builtin .copy, args := #[d, s], argTypes := #[t, t] }) (e : TypeId) (hu : P.underlying t = some (.slice e)) (hsz : (P.info? e).map (·.size) = some 1)
    (g n cap B : Nat) (ds : List UInt8) (hd : a.eval d = .slice (some ⟨g, 0, none⟩) n cap) (hown : OwB e w B (.slice (some ⟨g, 0, none⟩) n cap) ds) (hdn : ds.length = n)
    (B' : Nat) (A : Option Addr) (m c : Nat) (bs : List UInt8) (hs : a.eval s = .slice A m c) (hm : m = bs.length) (hr : RdB w B' A bs)
    (h : ∀ w', OwB e w' B (.slice (some ⟨g, 0, none⟩) n cap) (copyB ds bs) → w.grownBy w' (some g) → ∀ r : Value, wpList P ops Q rest (a.put o.dst r) w') : wpList P ops Q (o :: rest) a w := by
  subst hm hdn
  by_cases h0 : Nat.min bs.length ds.length = 0
  · refine wpList_copy_nothing hgd d s t t ho e hu hsz _ _ _ _ _ _ hd hs h0 (h w ?_ (World.grownBy.refl w _) _)
    have : copyB ds bs = ds := by
      unfold copyB
      rcases bs with _ | ⟨b, r⟩
      · simp
      · rcases ds with _ | ⟨x, y⟩
        · simp
        · exfalso
          have h1 : Nat.min (r.length + 1) (y.length + 1) = 0 := h0
          rcases Nat.le_total (r.length + 1) (y.length + 1) with hle | hle
          · rw [show Nat.min (r.length + 1) (y.length + 1) = r.length + 1 from Nat.min_eq_left hle] at h1; omega
          · rw [show Nat.min (r.length + 1) (y.length + 1) = y.length + 1 from Nat.min_eq_right hle] at h1; omega
    rw [this]
    exact hown
  · rcases hown.1.2 with ⟨h1, _⟩ | ⟨g', cap', cur, h1, h2, h3, h4, h5, h6, h7⟩
    · cases h1
    · injection h1 with h1 _ hc
      injection h1 with h1
      injection h1 with h1 _ _
      subst h1 hc
      have hpos : 0 < bs.length := by
        rcases Nat.eq_zero_or_pos bs.length with h | h
        · rw [h] at h0; exact absurd (show Nat.min 0 ds.length = 0 from Nat.zero_min _) h0
        · exact h
      obtain ⟨b2, off, rfl, _, hc2⟩ := hr.2 hpos
      have hkl : ((bs.take ds.length).map bv).length = Nat.min bs.length ds.length := by
        rw [List.length_map, List.length_take, Nat.min_comm]
      have hks : ((bs.take ds.length).map bv).length ≤ ds.length := by simp; omega
      refine wpList_copy_own hgd d s t t ho e hu hsz g 0 ds.length cap ⟨b2, off, none⟩ bs.length c hd hs cur e h3 ((bs.take ds.length).map bv) hkl ?_ (by omega) map_bv_one
        (h _ ⟨⟨by simp, .inr ⟨g, cap, _, by rw [copyB_len], h2, setRow_heap w g cur _ e (0, 0) h3, by rw [copyB_len]; exact h4, h5, ?_, ?_⟩⟩, by rw [copyB_len]; exact hown.2⟩
          ⟨rfl, rfl, rfl, by simp, fun k _ hk => setRow_other w g k _ (fun e => hk (by rw [e]))⟩ _)
      · intro j v hj
        simp only [List.getElem?_map, Option.map_eq_some_iff] at hj
        obtain ⟨b, hb1, rfl⟩ := hj
        obtain ⟨hjl, rfl⟩ := List.getElem?_eq_some_iff.1 hb1
        have hjb : j < bs.length := by simp at hjl; omega
        have e1 : ((⟨b2, off, none⟩ : Addr).add j) = ⟨b2, off + j, none⟩ := by unfold Addr.add; by_cases hk0 : j = 0 <;> simp [hk0]
        rw [e1, hc2 j hjb]
        simp [bv, hjb]
      · simp only [List.size_toArray, List.length_append, List.length_take, List.length_drop, Array.length_toList]
        omega
      · rw [copyB_len, List.toList_toArray, Nat.mul_one, List.take_zero, List.nil_append, Nat.zero_add]
        rw [List.take_append, List.take_of_length_le hks, copyB, List.map_append]
        congr 1
        rw [Nat.mul_one] at h7
        rw [← List.drop_take, h7, List.map_drop]
        apply List.ext_getElem?
        intro j
        simp only [List.getElem?_drop, hkl]
        by_cases hle : bs.length ≤ ds.length
        · rw [show Nat.min bs.length ds.length = bs.length from Nat.min_eq_left hle]
        · rw [show Nat.min bs.length ds.length = ds.length from Nat.min_eq_right (by omega), List.getElem?_eq_none (by simp), List.getElem?_eq_none (by simp; omega)]

/-- A slice that holds these values, one cell each. -/
def RdV (w : World) (B : Nat) (A : Option Addr) (xs : List Value) : Prop :=
  0 < xs.length → ∃ b off, A = some ⟨b, off, none⟩ ∧ b < B ∧ ∀ k, k < xs.length → w.cell? ⟨b, off + k, none⟩ = xs[k]?
theorem RdV.below {w w' : World} {B B' : Nat} {A : Option Addr} {xs : List Value} (h : RdV w B A xs) (hb : Below B w w') (hB : B ≤ B') : RdV w' B' A xs := fun hn => by
  obtain ⟨b, off, e, hlt, hc⟩ := h hn
  exact ⟨b, off, e, by omega, fun k hk => (hb.cell (p := ⟨b, off + k, none⟩) hlt).trans (hc k hk)⟩
/-- Values that read as rows. -/
def RowsV (w : World) (B : Nat) (xs : List Value) (rs : List (List UInt8)) : Prop :=
  xs.length = rs.length ∧ ∀ k, k < rs.length → ∃ A c, xs[k]? = some (.slice A (rs.getD k []).length c) ∧ RdB w B A (rs.getD k [])
theorem RdR.vals {w : World} {B : Nat} {A : Option Addr} {rs : List (List UInt8)} (h : RdR w B A rs) : ∃ xs, RdV w B A xs ∧ RowsV w B xs rs ∧ ∀ u ∈ xs, u.oneCell' = true := by
  rcases Nat.eq_zero_or_pos rs.length with h0 | h0
  · refine ⟨[], fun h => by simp at h, ⟨by simp [h0], fun k hk => by omega⟩, fun u hu => by simp at hu⟩
  · obtain ⟨b, off, rfl, hb, hc⟩ := h.2 h0
    have hx : ∀ k, k < rs.length → ((List.range rs.length).map fun k => (w.cell? ⟨b, off + k, none⟩).getD undef)[k]? = w.cell? ⟨b, off + k, none⟩ := fun k hk => by
      obtain ⟨A', c', h1, _⟩ := hc k hk
      simp [hk, h1]
    refine ⟨(List.range rs.length).map fun k => (w.cell? ⟨b, off + k, none⟩).getD undef, fun _ => ⟨b, off, rfl, hb, fun k hk => (hx k (by simpa using hk)).symm⟩, ⟨by simp, fun k hk => ?_⟩, fun u hu => ?_⟩
    · obtain ⟨A', c', h1, h2⟩ := hc k hk
      exact ⟨A', c', (hx k hk).trans h1, h2⟩
    · simp only [List.mem_map, List.mem_range] at hu
      obtain ⟨k, hk, rfl⟩ := hu
      obtain ⟨A', c', h1, _⟩ := hc k hk
      rw [h1]
      rfl
theorem wpList_append_V {w : World} {ops : Array Oper} {rest : List Oper} {o : Oper} {a : Act} {Q : Exit → Act → World → Prop} (hw : Region.wanted o (yielded ops a.tmps) = true) (s x : Operand) (t : TypeId)
    (ho : o.op = .call { callee := .builtin .append, args := #[s, x], argTypes := #[t, t] })
    (base : Nat) (e : TypeId) (z : Value) (bytes : Nat) (ht : P.underlying t = some (.slice e)) (hinfo : (P.info? e).map (fun i => (i.zero, i.size, i.bytes)) = some (some z, 1, bytes)) (hz1 : z.cells.size = 1)
    (v : Value) (n : Nat) (xs : List Value) (hs : a.eval s = v) (hown : w.ownsRow base e 1 v n xs) (B : Nat) (A : Option Addr) (m c : Nat) (news : List Value) (hx : a.eval x = .slice A m c) (hm : m = news.length)
    (hr : RdV w B A news) (h1 : ∀ u ∈ news, u.oneCell' = true) (h63 : n + m ≤ maxLen) (hbytes : (n + m) * bytes ≤ 140737488355328) (hbase : base ≤ w.heap.size)
    (h : ∀ v' w', w'.ownsRow base e 1 v' (n + m) (xs ++ news) → w.grownBy w' v.ownBlock → (v'.ownBlock = v.ownBlock ∨ v'.ownBlock = some w.heap.size) → wpList P ops Q rest (a.put o.dst v') w') : wpList P ops Q (o :: rest) a w := by
  subst hm
  refine BigFrame.wpList_want hw fun K hK => ?_
  obtain ⟨i, hi, hzz⟩ := Option.map_eq_some_iff.1 hinfo
  simp only [Prod.mk.injEq] at hzz
  obtain ⟨hz, hsz, hb⟩ := hzz
  have hrun : ∃ v' w', (Builtin.append_ #[t, t] o.type #[v, .slice A news.length c]).run P w = .ok v' w' ∧ w'.ownsRow base e 1 v' (n + news.length) (xs ++ news) ∧ w.grownBy w' v.ownBlock ∧ (v'.ownBlock = v.ownBlock ∨ v'.ownBlock = some w.heap.size) := by
    rcases A with _ | ad
    · have hm : news = [] := by
        rcases news with _ | ⟨b, r⟩
        · rfl
        · obtain ⟨_, _, h, _⟩ := hr (by simp)
          cases h
      subst hm
      refine ⟨v, w, ?_, by simpa using hown, World.grownBy.refl w _, .inl rfl⟩
      rcases hown.2 with ⟨rfl, _⟩ | ⟨g, cap, cur, rfl, _, _, hnc, _⟩
      · simp [Builtin.append_, run_underlying ht, sizeOf, typeInfo, hi, Builtin.lenOf, Builtin.firstCells]
      · simp [Builtin.append_, run_underlying ht, sizeOf, typeInfo, hi, Builtin.lenOf, Builtin.firstCells, hnc, storeCells]
    · have hcells : ∀ j u, news[j]? = some u → w.cell? (ad.add j) = some u := by
        intro j u hu
        obtain ⟨hj, _⟩ := List.getElem?_eq_some_iff.1 hu
        obtain ⟨b2, off, h, _, hc⟩ := hr (by omega)
        injection h with h
        subst h
        have e1 : ((⟨b2, off, none⟩ : Addr).add j) = ⟨b2, off + j, none⟩ := by unfold Addr.add; by_cases hk0 : j = 0 <;> simp [hk0]
        rw [e1, hc j hj, hu]
      obtain ⟨v', w', hrun, h2, h3, _, h5⟩ := run_append_own_at (P := P) w base t o.type e i _ 1 bytes ht hi hz hsz hb hz1 (by omega) v n xs hown ad news.length c news (by simp) hcells h1 h63 hbytes hbase
      exact ⟨v', w', hrun, h2, h3, h5⟩
  obtain ⟨v', w', hrun, h2, h3, h4⟩ := hrun
  unfold Oper.wp execOp
  simp only [ho, resolve, invoke, builtin, Sem.run_bind, Sem.run_pure, Result.andThen_ok, List.map_toArray, List.map_cons, List.map_nil, hs, hx, hrun]
  exact hK _ _ (h v' w' h2 h3 h4)
/-- An own row of slices reads as rows. -/
theorem rdr_own {w : World} {B base : Nat} {e : TypeId} {v : Value} {n : Nat} {xs : List Value} {rs : List (List UInt8)} (h : w.ownsRow base e 1 v n xs) (hB : w.heap.size ≤ B) (hl : rs.length ≤ 140737488355328) (hx : RowsV w B xs rs) :
    ∃ A cap, v = .slice A rs.length cap ∧ RdR w B A rs := by
  have hn : n = rs.length := by have := h.1; have := hx.1; omega
  subst hn
  rcases h.2 with ⟨rfl, h0⟩ | ⟨g, cap, cur, rfl, _, hg, _, _, _, htk⟩
  · exact ⟨none, 0, by rw [h0], hl, fun h => by omega⟩
  · refine ⟨_, cap, rfl, rdr_cells hg (by have := (Array.getElem?_eq_some_iff.1 hg).1; omega) hl fun k hk => ?_⟩
    obtain ⟨A, c, h1, h2⟩ := hx.2 k hk
    refine ⟨A, c, ?_, h2⟩
    rw [← htk, List.getElem?_take, if_pos (by omega), Array.getElem?_toList] at h1
    exact h1
theorem rows_one {w : World} {B : Nat} {A : Option Addr} {c : Nat} {bs : List UInt8} {xs : List Value} {rs : List (List UInt8)} (h : RdB w B A bs) (hx : RowsV w B xs rs) : RowsV w B ([.slice A bs.length c] ++ xs) (bs :: rs) :=
  ⟨by simp [hx.1], fun k hk => by
    cases k with
    | zero => exact ⟨A, c, rfl, h⟩
    | succ k => exact hx.2 k (by simpa using hk)⟩
theorem RowsV.below {w w' : World} {B B' : Nat} {xs : List Value} {rs : List (List UInt8)} (hx : RowsV w B xs rs) (hb : Below B w w') (hB : B ≤ B') : RowsV w' B' xs rs :=
  ⟨hx.1, fun k hk => by
    obtain ⟨A, c, h1, h2⟩ := hx.2 k hk
    exact ⟨A, c, h1, (h2.below hb (Nat.le_refl _)).more hB⟩⟩
/-- append([][]byte{x}, rows...). -/
theorem wpList_append_rows1 {W : World} {ops : Array Oper} {rest : List Oper} {o : Oper} {a : Act} {Q : Exit → Act → World → Prop} (hw : Region.wanted o (yielded ops a.tmps) = true) (s x : Operand) (t : TypeId)
    (ho : o.op = .call { callee := .builtin .append, args := #[s, x], argTypes := #[t, t] }) (e : TypeId) (ht : P.underlying t = some (.slice e)) (hinfo : (P.info? e).map (fun i => (i.zero, i.size, i.bytes)) = some (some (.slice none 0 0), 1, 24))
    (A1 : Option Addr) (n1 c1 : Nat) (b1 : List UInt8) (hn1 : b1.length = n1) (hs : a.eval s = .slice (some ⟨W.heap.size, 0, none⟩) 1 1) (A : Option Addr) (n c : Nat) (rs : List (List UInt8)) (hx : a.eval x = .slice A n c)
    (hn : rs.length = n) (hn2 : n ≤ 1000000) (h1 : RdB W W.heap.size A1 b1) (hr : RdR W W.heap.size A rs)
    (h : ∀ A2 cap2 w2, RdR w2 w2.heap.size A2 (b1 :: rs) → Below W.heap.size W w2 → wpList P ops Q rest (a.put o.dst (.slice A2 (1 + n) cap2)) w2) : wpList P ops Q (o :: rest) a (W.alloc (.cells #[.slice A1 n1 c1] e)) := by
  subst hn1 hn
  obtain ⟨xs, hxv, hxr, hx1⟩ := hr.vals
  refine wpList_append_V hw s x t ho W.heap.size e (.slice none 0 0) 24 ht hinfo rfl _ 1 _ hs (World.ownsRow_lit W #[.slice A1 b1.length c1] 1 (Nat.le_refl _) (by decide) rfl) W.heap.size A rs.length c xs hx
    hxr.1.symm (hxv.below (below1 W _) (Nat.le_refl _)) hx1 (by unfold maxLen; omega) (by omega) (by simp) ?_
  intro v2 w2 hown2 hg2 hat2
  have hb2 : Below W.heap.size W w2 := (below1 W _).grown hg2 (by simp) (by intro k hk; simp [Value.ownBlock] at hk; omega)
  obtain ⟨A2, cap2, rfl, hrr⟩ := rdr_own (rs := b1 :: rs) hown2 (Nat.le_refl _) (by simp; omega) (rows_one (c := c1) ((h1.below hb2 (Nat.le_refl _)).more hb2.size) (hxr.below hb2 hb2.size))
  have := h A2 cap2 w2 hrr hb2
  rwa [Nat.add_comm] at this
end
end Go.Proofs.Ytabeadbnoifedaa
