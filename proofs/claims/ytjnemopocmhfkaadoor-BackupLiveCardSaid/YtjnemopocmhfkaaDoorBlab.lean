/- Texts put together: Own, Feed. -/
import Derived.Test.YtjnemopocmhfkaaDoorBlaa
import Derived.Maps.AppendAt
import Derived.Laws.AppendOwnNone
import Derived.Deep.AppendLies
import Derived.Laws.CopyOwn
import Derived.Test.YtjnemopocmhfkaaDoorProg
section
namespace Go.Proofs.YtjnemopocmhfkaaDoor
open Go.RowKit

theorem map_bv_one {bs : List UInt8} : ∀ u ∈ bs.map bv, u.oneCell' = true := fun u hu => by
  obtain ⟨b, _, rfl⟩ := List.mem_map.1 hu
  rfl
/-- The slice value v owns these bytes, in a block from B on. -/
def OwB (e : TypeId) (w : World) (B : Nat) (v : Value) (bs : List UInt8) : Prop := w.ownsRow B e 1 v bs.length (bs.map bv) ∧ bs.length ≤ 140737488355328

section
variable {e : TypeId} {w w' : World} {B B' : Nat} {v : Value} {bs : List UInt8}
theorem OwB.nil (e : TypeId) (w : World) (B : Nat) : OwB e w B (.slice none 0 0) [] := ⟨World.ownsRow_nil _ _ _ _, by simp⟩
/-- What an own slice is: nil and empty, or a row of its own block. -/
theorem OwB.form (h : OwB e w B v bs) : (v = .slice none 0 0 ∧ bs = []) ∨ ∃ g cap cur, v = .slice (some ⟨g, 0, none⟩) bs.length cap ∧ B ≤ g ∧ w.heap[g]? = some (.cells cur e (0, 0)) ∧ bs.length ≤ cap ∧ cap ≤ maxLen ∧ cur.size = cap ∧
    (∀ k, k < bs.length → cur[k]? = some (.int .u8 ((bs.getD k 0).toNat : Int))) := by
  rcases h.1.2 with ⟨h1, h2⟩ | ⟨g, cap, cur, h1, h2, h3, h4, h5, h6, h7⟩
  · exact .inl ⟨h1, List.eq_nil_of_length_eq_zero h2⟩
  · refine .inr ⟨g, cap, cur, h1, h2, h3, h4, h5, by simpa using h6, fun k hk => ?_⟩
    have : (cur.toList.take (bs.length * 1))[k]? = (bs.map bv)[k]? := by rw [h7]
    rw [List.getElem?_take, if_pos (by omega), Array.getElem?_toList] at this
    rw [this]
    simp [hk, bv]
theorem OwB.rd (h : OwB e w B v bs) : ∃ A cap, v = .slice A bs.length cap ∧ bs.length ≤ cap ∧ RdB w w.heap.size A bs := by
  rcases h.form with ⟨rfl, rfl⟩ | ⟨g, cap, cur, rfl, _, hg, hc, _, _, hk⟩
  · exact ⟨none, 0, rfl, Nat.le_refl _, RdB.nil _ _ _⟩
  · exact ⟨_, cap, rfl, hc, h.2, fun _ => ⟨g, 0, rfl, (Array.getElem?_eq_some_iff.1 hg).1, fun k hk' => by rw [Nat.zero_add, cell_of_row w g k cur e (0, 0) hg]; exact hk k hk'⟩⟩
theorem OwB.rdS {A : Option Addr} {n c : Nat} (h : OwB e w B (.slice A n c) bs) : RdB w w.heap.size A bs ∧ n = bs.length ∧ n ≤ c := by
  obtain ⟨A', c', hv, hc, hr⟩ := h.rd
  injection hv with h1 h2 h3
  subst h1 h2 h3
  exact ⟨hr, rfl, hc⟩
theorem OwB.pos (h : OwB e w B v bs) (hp : 0 < bs.length) : ∃ g cap, v = .slice (some ⟨g, 0, none⟩) bs.length cap ∧ B ≤ g ∧ g < w.heap.size ∧ bs.length ≤ cap ∧ cap ≤ maxLen ∧ RdB w w.heap.size (some ⟨g, 0, none⟩) bs := by
  obtain ⟨A, c, hv, _, hr⟩ := h.rd
  rcases h.form with ⟨_, rfl⟩ | ⟨g, cap, cur, rfl, hB, hg, hc, hm, _, _⟩
  · simp at hp
  · injection hv with h1 _ _
    exact ⟨g, cap, rfl, hB, (Array.getElem?_eq_some_iff.1 hg).1, hc, hm, h1 ▸ hr⟩
/-- A new row of n zero bytes. -/
theorem own_make (e : TypeId) (w : World) (n : Nat) (hn : n ≤ 140737488355328) : OwB e (w.alloc (.cells (zcells n) e)) w.heap.size (.slice (some ⟨w.heap.size, 0, none⟩) n n) (List.replicate n 0) := by
  refine ⟨?_, by simpa using hn⟩
  have h := World.ownsRow_lit (base := w.heap.size) (e := e) (size := 1) w (zcells n) n (Nat.le_refl _) (by unfold maxLen; omega) (by rw [zcells_size]; omega)
  unfold zcells at h ⊢
  rw [toList_madeCells_one] at h
  simpa [bv] using h
theorem OwB.grown {row : Option Nat} (h : OwB e w B v bs) (hg : w.grownBy w' row) (hne : v.ownBlock = none ∨ v.ownBlock ≠ row) : OwB e w' B v bs := ⟨h.1.kept hg hne, h.2⟩
theorem grown_none {a b : World} (h : Below a.heap.size a b) : a.grownBy b none := ⟨h.os, h.tape, h.output, h.size, fun k hk _ => h.block k hk⟩
theorem OwB.below (h : OwB e w B v bs) (hb : Below w.heap.size w w') : OwB e w' B v bs := h.grown (grown_none hb) (by cases v.ownBlock <;> simp)
theorem OwB.lt (h : OwB e w B v bs) : ∀ k, v.ownBlock = some k → B ≤ k ∧ k < w.heap.size := h.1.lt
theorem OwB.le (h : OwB e w B v bs) (hB : B' ≤ B) : OwB e w B' v bs := by
  refine ⟨⟨h.1.1, ?_⟩, h.2⟩
  rcases h.1.2 with h1 | ⟨g, cap, cur, h1, h2, r⟩
  · exact .inl h1
  · exact .inr ⟨g, cap, cur, h1, by omega, r⟩
end

section
variable {e : TypeId} {w w' : World} {B g n cap : Nat} {bs : List UInt8}
theorem OwB.cell (h : OwB e w B (.slice (some ⟨g, 0, none⟩) n cap) bs) (hn : bs.length = n) (j : Nat) (hj : j < n) : w.cell? ⟨g, j, none⟩ = some (.int .u8 ((bs.getD j 0).toNat : Int)) ∧ w.frozen? ⟨g, j, none⟩ = false := by
  subst hn
  refine ⟨?_, h.1.frozenAt j⟩
  rw [h.1.cellAt j (by omega)]
  simp [hj, bv]
theorem OwB.set (h : OwB e w B (.slice (some ⟨g, 0, none⟩) n cap) bs) (hn : bs.length = n) (j : Nat) (b : UInt8) :
    OwB e (w.setCell ⟨g, j, none⟩ (.int .u8 (b.toNat : Int))) B (.slice (some ⟨g, 0, none⟩) n cap) (bs.set j b) ∧ w.grownBy (w.setCell ⟨g, j, none⟩ (.int .u8 (b.toNat : Int))) (some g) := by
  subst hn
  obtain ⟨h1, h2⟩ := h.1.stored j (.int .u8 (b.toNat : Int))
  refine ⟨⟨?_, by simpa using h.2⟩, h2⟩
  rw [List.map_set, List.length_set]
  exact h1
theorem grown_of_below {a b : World} (h : Below a.heap.size a b) (row : Option Nat) : a.grownBy b row := ⟨h.os, h.tape, h.output, h.size, fun k hk _ => h.block k hk⟩
end

section
variable {P : Program} (w : World)
/-- append(own, source...): the source nil, empty or full. -/
theorem run_append_B (base : Nat) (t ty e : TypeId) (ht : P.underlying t = some (.slice e)) (hinfo : (P.info? e).map (fun i => (i.zero, i.size, i.bytes)) = some (some (.int .u8 0), 1, 1))
    (v : Value) (xs : List UInt8) (hown : OwB e w base v xs) (B : Nat) (A : Option Addr) (c : Nat) (bs : List UInt8) (hr : RdB w B A bs) (hn : xs.length + bs.length ≤ 140737488355328) (hbase : base ≤ w.heap.size) :
    ∃ v' w', (Builtin.append_ #[t, t] ty #[v, .slice A bs.length c]).run P w = .ok v' w' ∧ OwB e w' base v' (xs ++ bs) ∧ w.grownBy w' v.ownBlock ∧ (v'.ownBlock = v.ownBlock ∨ v'.ownBlock = some w.heap.size) := by
  obtain ⟨i, hi, hzz⟩ := Option.map_eq_some_iff.1 hinfo
  simp only [Prod.mk.injEq] at hzz
  obtain ⟨hz, hs, hb⟩ := hzz
  rcases A with _ | ad
  · have hm : bs = [] := by
      rcases bs with _ | ⟨b, r⟩
      · rfl
      · obtain ⟨_, _, h, _⟩ := hr.2 (by simp)
        cases h
    subst hm
    refine ⟨v, w, ?_, by simpa using hown, World.grownBy.refl w _, .inl rfl⟩
    rcases hown.1.2 with ⟨rfl, _⟩ | ⟨g, cap, cur, rfl, _, _, hnc, _⟩
    · simp [Builtin.append_, run_underlying ht, sizeOf, typeInfo, hi, Builtin.lenOf, Builtin.firstCells]
    · simp [Builtin.append_, run_underlying ht, sizeOf, typeInfo, hi, Builtin.lenOf, Builtin.firstCells, hnc, storeCells]
  · have hcells : ∀ j u, (bs.map bv)[j]? = some u → w.cell? (ad.add j) = some u := by
      intro j u hu
      simp only [List.getElem?_map, Option.map_eq_some_iff] at hu
      obtain ⟨b, hb1, rfl⟩ := hu
      obtain ⟨hj, rfl⟩ := List.getElem?_eq_some_iff.1 hb1
      obtain ⟨b2, off, h, _, hc⟩ := hr.2 (by omega)
      injection h with h
      subst h
      have e1 : ((⟨b2, off, none⟩ : Addr).add j) = ⟨b2, off + j, none⟩ := by unfold Addr.add; by_cases hk0 : j = 0 <;> simp [hk0]
      rw [e1, hc j hj]
      simp [bv, hj]
    obtain ⟨v', w', hrun, h2, h3, _, h5⟩ := run_append_own_at (P := P) w base t ty e i _ 1 1 ht hi hz hs hb rfl (by omega) v xs.length (xs.map bv) hown.1 ad bs.length c (bs.map bv) (by simp) hcells map_bv_one (by unfold maxLen; omega) (by omega) hbase
    exact ⟨v', w', hrun, ⟨by simpa using h2, by simpa using hn⟩, h3, h5⟩
theorem wpList_append_B {ops : Array Oper} {rest : List Oper} {o : Oper} {a : Act} {Q : Exit → Act → World → Prop} (hw : Region.wanted o (yielded ops a.tmps) = true) (s x : Operand) (t : TypeId)
    (ho : o.op = .call { callee := .builtin .append, args := #[s, x], argTypes := #[t, t] })
    (base : Nat) (e : TypeId) (ht : P.underlying t = some (.slice e)) (hinfo : (P.info? e).map (fun i => (i.zero, i.size, i.bytes)) = some (some (.int .u8 0), 1, 1))
    (v : Value) (xs : List UInt8) (hs : a.eval s = v) (hown : OwB e w base v xs) (B : Nat) (A : Option Addr) (n c : Nat) (bs : List UInt8) (hx : a.eval x = .slice A n c) (hnl : n = bs.length) (hr : RdB w B A bs)
    (hn : xs.length + bs.length ≤ 140737488355328) (hbase : base ≤ w.heap.size)
    (h : ∀ v' w', OwB e w' base v' (xs ++ bs) → w.grownBy w' v.ownBlock → (v'.ownBlock = v.ownBlock ∨ v'.ownBlock = some w.heap.size) → wpList P ops Q rest (a.put o.dst v') w') : wpList P ops Q (o :: rest) a w := by
  subst hnl
  refine BigFrame.wpList_want hw fun K hK => ?_
  obtain ⟨v', w', hrun, h2, h3, h4⟩ := run_append_B (P := P) w base t o.type e ht hinfo v xs hown B A c bs hr hn hbase
  unfold Oper.wp execOp
  simp only [ho, resolve, invoke, builtin, Sem.run_bind, Sem.run_pure, Result.andThen_ok, List.map_toArray, List.map_cons, List.map_nil, hs, hx, hrun]
  exact hK _ _ (h v' w' h2 h3 h4)

/-- A slice that holds these values, one cell each. -/
def RdV (w : World) (B : Nat) (A : Option Addr) (xs : List Value) : Prop :=
  0 < xs.length → ∃ b off, A = some ⟨b, off, none⟩ ∧ b < B ∧ ∀ k, k < xs.length → w.cell? ⟨b, off + k, none⟩ = xs[k]?
theorem RdV.below {w w' : World} {B B' : Nat} {A : Option Addr} {xs : List Value} (h : RdV w B A xs) (hb : Below B w w') (hB : B ≤ B') : RdV w' B' A xs := fun hn => by
  obtain ⟨b, off, e, hlt, hc⟩ := h hn
  exact ⟨b, off, e, by omega, fun k hk => (hb.cell (p := ⟨b, off + k, none⟩) hlt).trans (hc k hk)⟩
/-- Values that read as rows. -/
def RowsV (w : World) (B : Nat) (xs : List Value) (rs : List (List UInt8)) : Prop :=
  xs.length = rs.length ∧ ∀ k, k < rs.length → ∃ A c, xs[k]? = some (.slice A (rs.getD k []).length c) ∧ RdB w B A (rs.getD k [])
theorem RdR.vals {w : World} {B : Nat} {A : Option Addr} {rs : List (List UInt8)} (h : RdR w B A rs) : ∃ xs, RdV w B A xs ∧ RowsV w B xs rs ∧ ∀ u ∈ xs, u.oneCell' = true := by
  rcases Nat.eq_zero_or_pos rs.length with h0 | h0
  · refine ⟨[], fun h => by simp at h, ⟨by simp [h0], fun k hk => by omega⟩, fun u hu => by simp at hu⟩
  · obtain ⟨b, off, rfl, hb, hc⟩ := h.2 h0
    have hx : ∀ k, k < rs.length → ((List.range rs.length).map fun k => (w.cell? ⟨b, off + k, none⟩).getD undef)[k]? = w.cell? ⟨b, off + k, none⟩ := fun k hk => by
      obtain ⟨A', c', h1, _⟩ := hc k hk
      simp [hk, h1]
    refine ⟨(List.range rs.length).map fun k => (w.cell? ⟨b, off + k, none⟩).getD undef, fun _ => ⟨b, off, rfl, hb, fun k hk => (hx k (by simpa using hk)).symm⟩, ⟨by simp, fun k hk => ?_⟩, fun u hu => ?_⟩
    · obtain ⟨A', c', h1, h2⟩ := hc k hk
      exact ⟨A', c', (hx k hk).trans h1, h2⟩
    · simp only [List.mem_map, List.mem_range] at hu
      obtain ⟨k, hk, rfl⟩ := hu
      obtain ⟨A', c', h1, _⟩ := hc k hk
      rw [h1]
      rfl
theorem wpList_append_V {w : World} {ops : Array Oper} {rest : List Oper} {o : Oper} {a : Act} {Q : Exit → Act → World → Prop} (hw : Region.wanted o (yielded ops a.tmps) = true) (s x : Operand) (t : TypeId)
    (ho : o.op = .call { callee := .builtin .append, args := #[s, x], argTypes := #[t, t] })
    (base : Nat) (e : TypeId) (z : Value) (bytes : Nat) (ht : P.underlying t = some (.slice e)) (hinfo : (P.info? e).map (fun i => (i.zero, i.size, i.bytes)) = some (some z, 1, bytes)) (hz1 : z.cells.size = 1)
    (v : Value) (n : Nat) (xs : List Value) (hs : a.eval s = v) (hown : w.ownsRow base e 1 v n xs) (B : Nat) (A : Option Addr) (m c : Nat) (news : List Value) (hx : a.eval x = .slice A m c) (hm : m = news.length)
    (hr : RdV w B A news) (h1 : ∀ u ∈ news, u.oneCell' = true) (h63 : n + m ≤ maxLen) (hbytes : (n + m) * bytes ≤ 140737488355328) (hbase : base ≤ w.heap.size)
    (h : ∀ v' w', w'.ownsRow base e 1 v' (n + m) (xs ++ news) → w.grownBy w' v.ownBlock → (v'.ownBlock = v.ownBlock ∨ v'.ownBlock = some w.heap.size) → wpList P ops Q rest (a.put o.dst v') w') : wpList P ops Q (o :: rest) a w := by
  subst hm
  refine BigFrame.wpList_want hw fun K hK => ?_
  obtain ⟨i, hi, hzz⟩ := Option.map_eq_some_iff.1 hinfo
  simp only [Prod.mk.injEq] at hzz
  obtain ⟨hz, hsz, hb⟩ := hzz
  have hrun : ∃ v' w', (Builtin.append_ #[t, t] o.type #[v, .slice A news.length c]).run P w = .ok v' w' ∧ w'.ownsRow base e 1 v' (n + news.length) (xs ++ news) ∧ w.grownBy w' v.ownBlock ∧ (v'.ownBlock = v.ownBlock ∨ v'.ownBlock = some w.heap.size) := by
    rcases A with _ | ad
    · have hm : news = [] := by
        rcases news with _ | ⟨b, r⟩
        · rfl
        · obtain ⟨_, _, h, _⟩ := hr (by simp)
          cases h
      subst hm
      refine ⟨v, w, ?_, by simpa using hown, World.grownBy.refl w _, .inl rfl⟩
      rcases hown.2 with ⟨rfl, _⟩ | ⟨g, cap, cur, rfl, _, _, hnc, _⟩
      · simp [Builtin.append_, run_underlying ht, sizeOf, typeInfo, hi, Builtin.lenOf, Builtin.firstCells]
      · simp [Builtin.append_, run_underlying ht, sizeOf, typeInfo, hi, Builtin.lenOf, Builtin.firstCells, hnc, storeCells]
    · have hcells : ∀ j u, news[j]? = some u → w.cell? (ad.add j) = some u := by
        intro j u hu
        obtain ⟨hj, _⟩ := List.getElem?_eq_some_iff.1 hu
        obtain ⟨b2, off, h, _, hc⟩ := hr (by omega)
        injection h with h
        subst h
        have e1 : ((⟨b2, off, none⟩ : Addr).add j) = ⟨b2, off + j, none⟩ := by unfold Addr.add; by_cases hk0 : j = 0 <;> simp [hk0]
        rw [e1, hc j hj, hu]
      obtain ⟨v', w', hrun, h2, h3, _, h5⟩ := run_append_own_at (P := P) w base t o.type e i _ 1 bytes ht hi hz hsz hb hz1 (by omega) v n xs hown ad news.length c news (by simp) hcells h1 h63 hbytes hbase
      exact ⟨v', w', hrun, h2, h3, h5⟩
  obtain ⟨v', w', hrun, h2, h3, h4⟩ := hrun
  unfold Oper.wp execOp
  simp only [ho, resolve, invoke, builtin, Sem.run_bind, Sem.run_pure, Result.andThen_ok, List.map_toArray, List.map_cons, List.map_nil, hs, hx, hrun]
  exact hK _ _ (h v' w' h2 h3 h4)
end
end Go.Proofs.YtjnemopocmhfkaaDoor
end
section
namespace Go.Proofs.YtjnemopocmhfkaaDoor
open Go.RowKit

def TabOk (w : World) : Prop := ∀ i, i < 16 → w.cell? ⟨0, i, none⟩ = some (.int .u32 ((nibs.getD i 0 : Nat) : Int))
theorem and15 (s : Nat) (h : s < 4294967296) : bits .and .u32 (s : Int) 15 = ((s % 16 : Nat) : Int) := by
  have := u32_and_nat s 15 h (by decide)
  rw [show ((15 : Nat) : Int) = 15 from rfl] at this
  rw [this, nat_mask4]
theorem shr_xor (s n : Nat) (h : s < 4294967296) (hn : n < 4294967296) : bits .xor .u32 ((s : Int) / 16) (n : Int) = (((s / 16) ^^^ n : Nat) : Int) := by
  have := u32_xor_nat (s / 16) n (by omega) hn
  rw [← this]; rfl
theorem TabOk.below {w w' : World} {B : Nat} (h : TabOk w) (hb : Below B w w') (hB : 0 < B) : TabOk w' := fun i hi => (hb.cell (p := ⟨0, i, none⟩) hB).trans (h i hi)
theorem TabOk.pos {w : World} (h : TabOk w) : 0 < w.heap.size := World.block_lt_of_cell? w ⟨0, 0, none⟩ (h 0 (by omega))
set_option maxHeartbeats 400000 in
theorem feed_any (A : Option Addr) (rs : List (List UInt8)) (cp : Nat) (x : Nat) (hx : x < 4294967296) (w : World) (hr : RdR w w.heap.size A rs) (ht : TabOk w) :
    Calls Tryd.prog 56 #[.int .u32 (x : Int), .slice A rs.length cp] w fun e w' => e = .returned (.int .u32 ((feedR x rs : Nat) : Int)) ∧ w' = w := by
  have hm := hr.1
  go_enter Tryd.func56, Tryd.ntmps56
  go_wp2
  go_loop [0, 11] (fun v i => ∃ k : Nat, k ≤ rs.length ∧ i = .int .i64 k ∧ v = .int .u32 ((feedR x (rs.take k) : Nat) : Int)) (fun _ i => rs.length - (intOf i).toNat)
  case atStart => exact ⟨0, Nat.zero_le _, rfl, rfl⟩
  case round =>
    obtain ⟨k, hk, rfl, rfl⟩ := hrel
    have hy := feedR_lt (rs.take k) hx
    by_cases hlt : k < rs.length
    · obtain ⟨b, off, rfl, hb, hc⟩ := hr.2 (by omega)
      obtain ⟨A', c', h1, h2⟩ := hc k hlt
      have Hsn := Lib.hid (feedR_snoc x rs k hlt)
      generalize rs.getD k [] = row at h1 h2 Hsn
      generalize feedR x (rs.take k) = y at hy Hsn
      clear hc
      have hlen := h2.1
      go_wp2
      go_loop [0, 17] (fun v i => ∃ j : Nat, j ≤ row.length ∧ i = .int .i64 j ∧ v = .int .u32 ((feedB y (row.take j) : Nat) : Int)) (fun _ i => row.length - (intOf i).toNat)
      case atStart => exact ⟨0, Nat.zero_le _, rfl, rfl⟩
      case round =>
        obtain ⟨j, hj, rfl, rfl⟩ := hrel
        have hz := feedB_lt (row.take j) hy
        by_cases hlt2 : j < row.length
        · obtain ⟨b2, off2, rfl, hb2, hc2⟩ := h2.2 (by omega)
          have h3 := hc2 j hlt2
          have Hsn2 := Lib.hid (feedB_snoc y row j hlt2)
          generalize row.getD j 0 = c at h3 Hsn2
          generalize feedB y (row.take j) = z at hz Hsn2
          have hcb : c.toNat < 256 := c.toNat_lt
          clear hc2
          have e0 := u32_xor_nat z c.toNat hz (by omega)
          have hs0 := xor_lt32 hz (show c.toNat < 4294967296 by omega)
          have Hst : Hid (stepB z c = half (half (z ^^^ c.toNat))) := rfl
          generalize z ^^^ c.toNat = s0 at e0 hs0 Hst
          have e1 := and15 s0 hs0
          have t1 := ht (s0 % 16) (by omega)
          have n1 := nibs_lt (s0 % 16)
          have e2 := shr_xor s0 _ hs0 n1
          have hs1 := half_lt hs0
          rw [show (s0 / 16) ^^^ nibs.getD (s0 % 16) 0 = half s0 from rfl] at e2
          generalize half s0 = s1 at e2 hs1 Hst
          generalize nibs.getD (s0 % 16) 0 = m1 at t1 n1 e2
          have e3 := and15 s1 hs1
          have t2 := ht (s1 % 16) (by omega)
          have n2 := nibs_lt (s1 % 16)
          have e4 := shr_xor s1 _ hs1 n2
          have hs2 := half_lt hs1
          rw [show (s1 / 16) ^^^ nibs.getD (s1 % 16) 0 = half s1 from rfl] at e4
          generalize half s1 = s2 at e4 hs2 Hst
          generalize nibs.getD (s1 % 16) 0 = m2 at t2 n2 e4
          go_wp2
          go_round
          case rel => exact ⟨j + 1, by omega, by go_num, by rw [Hsn2.out, Hst.out]⟩
          case measure => simp [intOf]; omega
        · obtain rfl : j = row.length := by omega
          go_wp2
          go_round
          case rel => exact ⟨k + 1, by omega, by go_num, by rw [Hsn.out, List.take_length]⟩
          case measure => simp [intOf]; omega
    · obtain rfl : k = rs.length := by omega
      go_wp2
      go_ret
      exact ⟨rfl, rfl⟩
end Go.Proofs.YtjnemopocmhfkaaDoor
end
