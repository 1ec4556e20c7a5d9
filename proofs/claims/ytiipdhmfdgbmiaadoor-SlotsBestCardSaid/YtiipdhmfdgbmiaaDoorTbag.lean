/- Texts put together: CloneB, Rows2, LawArgs. -/
import Derived.Test.YtiipdhmfdgbmiaaDoorTbaa
import Derived.Deep.Matrix
import Derived.Deep.Grids
section
set_option maxRecDepth 8000
namespace Go.Proofs.YtiipdhmfdgbmiaaDoor
open Go.RowKit

theorem own_empty (w : World) : OwB 5 (w.alloc (.cells #[] 5)) w.heap.size (.slice (some ⟨w.heap.size, 0, none⟩) 0 0) [] :=
  ⟨World.ownsRow_lit w #[] 0 (Nat.le_refl _) (by unfold maxLen; omega) rfl, by simp⟩
theorem clone_any (A : Option Addr) (bs : List UInt8) (n c : Nat) (w : World) (hn : n = bs.length) (hp : 0 < bs.length) (hr : RdB w w.heap.size A bs) :
    Calls Tryd.prog 75 #[.slice A n c] w fun e w' => ∃ v, e = .returned v ∧ OwB 5 w' w.heap.size v bs ∧ Below w.heap.size w w' := by
  have hl := hr.1
  obtain ⟨b, off, rfl, hb, hc⟩ := hr.2 hp
  subst hn
  have ho := own_empty w
  have hq : ∀ W : World, (binOp .eql 38 (.slice (some ⟨b, off, none⟩) bs.length c) (.slice none 0 0)).run Tryd.prog W = .ok (.bool false) W := fun _ => rfl
  have hr1 := hr.below (below1 w (.cells #[] 5)) (Nat.le_refl _)
  go_enter Tryd.func75, Tryd.ntmps75
  go_wp2_with (at_builtin; refine wpList_append_B _ rfl _ _ _ rfl w.heap.size 5 Tryd.underlying38 info_u8 (.slice (some ⟨w.heap.size, 0, none⟩) 0 0) [] rfl ho w.heap.size (some ⟨b, off, none⟩) bs.length c bs rfl rfl hr1 (by simpa using hl) (by simp) ?_; intro v' w' hown hg hat)
  have hbw := (below1 w (.cells #[] 5)).grown hg (by simp) (by simp [Value.ownBlock])
  rw [List.nil_append] at hown
  go_ret
  exact ⟨v', rfl, hown, hbw⟩
end Go.Proofs.YtiipdhmfdgbmiaaDoor
end
section
namespace Go.Proofs.YtiipdhmfdgbmiaaDoor
open Go.ChangeShapes Go.WideShapes Go.ChangeAt Go.RowKit

/-- As RdR; and no row is longer than its room. -/
def RdC (w : World) (B : Nat) (A : Option Addr) (rs : List (List UInt8)) : Prop :=
  rs.length ≤ 140737488355328 ∧ (0 < rs.length → ∃ b off, A = some ⟨b, off, none⟩ ∧ b < B ∧ ∀ k, k < rs.length → ∃ A' c, w.cell? ⟨b, off + k, none⟩ = some (.slice A' (rs.getD k []).length c) ∧ (rs.getD k []).length ≤ c ∧ RdB w B A' (rs.getD k []))
theorem RdC.rdr {w : World} {B : Nat} {A : Option Addr} {rs : List (List UInt8)} (h : RdC w B A rs) : RdR w B A rs :=
  ⟨h.1, fun h0 => by
    obtain ⟨b, off, e, hb, hc⟩ := h.2 h0
    refine ⟨b, off, e, hb, fun k hk => ?_⟩
    obtain ⟨A', c, h1, _, h2⟩ := hc k hk
    exact ⟨A', c, h1, h2⟩⟩
theorem RdC.keep {w w' : World} {B B' : Nat} {A : Option Addr} {rs : List (List UInt8)} (h : RdC w B A rs) (hB : B ≤ B') (hk : ∀ p : Addr, p.block < B → w'.cell? p = w.cell? p) : RdC w' B' A rs :=
  ⟨h.1, fun hn => by
    obtain ⟨b, off, e, hb, hc⟩ := h.2 hn
    refine ⟨b, off, e, by omega, fun k hk' => ?_⟩
    obtain ⟨A', c, h1, h2, h3⟩ := hc k hk'
    exact ⟨A', c, (hk ⟨b, off + k, none⟩ hb).trans h1, h2, h3.keep hB hk⟩⟩
theorem RdC.below {w w' : World} {B B' : Nat} {A : Option Addr} {rs : List (List UInt8)} (h : RdC w B A rs) (hb : Below B' w w') (hB : B ≤ B') : RdC w' B A rs := h.keep (Nat.le_refl _) fun p hp => hb.cell (by omega)
theorem RdC.more {w : World} {B B' : Nat} {A : Option Addr} {rs : List (List UInt8)} (h : RdC w B A rs) (hB : B ≤ B') : RdC w B' A rs := h.keep hB fun _ _ => rfl
/-- A slice of slices cut: s[:k], s[k:]. -/
theorem RdR.take {w : World} {B : Nat} {A : Option Addr} {rs : List (List UInt8)} (h : RdR w B A rs) (k : Nat) : RdR w B A (rs.take k) :=
  ⟨by have := h.1; simp; omega, fun hn => by
    have hn' : 0 < rs.length := by simp at hn; omega
    obtain ⟨b, off, e, hb, hc⟩ := h.2 hn'
    refine ⟨b, off, e, hb, fun j hj => ?_⟩
    have hj' : j < k ∧ j < rs.length := by simp at hj; omega
    have e : (rs.take k).getD j [] = rs.getD j [] := by simp [hj'.1]
    rw [e]
    exact hc j hj'.2⟩
theorem RdR.drop {w : World} {B : Nat} {A : Option Addr} {rs : List (List UInt8)} (h : RdR w B A rs) (k cap : Nat) (hc : rs.length ≤ cap) : RdR w B (if cap = k then A else A.map (·.add k)) (rs.drop k) :=
  ⟨by have := h.1; simp; omega, fun hn => by
    have hn' : k < rs.length := by simp at hn; omega
    obtain ⟨b, off, rfl, hb, hc⟩ := h.2 (by omega)
    rw [if_neg (by omega)]
    refine ⟨b, off + k, ?_, hb, fun j hj => ?_⟩
    · unfold Addr.add; by_cases hk0 : k = 0 <;> simp [hk0]
    · have hj' : k + j < rs.length := by simp at hj; omega
      have e : (rs.drop k).getD j [] = rs.getD (k + j) [] := by simp
      rw [Nat.add_assoc, e]
      exact hc (k + j) hj'⟩

section
variable {H : Type} {enc : TypeId × Value → H} {P : Program}
theorem weightsAll_mem {e : TypeId} {d : DataW H} {n : Nat} : ∀ {ds : List (DataW H)}, d ∈ ds → n ∈ d.weights P e → n ∈ DataW.weightsAll P e ds
  | _ :: _, .head _, h => by unfold DataW.weightsAll; exact List.mem_append_left _ h
  | _ :: _, .tail _ h', h => by unfold DataW.weightsAll; exact List.mem_append_right _ (weightsAll_mem h' h)
/-- A slice of slices of bytes that came in. -/
theorem open_rows {t e q : TypeId} (ht : P.underlying t = some (.slice e)) (he : P.underlying e = some (.slice q)) (hq : P.underlying q = some (.int .u8)) (ce : P.cellsOf e = 1) (cq : P.cellsOf q = 1) (be : P.bytesOf e = 24) (bq : P.bytesOf q = 1)
    {r : Reach} {W : World} {base : Nat} {v : Value} {d : DataW H} {p : List MemPlace}
    (hv : Value.okWide P W r base t v) (h : DataW.Trod enc P W 0 (fun _ => true) true t v d p) (hs : ∀ n ∈ d.weights P t, n ≤ reachBytes) :
    ∃ A rs cap, v = .slice A rs.length cap ∧ rs.length ≤ cap ∧ RdC W W.heap.size A rs := by
  obtain ⟨A, len, cap, rfl⟩ := okWide_slice ht hv
  obtain ⟨fuel, hf⟩ := h
  rcases Deep.open_int_rows ht he hq ce cq hf with ⟨hcs, _⟩ | ⟨a, l, c, As, L, C, Z, hcs, _, hl, hm, hd, hall⟩
  · simp [Value.cells] at hcs
    obtain ⟨rfl, rfl, rfl⟩ := hcs
    exact ⟨none, [], 0, rfl, Nat.le_refl _, by simp, fun h => by simp at h⟩
  · simp [Value.cells] at hcs
    obtain ⟨rfl, rfl, rfl⟩ := hcs
    injection hd with hd1 hd2
    have hcap : cap ≤ 140737488355328 := by
      have := hs ((len + (cap - len)) * 24) (by rw [hd1]; simp [DataW.weights, ht, be])
      simp [reachBytes] at this
      omega
    have hrow : ∀ r, r < len → C r ≤ 140737488355328 := fun r hr => by
      obtain ⟨_, h2, h3, h4, _, h6, _⟩ := hall r (by omega)
      cases hA : As r with
      | none => have := h6 hA; omega
      | some a' =>
        have hw : C r * 1 ∈ (Deep.intRow (H := H) .u8 (As r) (L r) (Z r)).weights P e := by
          rw [hA]
          simp [Deep.intRow, DataW.weights, he, lits, bq, h4]
          omega
        have := hs _ (by rw [hd1]; unfold DataW.weights; simp only [ht]; exact List.mem_cons_of_mem _ (List.mem_append_left _ (weightsAll_mem (List.mem_map.2 ⟨r, List.mem_range.2 hr, rfl⟩) hw)))
        simp [reachBytes] at this
        omega
    have hcellA : ∀ r a', r < len → As r = some a' → 0 < C r → ∃ b off, a' = ⟨b, off, none⟩ ∧ b < W.heap.size := fun r a' hr hA hp => by
      obtain ⟨_, _, _, _, _, _, h7⟩ := hall r (by omega)
      have hc0 := (h7 a' hA).2 0 hp
      obtain ⟨b, off, spot⟩ := a'
      have hspot : spot = none := by simpa [Addr.add] using World.cell?_spot hc0
      subst hspot
      exact ⟨b, off, rfl, by have := World.block_lt_of_cell? _ _ hc0; simpa [Addr.add] using this⟩
    have hZ : ∀ r, r < len → ((Z r).take (L r)).length = L r := fun r hr => by
      obtain ⟨_, h2, _, h4, _⟩ := hall r (by omega)
      rw [List.length_take, h4]; omega
    have hget : ∀ r, r < len → ((List.range len).map fun r => ((Z r).take (L r)).map fun z => UInt8.ofNat z.toNat).getD r [] = ((Z r).take (L r)).map fun z => UInt8.ofNat z.toNat := fun r hr => by
      simp [hr]
    refine ⟨some a, (List.range len).map fun r => ((Z r).take (L r)).map fun z => UInt8.ofNat z.toNat, cap, by simp, by simpa using hl, by simp; omega, fun h0 => ?_⟩
    have h0' : 0 < len := by simpa using h0
    have hc0 := (hall 0 (by omega)).1
    obtain ⟨b, off, spot⟩ := a
    have hspot : spot = none := by simpa [Addr.add] using World.cell?_spot hc0
    subst hspot
    refine ⟨b, off, rfl, by have := World.block_lt_of_cell? _ _ hc0; simpa [Addr.add] using this, fun k hk => ?_⟩
    have hk' : k < len := by simpa using hk
    obtain ⟨h1, h2, h3, h4, h5, h6, h7⟩ := hall k (by omega)
    have e1 : ((⟨b, off, none⟩ : Addr).add k) = ⟨b, off + k, none⟩ := by unfold Addr.add; by_cases hk0 : k = 0 <;> simp [hk0]
    rw [e1] at h1
    rw [hget k hk', List.length_map, hZ k hk']
    refine ⟨As k, C k, h1, h2, ?_, fun hn => ?_⟩
    · rw [List.length_map, hZ k hk']; have := hrow k hk'; omega
    · rw [List.length_map, hZ k hk'] at hn
      cases hA : As k with
      | none => have := h6 hA; omega
      | some a' =>
        obtain ⟨b2, off2, rfl, hb2⟩ := hcellA k a' hk' hA (by omega)
        refine ⟨b2, off2, rfl, hb2, fun j hj => ?_⟩
        rw [List.length_map, hZ k hk'] at hj
        have hcj := (h7 _ hA).2 j (by omega)
        have e2 : ((⟨b2, off2, none⟩ : Addr).add j) = ⟨b2, off2 + j, none⟩ := by unfold Addr.add; by_cases hk0 : j = 0 <;> simp [hk0]
        rw [e2] at hcj
        rw [hcj]
        have hmem : (Z k).getD j 0 ∈ Z k := by simp [show j < (Z k).length by omega]
        have hw := bounds_u8 (h5 _ hmem)
        have e4 : (Z k)[j]? = some ((Z k).getD j 0) := by rw [List.getD_eq_getElem?_getD, List.getElem?_eq_getElem (by omega)]; rfl
        have e3 : (((Z k).take (L k)).map fun z => UInt8.ofNat z.toNat).getD j 0 = UInt8.ofNat ((Z k).getD j 0).toNat := by
          rw [List.getD_eq_getElem?_getD, List.getElem?_map, List.getElem?_take, if_pos hj, e4]
          rfl
        rw [e3, UInt8.toNat_ofNat', Nat.mod_eq_of_lt (by omega)]
        congr 2
        omega
end

/-- Values that read as rows, none of them in block ob. -/
def RowsX (w : World) (B : Nat) (ob : Option Nat) (xs : List Value) (rs : List (List UInt8)) : Prop :=
  xs.length = rs.length ∧ ∀ k, k < rs.length → ∃ A c, xs[k]? = some (.slice A (rs.getD k []).length c) ∧ RdB w B A (rs.getD k []) ∧ (0 < (rs.getD k []).length → ∀ a, A = some a → some a.block ≠ ob)
theorem RowsX.nil (w : World) (B : Nat) (ob : Option Nat) : RowsX w B ob [] [] := ⟨rfl, fun k hk => by simp at hk⟩
theorem RowsX.rowsV {w : World} {B : Nat} {ob : Option Nat} {xs : List Value} {rs : List (List UInt8)} (h : RowsX w B ob xs rs) : RowsV w B xs rs :=
  ⟨h.1, fun k hk => by
    obtain ⟨A, c, h1, h2, _⟩ := h.2 k hk
    exact ⟨A, c, h1, h2⟩⟩
theorem RowsX.below {w w' : World} {ob : Option Nat} {xs : List Value} {rs : List (List UInt8)} (h : RowsX w w.heap.size ob xs rs) (hb : Below w.heap.size w w') : RowsX w' w'.heap.size ob xs rs :=
  ⟨h.1, fun k hk => by
    obtain ⟨A, c, h1, h2, h3⟩ := h.2 k hk
    exact ⟨A, c, h1, (h2.below hb (Nat.le_refl _)).more hb.size, h3⟩⟩
theorem RowsX.grown {w w' : World} {ob ob' : Option Nat} {xs : List Value} {rs : List (List UInt8)} (h : RowsX w w.heap.size ob xs rs) (hg : w.grownBy w' ob) (ho : ob' = ob ∨ ob' = some w.heap.size) : RowsX w' w'.heap.size ob' xs rs :=
  ⟨h.1, fun k hk => by
    obtain ⟨A, c, h1, h2, h3⟩ := h.2 k hk
    refine ⟨A, c, h1, ⟨h2.1, fun h0 => ?_⟩, fun h0 a ha => ?_⟩
    · obtain ⟨b, off, e, hb, hc⟩ := h2.2 h0
      have hne := h3 h0 _ e
      refine ⟨b, off, e, by have := hg.size; omega, fun j hj => ?_⟩
      rw [← hc j hj]
      exact World.cell?_of_block (w := w) (hg.block b hb hne)
    · rcases ho with rfl | rfl
      · exact h3 h0 a ha
      · obtain ⟨b, off, e, hb, hc⟩ := h2.2 h0
        rw [ha] at e
        injection e with e
        subst e
        intro e
        injection e with e
        simp at e
        omega⟩
theorem RowsX.snoc {w : World} {B : Nat} {ob : Option Nat} {xs : List Value} {rs : List (List UInt8)} (h : RowsX w B ob xs rs) {A : Option Addr} {c : Nat} {bs : List UInt8} (hr : RdB w B A bs) (hne : 0 < bs.length → ∀ a, A = some a → some a.block ≠ ob) : RowsX w B ob (xs ++ [.slice A bs.length c]) (rs ++ [bs]) :=
  ⟨by simp [h.1], fun k hk => by
    by_cases hk2 : k < rs.length
    · obtain ⟨A', c', h1, h2, h3⟩ := h.2 k hk2
      have e : (rs ++ [bs]).getD k [] = rs.getD k [] := by simp [List.getElem?_append_left hk2]
      rw [e]
      exact ⟨A', c', by rw [List.getElem?_append_left (by rw [h.1]; exact hk2)]; exact h1, h2, h3⟩
    · have hk3 : k = rs.length := by simp at hk; omega
      subst hk3
      have e : (rs ++ [bs]).getD rs.length [] = bs := by simp
      rw [e]
      exact ⟨A, c, by rw [← h.1]; simp, hr, hne⟩⟩
/-- An own row of slices, read as rows, with its room. -/
theorem rdr_ownC {w : World} {base : Nat} {e : TypeId} {v : Value} {n : Nat} {xs : List Value} {rs : List (List UInt8)} (h : w.ownsRow base e 1 v n xs) (hl : rs.length ≤ 140737488355328) (hx : RowsV w w.heap.size xs rs) :
    ∃ A cap, v = .slice A rs.length cap ∧ rs.length ≤ cap ∧ RdR w w.heap.size A rs := by
  obtain ⟨A, cap, hv, hr⟩ := rdr_own h (Nat.le_refl _) hl hx
  refine ⟨A, cap, hv, ?_, hr⟩
  have hn : n = rs.length := by have := h.1; have := hx.1; omega
  rcases h.2 with ⟨h1, h0⟩ | ⟨g, cap', cur, h1, _, _, h3, _⟩
  · rw [hv] at h1; injection h1 with _ _ h1; omega
  · rw [hv] at h1; injection h1 with _ _ h1; omega
/-- A block of bytes that a literal made. -/
theorem rdb_lit {w : World} {g : Nat} {cs : Array Value} {t : TypeId} {f : Nat × Nat} {bs : List UInt8} (hg : w.heap[g]? = some (.cells cs t f)) (hl : bs.length ≤ 140737488355328) (hcs : cs.toList = bs.map bv) : RdB w w.heap.size (some ⟨g, 0, none⟩) bs :=
  rdb_block hg (Array.getElem?_eq_some_iff.1 hg).1 hl fun k hk => by
    rw [← Array.getElem?_toList, hcs, List.getElem?_map, List.getElem?_eq_getElem hk, List.getD_eq_getElem?_getD, List.getElem?_eq_getElem hk]
    rfl
theorem hp_get (w : World) (o : Obj) (g : Nat) : (w.alloc o).heap[g]? = if g = w.heap.size then some o else w.heap[g]? := by
  split
  · next h => exact hp_new w o g h
  · next h =>
    by_cases h2 : g < w.heap.size
    · exact hp_old w o g h2
    · rw [Array.getElem?_eq_none (by simp; omega), Array.getElem?_eq_none (by omega)]
end Go.Proofs.YtiipdhmfdgbmiaaDoor
end
section
namespace Go.Proofs.YtiipdhmfdgbmiaaDoor
open Go.ChangeShapes Go.WideShapes Go.ChangeAt Go.RowKit Go.Deep

section
variable {H : Type} {enc : TypeId × Value → H} {P : Program}
theorem addr_of {W : World} {x : Addr} {u : Value} (h : W.cell? (x.add 0) = some u) : ∃ b off, x = ⟨b, off, none⟩ ∧ b < W.heap.size := by
  obtain ⟨b, off, spot⟩ := x
  have hspot : spot = none := by simpa [Addr.add] using World.cell?_spot h
  subst hspot
  have := World.block_lt_of_cell? _ _ h
  exact ⟨b, off, rfl, by simpa [Addr.add] using this⟩
theorem addr_add (b off k : Nat) : ((⟨b, off, none⟩ : Addr).add k) = ⟨b, off + k, none⟩ := by unfold Addr.add; by_cases hk0 : k = 0 <;> simp [hk0]
/-- A slice of bools that came in. -/
theorem open_rdo {t e : TypeId} (ht : P.underlying t = some (.slice e)) (he : P.underlying e = some .bool) (hc : P.cellsOf e = 1) {r : Reach} {W : World} {base : Nat} {v : Value} {d : DataW H} {p : List MemPlace}
    (hv : Value.okWide P W r base t v) (h : DataW.Trod enc P W 0 (fun _ => true) true t v d p) : ∃ A ks cap, v = .slice A ks.length cap ∧ ks.length ≤ cap ∧ RdO W W.heap.size A ks := by
  obtain ⟨A, len, cap, rfl⟩ := okWide_slice ht hv
  obtain ⟨fuel, hf⟩ := h
  rcases open_bools ht he hc hf with ⟨hcs, _⟩ | ⟨x, l, c, B, hcs, _, hl, hm, _, hcell⟩
  · simp [Value.cells] at hcs
    obtain ⟨rfl, rfl, rfl⟩ := hcs
    exact ⟨none, [], 0, rfl, Nat.le_refl _, RdO.nil _ _ _⟩
  · simp [Value.cells] at hcs
    obtain ⟨rfl, rfl, rfl⟩ := hcs
    have hL : ((List.range len).map B).length = len := by simp
    refine ⟨some x, (List.range len).map B, cap, by rw [hL], by rw [hL]; exact hl, by rw [hL]; unfold maxLen at hm; omega, fun hn => ?_⟩
    rw [hL] at hn
    obtain ⟨b, off, rfl, hb⟩ := addr_of (hcell 0 (by omega))
    refine ⟨b, off, rfl, hb, fun k hk => ?_⟩
    rw [hL] at hk
    have := hcell k (by omega)
    rw [addr_add] at this
    rw [this]
    simp [hk]
/-- A slice of whole numbers that came in. -/
theorem open_rdz {t e : TypeId} (ht : P.underlying t = some (.slice e)) (he : P.underlying e = some (.int .i64)) (hc : P.cellsOf e = 1) {r : Reach} {W : World} {base : Nat} {v : Value} {d : DataW H} {p : List MemPlace}
    (hv : Value.okWide P W r base t v) (h : DataW.Trod enc P W 0 (fun _ => true) true t v d p) : ∃ A zs cap, v = .slice A zs.length cap ∧ zs.length ≤ cap ∧ RdZ W W.heap.size A zs := by
  obtain ⟨A, len, cap, rfl⟩ := okWide_slice ht hv
  obtain ⟨fuel, hf⟩ := h
  rcases open_ints ht he hc hf with ⟨hcs, _⟩ | ⟨x, l, c, zs, hcs, _, hl, hm, hz, hd, hcell, hwz⟩
  · simp [Value.cells] at hcs
    obtain ⟨rfl, rfl, rfl⟩ := hcs
    exact ⟨none, [], 0, rfl, Nat.le_refl _, RdZ.nil _ _ _⟩
  · simp [Value.cells] at hcs
    obtain ⟨rfl, rfl, rfl⟩ := hcs
    simp only [if_true] at hz
    have hL : (zs.take len).length = len := by rw [List.length_take]; omega
    refine ⟨some x, zs.take len, cap, by rw [hL], by rw [hL]; exact hl, by rw [hL]; unfold maxLen at hm; omega, fun z hz => bounds_i64 (hwz z (List.mem_of_mem_take hz)), fun hn => ?_⟩
    rw [hL] at hn
    obtain ⟨b, off, rfl, hb⟩ := addr_of (hcell 0 (by omega))
    refine ⟨b, off, rfl, hb, fun k hk => ?_⟩
    rw [hL] at hk
    have := hcell k (by omega)
    rw [addr_add] at this
    rw [this]
    simp [hk]
end
end Go.Proofs.YtiipdhmfdgbmiaaDoor
end
