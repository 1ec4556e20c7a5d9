/- Texts put together: Rows2, OwnZ, OwnFull. -/
import Derived.Test.YtkbhnbkjpnigkaaDoorLcaa
import Derived.Deep.Matrix
import Derived.Lib.AppendZerosOnto
section
namespace Go.Proofs.YtkbhnbkjpnigkaaDoor
open Go.ChangeShapes Go.WideShapes Go.ChangeAt Go.RowKit

/-- As RdR; and no row is longer than its room. -/
def RdC (w : World) (B : Nat) (A : Option Addr) (rs : List (List UInt8)) : Prop :=
  rs.length ≤ 140737488355328 ∧ (0 < rs.length → ∃ b off, A = some ⟨b, off, none⟩ ∧ b < B ∧ ∀ k, k < rs.length → ∃ A' c, w.cell? ⟨b, off + k, none⟩ = some (.slice A' (rs.getD k []).length c) ∧ (rs.getD k []).length ≤ c ∧ RdB w B A' (rs.getD k []))
theorem RdC.rdr {w : World} {B : Nat} {A : Option Addr} {rs : List (List UInt8)} (h : RdC w B A rs) : RdR w B A rs :=
  ⟨h.1, fun h0 => by
    obtain ⟨b, off, e, hb, hc⟩ := h.2 h0
    refine ⟨b, off, e, hb, fun k hk => ?_⟩
    obtain ⟨A', c, h1, _, h2⟩ := hc k hk
    exact ⟨A', c, h1, h2⟩⟩
theorem RdC.keep {w w' : World} {B B' : Nat} {A : Option Addr} {rs : List (List UInt8)} (h : RdC w B A rs) (hB : B ≤ B') (hk : ∀ p : Addr, p.block < B → w'.cell? p = w.cell? p) : RdC w' B' A rs :=
  ⟨h.1, fun hn => by
    obtain ⟨b, off, e, hb, hc⟩ := h.2 hn
    refine ⟨b, off, e, by omega, fun k hk' => ?_⟩
    obtain ⟨A', c, h1, h2, h3⟩ := hc k hk'
    exact ⟨A', c, (hk ⟨b, off + k, none⟩ hb).trans h1, h2, h3.keep hB hk⟩⟩
theorem RdC.below {w w' : World} {B B' : Nat} {A : Option Addr} {rs : List (List UInt8)} (h : RdC w B A rs) (hb : Below B' w w') (hB : B ≤ B') : RdC w' B A rs := h.keep (Nat.le_refl _) fun p hp => hb.cell (by omega)
theorem RdC.more {w : World} {B B' : Nat} {A : Option Addr} {rs : List (List UInt8)} (h : RdC w B A rs) (hB : B ≤ B') : RdC w B' A rs := h.keep hB fun _ _ => rfl
/-- A slice of slices cut: s[:k], s[k:]. -/
theorem RdR.take {w : World} {B : Nat} {A : Option Addr} {rs : List (List UInt8)} (h : RdR w B A rs) (k : Nat) : RdR w B A (rs.take k) :=
  ⟨by have := h.1; simp; omega, fun hn => by
    have hn' : 0 < rs.length := by simp at hn; omega
    obtain ⟨b, off, e, hb, hc⟩ := h.2 hn'
    refine ⟨b, off, e, hb, fun j hj => ?_⟩
    have hj' : j < k ∧ j < rs.length := by simp at hj; omega
    have e : (rs.take k).getD j [] = rs.getD j [] := by simp [hj'.1]
    rw [e]
    exact hc j hj'.2⟩
theorem RdR.drop {w : World} {B : Nat} {A : Option Addr} {rs : List (List UInt8)} (h : RdR w B A rs) (k cap : Nat) (hc : rs.length ≤ cap) : RdR w B (if cap = k then A else A.map (·.add k)) (rs.drop k) :=
  ⟨by have := h.1; simp; omega, fun hn => by
    have hn' : k < rs.length := by simp at hn; omega
    obtain ⟨b, off, rfl, hb, hc⟩ := h.2 (by omega)
    rw [if_neg (by omega)]
    refine ⟨b, off + k, ?_, hb, fun j hj => ?_⟩
    · unfold Addr.add; by_cases hk0 : k = 0 <;> simp [hk0]
    · have hj' : k + j < rs.length := by simp at hj; omega
      have e : (rs.drop k).getD j [] = rs.getD (k + j) [] := by simp
      rw [Nat.add_assoc, e]
      exact hc (k + j) hj'⟩

section
variable {H : Type} {enc : TypeId × Value → H} {P : Program}
theorem weightsAll_mem {e : TypeId} {d : DataW H} {n : Nat} : ∀ {ds : List (DataW H)}, d ∈ ds → n ∈ d.weights P e → n ∈ DataW.weightsAll P e ds
  | _ :: _, .head _, h => by unfold DataW.weightsAll; exact List.mem_append_left _ h
  | _ :: _, .tail _ h', h => by unfold DataW.weightsAll; exact List.mem_append_right _ (weightsAll_mem h' h)
/-- A slice of slices of bytes that came in. -/
theorem open_rows {t e q : TypeId} (ht : P.underlying t = some (.slice e)) (he : P.underlying e = some (.slice q)) (hq : P.underlying q = some (.int .u8)) (ce : P.cellsOf e = 1) (cq : P.cellsOf q = 1) (be : P.bytesOf e = 24) (bq : P.bytesOf q = 1)
    {r : Reach} {W : World} {base : Nat} {v : Value} {d : DataW H} {p : List MemPlace}
    (hv : Value.okWide P W r base t v) (h : DataW.Trod enc P W 0 (fun _ => true) true t v d p) (hs : ∀ n ∈ d.weights P t, n ≤ reachBytes) :
    ∃ A rs cap, v = .slice A rs.length cap ∧ rs.length ≤ cap ∧ RdC W W.heap.size A rs := by
  obtain ⟨A, len, cap, rfl⟩ := okWide_slice ht hv
  obtain ⟨fuel, hf⟩ := h
  rcases Deep.open_int_rows ht he hq ce cq hf with ⟨hcs, _⟩ | ⟨a, l, c, As, L, C, Z, hcs, _, hl, hm, hd, hall⟩
  · simp [Value.cells] at hcs
    obtain ⟨rfl, rfl, rfl⟩ := hcs
    exact ⟨none, [], 0, rfl, Nat.le_refl _, by simp, fun h => by simp at h⟩
  · simp [Value.cells] at hcs
    obtain ⟨rfl, rfl, rfl⟩ := hcs
    injection hd with hd1 hd2
    have hcap : cap ≤ 140737488355328 := by
      have := hs ((len + (cap - len)) * 24) (by rw [hd1]; simp [DataW.weights, ht, be])
      simp [reachBytes] at this
      omega
    have hrow : ∀ r, r < len → C r ≤ 140737488355328 := fun r hr => by
      obtain ⟨_, h2, h3, h4, _, h6, _⟩ := hall r (by omega)
      cases hA : As r with
      | none => have := h6 hA; omega
      | some a' =>
        have hw : C r * 1 ∈ (Deep.intRow (H := H) .u8 (As r) (L r) (Z r)).weights P e := by
          rw [hA]
          simp [Deep.intRow, DataW.weights, he, lits, bq, h4]
          omega
        have := hs _ (by rw [hd1]; unfold DataW.weights; simp only [ht]; exact List.mem_cons_of_mem _ (List.mem_append_left _ (weightsAll_mem (List.mem_map.2 ⟨r, List.mem_range.2 hr, rfl⟩) hw)))
        simp [reachBytes] at this
        omega
    have hcellA : ∀ r a', r < len → As r = some a' → 0 < C r → ∃ b off, a' = ⟨b, off, none⟩ ∧ b < W.heap.size := fun r a' hr hA hp => by
      obtain ⟨_, _, _, _, _, _, h7⟩ := hall r (by omega)
      have hc0 := (h7 a' hA).2 0 hp
      obtain ⟨b, off, spot⟩ := a'
      have hspot : spot = none := by simpa [Addr.add] using World.cell?_spot hc0
      subst hspot
      exact ⟨b, off, rfl, by have := World.block_lt_of_cell? _ _ hc0; simpa [Addr.add] using this⟩
    have hZ : ∀ r, r < len → ((Z r).take (L r)).length = L r := fun r hr => by
      obtain ⟨_, h2, _, h4, _⟩ := hall r (by omega)
      rw [List.length_take, h4]; omega
    have hget : ∀ r, r < len → ((List.range len).map fun r => ((Z r).take (L r)).map fun z => UInt8.ofNat z.toNat).getD r [] = ((Z r).take (L r)).map fun z => UInt8.ofNat z.toNat := fun r hr => by
      simp [hr]
    refine ⟨some a, (List.range len).map fun r => ((Z r).take (L r)).map fun z => UInt8.ofNat z.toNat, cap, by simp, by simpa using hl, by simp; omega, fun h0 => ?_⟩
    have h0' : 0 < len := by simpa using h0
    have hc0 := (hall 0 (by omega)).1
    obtain ⟨b, off, spot⟩ := a
    have hspot : spot = none := by simpa [Addr.add] using World.cell?_spot hc0
    subst hspot
    refine ⟨b, off, rfl, by have := World.block_lt_of_cell? _ _ hc0; simpa [Addr.add] using this, fun k hk => ?_⟩
    have hk' : k < len := by simpa using hk
    obtain ⟨h1, h2, h3, h4, h5, h6, h7⟩ := hall k (by omega)
    have e1 : ((⟨b, off, none⟩ : Addr).add k) = ⟨b, off + k, none⟩ := by unfold Addr.add; by_cases hk0 : k = 0 <;> simp [hk0]
    rw [e1] at h1
    rw [hget k hk', List.length_map, hZ k hk']
    refine ⟨As k, C k, h1, h2, ?_, fun hn => ?_⟩
    · rw [List.length_map, hZ k hk']; have := hrow k hk'; omega
    · rw [List.length_map, hZ k hk'] at hn
      cases hA : As k with
      | none => have := h6 hA; omega
      | some a' =>
        obtain ⟨b2, off2, rfl, hb2⟩ := hcellA k a' hk' hA (by omega)
        refine ⟨b2, off2, rfl, hb2, fun j hj => ?_⟩
        rw [List.length_map, hZ k hk'] at hj
        have hcj := (h7 _ hA).2 j (by omega)
        have e2 : ((⟨b2, off2, none⟩ : Addr).add j) = ⟨b2, off2 + j, none⟩ := by unfold Addr.add; by_cases hk0 : j = 0 <;> simp [hk0]
        rw [e2] at hcj
        rw [hcj]
        have hmem : (Z k).getD j 0 ∈ Z k := by simp [show j < (Z k).length by omega]
        have hw := bounds_u8 (h5 _ hmem)
        have e4 : (Z k)[j]? = some ((Z k).getD j 0) := by rw [List.getD_eq_getElem?_getD, List.getElem?_eq_getElem (by omega)]; rfl
        have e3 : (((Z k).take (L k)).map fun z => UInt8.ofNat z.toNat).getD j 0 = UInt8.ofNat ((Z k).getD j 0).toNat := by
          rw [List.getD_eq_getElem?_getD, List.getElem?_map, List.getElem?_take, if_pos hj, e4]
          rfl
        rw [e3, UInt8.toNat_ofNat', Nat.mod_eq_of_lt (by omega)]
        congr 2
        omega
end

/-- Values that read as rows, none of them in block ob. -/
def RowsX (w : World) (B : Nat) (ob : Option Nat) (xs : List Value) (rs : List (List UInt8)) : Prop :=
  xs.length = rs.length ∧ ∀ k, k < rs.length → ∃ A c, xs[k]? = some (.slice A (rs.getD k []).length c) ∧ RdB w B A (rs.getD k []) ∧ (0 < (rs.getD k []).length → ∀ a, A = some a → some a.block ≠ ob)
theorem RowsX.nil (w : World) (B : Nat) (ob : Option Nat) : RowsX w B ob [] [] := ⟨rfl, fun k hk => by simp at hk⟩
theorem RowsX.rowsV {w : World} {B : Nat} {ob : Option Nat} {xs : List Value} {rs : List (List UInt8)} (h : RowsX w B ob xs rs) : RowsV w B xs rs :=
  ⟨h.1, fun k hk => by
    obtain ⟨A, c, h1, h2, _⟩ := h.2 k hk
    exact ⟨A, c, h1, h2⟩⟩
theorem RowsX.below {w w' : World} {ob : Option Nat} {xs : List Value} {rs : List (List UInt8)} (h : RowsX w w.heap.size ob xs rs) (hb : Below w.heap.size w w') : RowsX w' w'.heap.size ob xs rs :=
  ⟨h.1, fun k hk => by
    obtain ⟨A, c, h1, h2, h3⟩ := h.2 k hk
    exact ⟨A, c, h1, (h2.below hb (Nat.le_refl _)).more hb.size, h3⟩⟩
theorem RowsX.grown {w w' : World} {ob ob' : Option Nat} {xs : List Value} {rs : List (List UInt8)} (h : RowsX w w.heap.size ob xs rs) (hg : w.grownBy w' ob) (ho : ob' = ob ∨ ob' = some w.heap.size) : RowsX w' w'.heap.size ob' xs rs :=
  ⟨h.1, fun k hk => by
    obtain ⟨A, c, h1, h2, h3⟩ := h.2 k hk
    refine ⟨A, c, h1, ⟨h2.1, fun h0 => ?_⟩, fun h0 a ha => ?_⟩
    · obtain ⟨b, off, e, hb, hc⟩ := h2.2 h0
      have hne := h3 h0 _ e
      refine ⟨b, off, e, by have := hg.size; omega, fun j hj => ?_⟩
      rw [← hc j hj]
      exact World.cell?_of_block (w := w) (hg.block b hb hne)
    · rcases ho with rfl | rfl
      · exact h3 h0 a ha
      · obtain ⟨b, off, e, hb, hc⟩ := h2.2 h0
        rw [ha] at e
        injection e with e
        subst e
        intro e
        injection e with e
        simp at e
        omega⟩
theorem RowsX.snoc {w : World} {B : Nat} {ob : Option Nat} {xs : List Value} {rs : List (List UInt8)} (h : RowsX w B ob xs rs) {A : Option Addr} {c : Nat} {bs : List UInt8} (hr : RdB w B A bs) (hne : 0 < bs.length → ∀ a, A = some a → some a.block ≠ ob) : RowsX w B ob (xs ++ [.slice A bs.length c]) (rs ++ [bs]) :=
  ⟨by simp [h.1], fun k hk => by
    by_cases hk2 : k < rs.length
    · obtain ⟨A', c', h1, h2, h3⟩ := h.2 k hk2
      have e : (rs ++ [bs]).getD k [] = rs.getD k [] := by simp [List.getElem?_append_left hk2]
      rw [e]
      exact ⟨A', c', by rw [List.getElem?_append_left (by rw [h.1]; exact hk2)]; exact h1, h2, h3⟩
    · have hk3 : k = rs.length := by simp at hk; omega
      subst hk3
      have e : (rs ++ [bs]).getD rs.length [] = bs := by simp
      rw [e]
      exact ⟨A, c, by rw [← h.1]; simp, hr, hne⟩⟩
/-- An own row of slices, read as rows, with its room. -/
theorem rdr_ownC {w : World} {base : Nat} {e : TypeId} {v : Value} {n : Nat} {xs : List Value} {rs : List (List UInt8)} (h : w.ownsRow base e 1 v n xs) (hl : rs.length ≤ 140737488355328) (hx : RowsV w w.heap.size xs rs) :
    ∃ A cap, v = .slice A rs.length cap ∧ rs.length ≤ cap ∧ RdR w w.heap.size A rs := by
  obtain ⟨A, cap, hv, hr⟩ := rdr_own h (Nat.le_refl _) hl hx
  refine ⟨A, cap, hv, ?_, hr⟩
  have hn : n = rs.length := by have := h.1; have := hx.1; omega
  rcases h.2 with ⟨h1, h0⟩ | ⟨g, cap', cur, h1, _, _, h3, _⟩
  · rw [hv] at h1; injection h1 with _ _ h1; omega
  · rw [hv] at h1; injection h1 with _ _ h1; omega
/-- A block of bytes that a literal made. -/
theorem rdb_lit {w : World} {g : Nat} {cs : Array Value} {t : TypeId} {f : Nat × Nat} {bs : List UInt8} (hg : w.heap[g]? = some (.cells cs t f)) (hl : bs.length ≤ 140737488355328) (hcs : cs.toList = bs.map bv) : RdB w w.heap.size (some ⟨g, 0, none⟩) bs :=
  rdb_block hg (Array.getElem?_eq_some_iff.1 hg).1 hl fun k hk => by
    rw [← Array.getElem?_toList, hcs, List.getElem?_map, List.getElem?_eq_getElem hk, List.getD_eq_getElem?_getD, List.getElem?_eq_getElem hk]
    rfl
theorem hp_get (w : World) (o : Obj) (g : Nat) : (w.alloc o).heap[g]? = if g = w.heap.size then some o else w.heap[g]? := by
  split
  · next h => exact hp_new w o g h
  · next h =>
    by_cases h2 : g < w.heap.size
    · exact hp_old w o g h2
    · rw [Array.getElem?_eq_none (by simp; omega), Array.getElem?_eq_none (by omega)]
end Go.Proofs.YtkbhnbkjpnigkaaDoor
end
section
namespace Go.Proofs.YtkbhnbkjpnigkaaDoor
open Go.RowKit

theorem zeroCells_u8 (n : Nat) : (Builtin.zeroCells (Value.int .u8 0).cells n).toList = List.replicate n (.int .u8 0) := by
  rw [← toList_madeCells_one]
  rw [show Builtin.zeroCells (Value.int .u8 0).cells n = madeCells #[.int .u8 0] (n * 1) from rfl, Nat.mul_one]
theorem zeroCells_size (n : Nat) : (Builtin.zeroCells (Value.int .u8 0).cells n).size = n := by
  rw [← Array.length_toList, zeroCells_u8, List.length_replicate]
section
variable {P : Program} (w : World)
theorem run_append_Z (base : Nat) (t tn ty e : TypeId) (kn : IntKind) (ht : P.underlying t = some (.slice e)) (htn : P.underlying tn = some (.int kn)) (hinfo : (P.info? e).map (fun i => (i.zero, i.size, i.bytes)) = some (some (.int .u8 0), 1, 1))
    (v : Value) (xs : List UInt8) (hown : OwB e w base v xs) (kq : IntKind) (n : Nat) (h0 : 0 < n) (hn : xs.length + n ≤ 1048576) (hbase : base ≤ w.heap.size) :
    ∃ v' w', (Builtin.append_ #[t, tn] ty #[v, .int kq (n : Int)]).run P w = .ok v' w' ∧ OwB e w' base v' (xs ++ List.replicate n 0) ∧ w.grownBy w' v.ownBlock ∧ (v'.ownBlock = v.ownBlock ∨ v'.ownBlock = some w.heap.size) := by
  obtain ⟨i, hi, hzz⟩ := Option.map_eq_some_iff.1 hinfo
  simp only [Prod.mk.injEq] at hzz
  obtain ⟨hz, hs, hb⟩ := hzz
  have hmap : (xs ++ List.replicate n (0 : UInt8)).map bv = xs.map bv ++ List.replicate n (.int .u8 0) := by simp [bv]
  have hlen : (xs ++ List.replicate n (0 : UInt8)).length = xs.length + n := by simp
  have grown : ∀ (old : Nat), old < xs.length + n → ∀ (row : Option Nat),
      OwB e (w.drew.alloc (.cells ((xs.map bv).toArray ++ Builtin.zeroCells (Value.int .u8 0).cells n ++ Builtin.zeroCells (Value.int .u8 0).cells (grownCap w (xs.length + n) old e - (xs.length + n))) e)) base
        (.slice (some ⟨w.heap.size, 0, none⟩) (xs.length + n) (grownCap w (xs.length + n) old e)) (xs ++ List.replicate n 0) ∧
      w.grownBy (w.drew.alloc (.cells ((xs.map bv).toArray ++ Builtin.zeroCells (Value.int .u8 0).cells n ++ Builtin.zeroCells (Value.int .u8 0).cells (grownCap w (xs.length + n) old e - (xs.length + n))) e)) row := by
    intro old ho row
    have hge := grownCap_ge w (xs.length + n) old e
    have hcm : grownCap w (xs.length + n) old e ≤ maxLen := grownCap_le_maxLen w (xs.length + n) old e (by unfold maxLen; omega)
    refine ⟨⟨⟨by simp, .inr ⟨w.heap.size, _, _, by rw [hlen], hbase, heap_alloc_new w.drew _, by rw [hlen]; exact hge, hcm, ?_, ?_⟩⟩, by rw [hlen]; omega⟩, ⟨rfl, rfl, rfl, by simp, fun k hk _ => heap_alloc_old w.drew _ hk⟩⟩
    · simp only [Array.size_append, List.size_toArray, zeroCells_size, List.length_map]
      omega
    · simp only [Array.toList_append, hmap, zeroCells_u8]
      rw [List.take_append_of_le_length (by simp), List.take_of_length_le (by simp)]
  rcases hown.1.2 with ⟨rfl, hx0⟩ | ⟨g, cap, cur, rfl, hbg, hg, hnc, hcm, hcs, htake⟩
  · obtain rfl : xs = [] := List.eq_nil_of_length_eq_zero hx0
    have hr := Lib.run_append_nil_zeros (P := P) w t tn ty e i _ kq kn ht htn hi hz n h0 (by omega) (by simp at hn; omega) (by rw [hb]; simp at hn; omega)
    have hgr := grown 0 (by simp; omega) (Value.ownBlock (.slice none 0 0))
    simp only [List.length_nil, Nat.zero_add, List.map_nil, List.nil_append, Array.empty_append] at hgr ⊢
    exact ⟨_, _, hr, hgr.1, hgr.2, .inr rfl⟩
  · by_cases hroom : xs.length + n ≤ cap
    · have hst := run_storeCells_at P g xs.length e (List.replicate n (.int .u8 0)) 0 cur w hg (by simp; omega) (fun u hu => by rw [List.eq_of_mem_replicate hu]; rfl)
      have hw : IntKind.i64.wrap (n : Int) = n := by rw [IntKind.wrap_i64]; omega
      have hneg : ¬ ((n : Int) < 0) := by omega
      have h48 : ¬ (281474976710656 < (n : Int)) := by omega
      have hn0 : n ≠ 0 := by omega
      have hadd : (⟨g, 0, none⟩ : Addr).add xs.length = ⟨g, xs.length, none⟩ := by unfold Addr.add; by_cases hx : xs.length = 0 <;> simp [hx]
      have hr : (Builtin.append_ #[t, tn] ty #[.slice (some ⟨g, 0, none⟩) xs.length cap, .int kq (n : Int)]).run P w = .ok (.slice (some ⟨g, 0, none⟩) (xs.length + n) cap) (w.setRow g (cur.toList.take xs.length ++ List.replicate n (Value.int .u8 0) ++ cur.toList.drop (xs.length + n)).toArray) := by
        simp only [List.length_replicate, Nat.add_zero] at hst
        simp [Builtin.append_, run_underlying ht, run_underlying htn, sizeOf, typeInfo, zeroValue, hi, hz, hs, hb, asInt, asIntOf, hw, hneg, h48, hn0, hroom, hadd, zeroCells_u8, hst]
      refine ⟨_, _, hr, ⟨⟨by simp, .inr ⟨g, cap, _, by rw [hlen], hbg, setRow_heap w g cur _ e _ hg, by rw [hlen]; exact hroom, hcm, ?_, ?_⟩⟩, by rw [hlen]; omega⟩, ⟨rfl, rfl, rfl, by simp, fun k _ hk => setRow_other w g k _ (fun e => hk (by simp [Value.ownBlock, e]))⟩, .inl rfl⟩
      · simp only [List.size_toArray, List.length_append, List.length_take, List.length_drop, Array.length_toList, List.length_replicate]
        omega
      · rw [Nat.mul_one] at htake
        rw [htake, hmap, List.toList_toArray, List.take_append_of_le_length (by simp), List.take_of_length_le (by simp)]
    · have holds : ∀ j u, (xs.map bv)[j]? = some u → w.cell? ((⟨g, 0, none⟩ : Addr).add j) = some u := hown.1.cells (g := g) rfl
      have hload : (Builtin.firstCells i.size xs.length (.slice (some ⟨g, 0, none⟩) xs.length cap)).run P w.drew = .ok (xs.map bv).toArray w.drew := by
        have := run_loadCells_list (P := P) w.drew ⟨g, 0, none⟩ (xs.map bv) holds
        simpa [Builtin.firstCells, hs] using this
      have hns := nextslicecap_le (need := xs.length + n) (old := cap) (by omega)
      have hr := Lib.run_append_grow_zeros (P := P) w t tn ty e i _ kq kn ht htn hi hz (some ⟨g, 0, none⟩) xs.length cap (xs.map bv) hload n h0 (by omega) (by omega) (by omega) (by rw [hb]; omega) (by rw [hb]; omega)
      have hgr := grown cap (by omega) (Value.ownBlock (.slice (some ⟨g, 0, none⟩) xs.length cap))
      exact ⟨_, _, hr, hgr.1, hgr.2, .inr rfl⟩
theorem wpList_append_Z {ops : Array Oper} {rest : List Oper} {o : Oper} {a : Act} {Q : Exit → Act → World → Prop} (hw : Region.wanted o (yielded ops a.tmps) = true) (s x : Operand) (t tn : TypeId)
    (ho : o.op = .call { callee := .builtin .append, args := #[s, x], argTypes := #[t, tn] }) (base : Nat) (e : TypeId) (kn : IntKind) (ht : P.underlying t = some (.slice e)) (htn : P.underlying tn = some (.int kn)) (hinfo : (P.info? e).map (fun i => (i.zero, i.size, i.bytes)) = some (some (.int .u8 0), 1, 1))
    (v : Value) (xs : List UInt8) (hs : a.eval s = v) (hown : OwB e w base v xs) (kq : IntKind) (n : Nat) (hx : a.eval x = .int kq (n : Int)) (h0 : 0 < n) (hn : xs.length + n ≤ 1048576) (hbase : base ≤ w.heap.size)
    (h : ∀ v' w', OwB e w' base v' (xs ++ List.replicate n 0) → w.grownBy w' v.ownBlock → (v'.ownBlock = v.ownBlock ∨ v'.ownBlock = some w.heap.size) → wpList P ops Q rest (a.put o.dst v') w') : wpList P ops Q (o :: rest) a w := by
  refine BigFrame.wpList_want hw fun K hK => ?_
  obtain ⟨v', w', hrun, h2, h3, h4⟩ := run_append_Z (P := P) w base t tn o.type e kn ht htn hinfo v xs hown kq n h0 hn hbase
  unfold Oper.wp execOp
  simp only [ho, resolve, invoke, builtin, Sem.run_bind, Sem.run_pure, Result.andThen_ok, List.map_toArray, List.map_cons, List.map_nil, hs, hx, hrun]
  exact hK _ _ (h v' w' h2 h3 h4)
theorem step_append_Z {ops : Array Oper} {o : Oper} {a : Act} {K : Act → World → Prop} {Q : Exit → Act → World → Prop} {E : Prop} (hgd : o.guard = none) (s x : Operand) (t tn : TypeId)
    (ho : o.op = .call { callee := .builtin .append, args := #[s, x], argTypes := #[t, tn] }) (base : Nat) (e : TypeId) (kn : IntKind) (ht : P.underlying t = some (.slice e)) (htn : P.underlying tn = some (.int kn)) (hinfo : (P.info? e).map (fun i => (i.zero, i.size, i.bytes)) = some (some (.int .u8 0), 1, 1))
    (v : Value) (xs : List UInt8) (hs : a.eval s = v) (hown : OwB e w base v xs) (kq : IntKind) (n : Nat) (hx : a.eval x = .int kq (n : Int)) (h0 : 0 < n) (hn : xs.length + n ≤ 1048576) (hbase : base ≤ w.heap.size)
    (h : ∀ v' w', OwB e w' base v' (xs ++ List.replicate n 0) → w.grownBy w' v.ownBlock → (v'.ownBlock = v.ownBlock ∨ v'.ownBlock = some w.heap.size) → K (a.put o.dst v') w') :
    if Region.wanted o (yielded ops a.tmps) = true then Oper.wp P o a w K Q else E := by
  have hw : Region.wanted o (yielded ops a.tmps) = true := by simp [Region.wanted, hgd]
  rw [if_pos hw]
  obtain ⟨v', w', hrun, h2, h3, h4⟩ := run_append_Z (P := P) w base t tn o.type e kn ht htn hinfo v xs hown kq n h0 hn hbase
  unfold Oper.wp execOp
  simp only [ho, resolve, invoke, builtin, Sem.run_bind, Sem.run_pure, Result.andThen_ok, List.map_toArray, List.map_cons, List.map_nil, hs, hx, hrun]
  exact h v' w' h2 h3 h4
end
end Go.Proofs.YtkbhnbkjpnigkaaDoor
end
section
set_option linter.unusedVariables false
set_option linter.unusedSimpArgs false
namespace Go.Proofs.YtkbhnbkjpnigkaaDoor
open Go.RowKit

theorem rdb_cells {w : World} {B : Nat} {ad : Addr} {bs : List UInt8} (hr : RdB w B (some ad) bs) : ∀ j u, (bs.map bv)[j]? = some u → w.cell? (ad.add j) = some u := by
  intro j u hu
  simp only [List.getElem?_map, Option.map_eq_some_iff] at hu
  obtain ⟨b, hb1, rfl⟩ := hu
  obtain ⟨hj, rfl⟩ := List.getElem?_eq_some_iff.1 hb1
  obtain ⟨b2, off, h, _, hc⟩ := hr.2 (by omega)
  injection h with h
  subst h
  have e1 : ((⟨b2, off, none⟩ : Addr).add j) = ⟨b2, off + j, none⟩ := by unfold Addr.add; by_cases hk0 : j = 0 <;> simp [hk0]
  rw [e1, hc j hj]
  simp [bv, hj]
section
variable {P : Program} (w : World)
theorem run_append_F (t ty e : TypeId) (ht : P.underlying t = some (.slice e)) (hinfo : (P.info? e).map (fun i => (i.zero, i.size, i.bytes)) = some (some (.int .u8 0), 1, 1))
    (A0 : Option Addr) (n B0 : Nat) (xs : List UInt8) (hx : xs.length = n) (h0 : 0 < n) (hr0 : RdB w B0 A0 xs) (A : Option Addr) (m c B : Nat) (bs : List UInt8) (hm : m = bs.length) (hm0 : 0 < bs.length) (hr : RdB w B A bs) (hn : n + bs.length ≤ 1048576) :
    ∃ v' w', (Builtin.append_ #[t, t] ty #[.slice A0 n n, .slice A m c]).run P w = .ok v' w' ∧ OwB e w' w.heap.size v' (xs ++ bs) ∧ Below w.heap.size w w' := by
  subst hx hm
  obtain ⟨i, hi, hzz⟩ := Option.map_eq_some_iff.1 hinfo
  simp only [Prod.mk.injEq] at hzz
  obtain ⟨hz, hs, hb⟩ := hzz
  obtain ⟨b0, o0, rfl, _, _⟩ := hr0.2 h0
  obtain ⟨b1, o1, rfl, _, _⟩ := hr.2 hm0
  have hr2 := run_append_grow (P := P) w t ty e i _ ht hi hz ⟨b0, o0, none⟩ xs.length xs.length (xs.map bv) (by rw [hs]; simp) (rdb_cells hr0) ⟨b1, o1, none⟩ bs.length c (bs.map bv) (by rw [hs]; simp) (rdb_cells hr) (by omega) (by omega) (by
    have := growslice_fits (old := xs.length) (need := xs.length + bs.length) (bytes := i.bytes) (by omega) (by rw [hb]; omega)
    exact this)
  have hge := grownCap_ge w (xs.length + bs.length) xs.length e
  have hcm : grownCap w (xs.length + bs.length) xs.length e ≤ maxLen := grownCap_le_maxLen w (xs.length + bs.length) xs.length e (by unfold maxLen; omega)
  refine ⟨_, _, hr2, ⟨⟨by simp, .inr ⟨w.heap.size, _, _, by rw [List.length_append], Nat.le_refl _, heap_alloc_new w.drew _, by rw [List.length_append]; exact hge, hcm, ?_, ?_⟩⟩, by simp; omega⟩, ((Below.refl w.heap.size w).drew.trans (below1 w.drew _))⟩
  · simp only [Array.size_append, List.size_toArray, zeroCells_size, List.length_map]
    omega
  · simp only [Array.toList_append, List.map_append]
    rw [List.take_append_of_le_length (by simp), List.take_of_length_le (by simp)]
theorem wpList_append_F {ops : Array Oper} {rest : List Oper} {o : Oper} {a : Act} {Q : Exit → Act → World → Prop} (hw : Region.wanted o (yielded ops a.tmps) = true) (s x : Operand) (t : TypeId)
    (ho : o.op = .call { callee := .builtin .append, args := #[s, x], argTypes := #[t, t] })
    (e : TypeId) (ht : P.underlying t = some (.slice e)) (hinfo : (P.info? e).map (fun i => (i.zero, i.size, i.bytes)) = some (some (.int .u8 0), 1, 1))
    (A0 : Option Addr) (n B0 : Nat) (xs : List UInt8) (hs : a.eval s = .slice A0 n n) (hl : xs.length = n) (h0 : 0 < n) (hr0 : RdB w B0 A0 xs) (A : Option Addr) (m c B : Nat) (bs : List UInt8) (hx : a.eval x = .slice A m c) (hm : m = bs.length) (hm0 : 0 < bs.length) (hr : RdB w B A bs) (hn : n + bs.length ≤ 1048576)
    (h : ∀ v' w', OwB e w' w.heap.size v' (xs ++ bs) → Below w.heap.size w w' → wpList P ops Q rest (a.put o.dst v') w') : wpList P ops Q (o :: rest) a w := by
  refine BigFrame.wpList_want hw fun K hK => ?_
  obtain ⟨v', w', hrun, h2, h3⟩ := run_append_F (P := P) w t o.type e ht hinfo A0 n B0 xs hl h0 hr0 A m c B bs hm hm0 hr hn
  unfold Oper.wp execOp
  simp only [ho, resolve, invoke, builtin, Sem.run_bind, Sem.run_pure, Result.andThen_ok, List.map_toArray, List.map_cons, List.map_nil, hs, hx, hrun]
  exact hK _ _ (h v' w' h2 h3)
end
end Go.Proofs.YtkbhnbkjpnigkaaDoor
end
