/- Texts put together: Rows2, Parts, PartsOwn, SyndOwn, EraseMath, CloneB, EraseBits. -/
import Derived.Test.YtadfimimkkimmaaSaaaa
import Derived.Test.YtadfimimkkimmaaSaaab
import Derived.Deep.Matrix
section
namespace Go.Proofs.Ytadfimimkkimmaa
open Go.ChangeShapes Go.WideShapes Go.ChangeAt Go.RowKit

/-- As RdR; and no row is longer than its room. -/
def RdC (w : World) (B : Nat) (A : Option Addr) (rs : List (List UInt8)) : Prop :=
  rs.length ≤ 140737488355328 ∧ (0 < rs.length → ∃ b off, A = some ⟨b, off, none⟩ ∧ b < B ∧ ∀ k, k < rs.length → ∃ A' c, w.cell? ⟨b, off + k, none⟩ = some (.slice A' (rs.getD k []).length c) ∧ (rs.getD k []).length ≤ c ∧ RdB w B A' (rs.getD k []))
theorem RdC.rdr {w : World} {B : Nat} {A : Option Addr} {rs : List (List UInt8)} (h : RdC w B A rs) : RdR w B A rs :=
  ⟨h.1, fun h0 => by
    obtain ⟨b, off, e, hb, hc⟩ := h.2 h0
    refine ⟨b, off, e, hb, fun k hk => ?_⟩
    obtain ⟨A', c, h1, _, h2⟩ := hc k hk
    exact ⟨A', c, h1, h2⟩⟩
theorem RdC.keep {w w' : World} {B B' : Nat} {A : Option Addr} {rs : List (List UInt8)} (h : RdC w B A rs) (hB : B ≤ B') (hk : ∀ p : Addr, p.block < B → w'.cell? p = w.cell? p) : RdC w' B' A rs :=
  ⟨h.1, fun hn => by
    obtain ⟨b, off, e, hb, hc⟩ := h.2 hn
    refine ⟨b, off, e, by omega, fun k hk' => ?_⟩
    obtain ⟨A', c, h1, h2, h3⟩ := hc k hk'
    exact ⟨A', c, (hk ⟨b, off + k, none⟩ hb).trans h1, h2, h3.keep hB hk⟩⟩
theorem RdC.below {w w' : World} {B B' : Nat} {A : Option Addr} {rs : List (List UInt8)} (h : RdC w B A rs) (hb : Below B' w w') (hB : B ≤ B') : RdC w' B A rs := h.keep (Nat.le_refl _) fun p hp => hb.cell (by omega)
theorem RdC.more {w : World} {B B' : Nat} {A : Option Addr} {rs : List (List UInt8)} (h : RdC w B A rs) (hB : B ≤ B') : RdC w B' A rs := h.keep hB fun _ _ => rfl
/-- A slice of slices cut: s[:k], s[k:]. -/
theorem RdR.take {w : World} {B : Nat} {A : Option Addr} {rs : List (List UInt8)} (h : RdR w B A rs) (k : Nat) : RdR w B A (rs.take k) :=
  ⟨by have := h.1; simp; omega, fun hn => by
    have hn' : 0 < rs.length := by simp at hn; omega
    obtain ⟨b, off, e, hb, hc⟩ := h.2 hn'
    refine ⟨b, off, e, hb, fun j hj => ?_⟩
    have hj' : j < k ∧ j < rs.length := by simp at hj; omega
    have e : (rs.take k).getD j [] = rs.getD j [] := by simp [hj'.1]
    rw [e]
    exact hc j hj'.2⟩
theorem RdR.drop {w : World} {B : Nat} {A : Option Addr} {rs : List (List UInt8)} (h : RdR w B A rs) (k cap : Nat) (hc : rs.length ≤ cap) : RdR w B (if cap = k then A else A.map (·.add k)) (rs.drop k) :=
  ⟨by have := h.1; simp; omega, fun hn => by
    have hn' : k < rs.length := by simp at hn; omega
    obtain ⟨b, off, rfl, hb, hc⟩ := h.2 (by omega)
    rw [if_neg (by omega)]
    refine ⟨b, off + k, ?_, hb, fun j hj => ?_⟩
    · unfold Addr.add; by_cases hk0 : k = 0 <;> simp [hk0]
    · have hj' : k + j < rs.length := by simp at hj; omega
      have e : (rs.drop k).getD j [] = rs.getD (k + j) [] := by simp
      rw [Nat.add_assoc, e]
      exact hc (k + j) hj'⟩

section
variable {H : Type} {enc : TypeId × Value → H} {P : Program}
theorem weightsAll_mem {e : TypeId} {d : DataW H} {n : Nat} : ∀ {ds : List (DataW H)}, d ∈ ds → n ∈ d.weights P e → n ∈ DataW.weightsAll P e ds
  | _ :: _, .head _, h => by unfold DataW.weightsAll; exact List.mem_append_left _ h
  | _ :: _, .tail _ h', h => by unfold DataW.weightsAll; exact List.mem_append_right _ (weightsAll_mem h' h)
/-- A slice of slices of bytes that came in. -/
theorem open_rows {t e q : TypeId} (ht : P.underlying t = some (.slice e)) (he : P.underlying e = some (.slice q)) (hq : P.underlying q = some (.int .u8)) (ce : P.cellsOf e = 1) (cq : P.cellsOf q = 1) (be : P.bytesOf e = 24) (bq : P.bytesOf q = 1)
    {r : Reach} {W : World} {base : Nat} {v : Value} {d : DataW H} {p : List MemPlace}
    (hv : Value.okWide P W r base t v) (h : DataW.Trod enc P W 0 (fun _ => true) true t v d p) (hs : ∀ n ∈ d.weights P t, n ≤ reachBytes) :
    ∃ A rs cap, v = .slice A rs.length cap ∧ rs.length ≤ cap ∧ RdC W W.heap.size A rs := by
  obtain ⟨A, len, cap, rfl⟩ := okWide_slice ht hv
  obtain ⟨fuel, hf⟩ := h
  rcases Deep.open_int_rows ht he hq ce cq hf with ⟨hcs, _⟩ | ⟨a, l, c, As, L, C, Z, hcs, _, hl, hm, hd, hall⟩
  · simp [Value.cells] at hcs
    obtain ⟨rfl, rfl, rfl⟩ := hcs
    exact ⟨none, [], 0, rfl, Nat.le_refl _, by simp, fun h => by simp at h⟩
  · simp [Value.cells] at hcs
    obtain ⟨rfl, rfl, rfl⟩ := hcs
    injection hd with hd1 hd2
    have hcap : cap ≤ 140737488355328 := by
      have := hs ((len + (cap - len)) * 24) (by rw [hd1]; simp [DataW.weights, ht, be])
      simp [reachBytes] at this
      omega
    have hrow : ∀ r, r < len → C r ≤ 140737488355328 := fun r hr => by
      obtain ⟨_, h2, h3, h4, _, h6, _⟩ := hall r (by omega)
      cases hA : As r with
      | none => have := h6 hA; omega
      | some a' =>
        have hw : C r * 1 ∈ (Deep.intRow (H := H) .u8 (As r) (L r) (Z r)).weights P e := by
          rw [hA]
          simp [Deep.intRow, DataW.weights, he, lits, bq, h4]
          omega
        have := hs _ (by rw [hd1]; unfold DataW.weights; simp only [ht]; exact List.mem_cons_of_mem _ (List.mem_append_left _ (weightsAll_mem (List.mem_map.2 ⟨r, List.mem_range.2 hr, rfl⟩) hw)))
        simp [reachBytes] at this
        omega
    have hcellA : ∀ r a', r < len → As r = some a' → 0 < C r → ∃ b off, a' = ⟨b, off, none⟩ ∧ b < W.heap.size := fun r a' hr hA hp => by
      obtain ⟨_, _, _, _, _, _, h7⟩ := hall r (by omega)
      have hc0 := (h7 a' hA).2 0 hp
      obtain ⟨b, off, spot⟩ := a'
      have hspot : spot = none := by simpa [Addr.add] using World.cell?_spot hc0
      subst hspot
      exact ⟨b, off, rfl, by have := World.block_lt_of_cell? _ _ hc0; simpa [Addr.add] using this⟩
    have hZ : ∀ r, r < len → ((Z r).take (L r)).length = L r := fun r hr => by
      obtain ⟨_, h2, _, h4, _⟩ := hall r (by omega)
      rw [List.length_take, h4]; omega
    have hget : ∀ r, r < len → ((List.range len).map fun r => ((Z r).take (L r)).map fun z => UInt8.ofNat z.toNat).getD r [] = ((Z r).take (L r)).map fun z => UInt8.ofNat z.toNat := fun r hr => by
      simp [hr]
    refine ⟨some a, (List.range len).map fun r => ((Z r).take (L r)).map fun z => UInt8.ofNat z.toNat, cap, by simp, by simpa using hl, by simp; omega, fun h0 => ?_⟩
    have h0' : 0 < len := by simpa using h0
    have hc0 := (hall 0 (by omega)).1
    obtain ⟨b, off, spot⟩ := a
    have hspot : spot = none := by simpa [Addr.add] using World.cell?_spot hc0
    subst hspot
    refine ⟨b, off, rfl, by have := World.block_lt_of_cell? _ _ hc0; simpa [Addr.add] using this, fun k hk => ?_⟩
    have hk' : k < len := by simpa using hk
    obtain ⟨h1, h2, h3, h4, h5, h6, h7⟩ := hall k (by omega)
    have e1 : ((⟨b, off, none⟩ : Addr).add k) = ⟨b, off + k, none⟩ := by unfold Addr.add; by_cases hk0 : k = 0 <;> simp [hk0]
    rw [e1] at h1
    rw [hget k hk', List.length_map, hZ k hk']
    refine ⟨As k, C k, h1, h2, ?_, fun hn => ?_⟩
    · rw [List.length_map, hZ k hk']; have := hrow k hk'; omega
    · rw [List.length_map, hZ k hk'] at hn
      cases hA : As k with
      | none => have := h6 hA; omega
      | some a' =>
        obtain ⟨b2, off2, rfl, hb2⟩ := hcellA k a' hk' hA (by omega)
        refine ⟨b2, off2, rfl, hb2, fun j hj => ?_⟩
        rw [List.length_map, hZ k hk'] at hj
        have hcj := (h7 _ hA).2 j (by omega)
        have e2 : ((⟨b2, off2, none⟩ : Addr).add j) = ⟨b2, off2 + j, none⟩ := by unfold Addr.add; by_cases hk0 : j = 0 <;> simp [hk0]
        rw [e2] at hcj
        rw [hcj]
        have hmem : (Z k).getD j 0 ∈ Z k := by simp [show j < (Z k).length by omega]
        have hw := bounds_u8 (h5 _ hmem)
        have e4 : (Z k)[j]? = some ((Z k).getD j 0) := by rw [List.getD_eq_getElem?_getD, List.getElem?_eq_getElem (by omega)]; rfl
        have e3 : (((Z k).take (L k)).map fun z => UInt8.ofNat z.toNat).getD j 0 = UInt8.ofNat ((Z k).getD j 0).toNat := by
          rw [List.getD_eq_getElem?_getD, List.getElem?_map, List.getElem?_take, if_pos hj, e4]
          rfl
        rw [e3, UInt8.toNat_ofNat', Nat.mod_eq_of_lt (by omega)]
        congr 2
        omega
end

/-- Values that read as rows, none of them in block ob. -/
def RowsX (w : World) (B : Nat) (ob : Option Nat) (xs : List Value) (rs : List (List UInt8)) : Prop :=
  xs.length = rs.length ∧ ∀ k, k < rs.length → ∃ A c, xs[k]? = some (.slice A (rs.getD k []).length c) ∧ RdB w B A (rs.getD k []) ∧ (0 < (rs.getD k []).length → ∀ a, A = some a → some a.block ≠ ob)
theorem RowsX.nil (w : World) (B : Nat) (ob : Option Nat) : RowsX w B ob [] [] := ⟨rfl, fun k hk => by simp at hk⟩
theorem RowsX.rowsV {w : World} {B : Nat} {ob : Option Nat} {xs : List Value} {rs : List (List UInt8)} (h : RowsX w B ob xs rs) : RowsV w B xs rs :=
  ⟨h.1, fun k hk => by
    obtain ⟨A, c, h1, h2, _⟩ := h.2 k hk
    exact ⟨A, c, h1, h2⟩⟩
theorem RowsX.below {w w' : World} {ob : Option Nat} {xs : List Value} {rs : List (List UInt8)} (h : RowsX w w.heap.size ob xs rs) (hb : Below w.heap.size w w') : RowsX w' w'.heap.size ob xs rs :=
  ⟨h.1, fun k hk => by
    obtain ⟨A, c, h1, h2, h3⟩ := h.2 k hk
    exact ⟨A, c, h1, (h2.below hb (Nat.le_refl _)).more hb.size, h3⟩⟩
theorem RowsX.grown {w w' : World} {ob ob' : Option Nat} {xs : List Value} {rs : List (List UInt8)} (h : RowsX w w.heap.size ob xs rs) (hg : w.grownBy w' ob) (ho : ob' = ob ∨ ob' = some w.heap.size) : RowsX w' w'.heap.size ob' xs rs :=
  ⟨h.1, fun k hk => by
    obtain ⟨A, c, h1, h2, h3⟩ := h.2 k hk
    refine ⟨A, c, h1, ⟨h2.1, fun h0 => ?_⟩, fun h0 a ha => ?_⟩
    · obtain ⟨b, off, e, hb, hc⟩ := h2.2 h0
      have hne := h3 h0 _ e
      refine ⟨b, off, e, by have := hg.size; omega, fun j hj => ?_⟩
      rw [← hc j hj]
      exact World.cell?_of_block (w := w) (hg.block b hb hne)
    · rcases ho with rfl | rfl
      · exact h3 h0 a ha
      · obtain ⟨b, off, e, hb, hc⟩ := h2.2 h0
        rw [ha] at e
        injection e with e
        subst e
        intro e
        injection e with e
        simp at e
        omega⟩
theorem RowsX.snoc {w : World} {B : Nat} {ob : Option Nat} {xs : List Value} {rs : List (List UInt8)} (h : RowsX w B ob xs rs) {A : Option Addr} {c : Nat} {bs : List UInt8} (hr : RdB w B A bs) (hne : 0 < bs.length → ∀ a, A = some a → some a.block ≠ ob) : RowsX w B ob (xs ++ [.slice A bs.length c]) (rs ++ [bs]) :=
  ⟨by simp [h.1], fun k hk => by
    by_cases hk2 : k < rs.length
    · obtain ⟨A', c', h1, h2, h3⟩ := h.2 k hk2
      have e : (rs ++ [bs]).getD k [] = rs.getD k [] := by simp [List.getElem?_append_left hk2]
      rw [e]
      exact ⟨A', c', by rw [List.getElem?_append_left (by rw [h.1]; exact hk2)]; exact h1, h2, h3⟩
    · have hk3 : k = rs.length := by simp at hk; omega
      subst hk3
      have e : (rs ++ [bs]).getD rs.length [] = bs := by simp
      rw [e]
      exact ⟨A, c, by rw [← h.1]; simp, hr, hne⟩⟩
/-- An own row of slices, read as rows, with its room. -/
theorem rdr_ownC {w : World} {base : Nat} {e : TypeId} {v : Value} {n : Nat} {xs : List Value} {rs : List (List UInt8)} (h : w.ownsRow base e 1 v n xs) (hl : rs.length ≤ 140737488355328) (hx : RowsV w w.heap.size xs rs) :
    ∃ A cap, v = .slice A rs.length cap ∧ rs.length ≤ cap ∧ RdR w w.heap.size A rs := by
  obtain ⟨A, cap, hv, hr⟩ := rdr_own h (Nat.le_refl _) hl hx
  refine ⟨A, cap, hv, ?_, hr⟩
  have hn : n = rs.length := by have := h.1; have := hx.1; omega
  rcases h.2 with ⟨h1, h0⟩ | ⟨g, cap', cur, h1, _, _, h3, _⟩
  · rw [hv] at h1; injection h1 with _ _ h1; omega
  · rw [hv] at h1; injection h1 with _ _ h1; omega
/-- A block of bytes that a literal made. -/
theorem rdb_lit {w : World} {g : Nat} {cs : Array Value} {t : TypeId} {f : Nat × Nat} {bs : List UInt8} (hg : w.heap[g]? = some (.cells cs t f)) (hl : bs.length ≤ 140737488355328) (hcs : cs.toList = bs.map bv) : RdB w w.heap.size (some ⟨g, 0, none⟩) bs :=
  rdb_block hg (Array.getElem?_eq_some_iff.1 hg).1 hl fun k hk => by
    rw [← Array.getElem?_toList, hcs, List.getElem?_map, List.getElem?_eq_getElem hk, List.getD_eq_getElem?_getD, List.getElem?_eq_getElem hk]
    rfl
theorem hp_get (w : World) (o : Obj) (g : Nat) : (w.alloc o).heap[g]? = if g = w.heap.size then some o else w.heap[g]? := by
  split
  · next h => exact hp_new w o g h
  · next h =>
    by_cases h2 : g < w.heap.size
    · exact hp_old w o g h2
    · rw [Array.getElem?_eq_none (by simp; omega), Array.getElem?_eq_none (by omega)]
end Go.Proofs.Ytadfimimkkimmaa
end
section
namespace Go.Proofs.Ytadfimimkkimmaa
open Go.RowKit

theorem info_row : (Try.prog.info? 46).map (fun i => (i.zero, i.size, i.bytes)) = some (some (.slice none 0 0), 1, 24) := by kernel_rfl
/-- One part of numbers. -/
def partB (n : Int) (b : List UInt8) : List UInt8 := if n.tmod 5 = 4 then b.take 9 else (b.take 9 ++ List.replicate 9 0).take (1 + (withinI n 8).toNat)
def partsR (rs : List (List UInt8)) (n : Int) : List (List UInt8) := (rs.take 7).map (partB n)
theorem partB_le (n : Int) (b : List UInt8) : (partB n b).length ≤ 18 := by
  unfold partB
  split <;> simp <;> omega
theorem partsR_len (rs : List (List UInt8)) (n : Int) : (partsR rs n).length = min 7 rs.length := by simp [partsR]
theorem partsR_mem_le {rs : List (List UInt8)} {n : Int} : ∀ r ∈ partsR rs n, r.length ≤ 18 := fun r hr => by
  unfold partsR at hr
  obtain ⟨b, _, rfl⟩ := List.mem_map.1 hr
  exact partB_le n b
/-- With a number that is a multiple of five all parts are as long. -/
theorem partsR_alike {rs : List (List UInt8)} {n : Int} (h : n.tmod 5 = 0) : ∀ r ∈ partsR rs n, r.length = 1 + (withinI n 8).toNat := fun r hr => by
  unfold partsR at hr
  obtain ⟨b, _, rfl⟩ := List.mem_map.1 hr
  unfold partB
  rw [if_neg (by omega)]
  have := withinI_bd n 8 (by omega)
  simp
  omega
theorem partsR_snoc (rs : List (List UInt8)) (n : Int) (k : Nat) (h : k < rs.length) : (rs.take (k + 1)).map (partB n) = (rs.take k).map (partB n) ++ [partB n (rs.getD k [])] := by
  rw [List.take_succ_eq_append_getElem h, List.map_append]
  simp [h]
theorem ownsRow_ob {w : World} {base : Nat} {e : TypeId} {size : Nat} {v : Value} {n : Nat} {xs : List Value} (h : w.ownsRow base e size v n xs) : ∀ j, v.ownBlock = some j → base ≤ j ∧ j < w.heap.size := h.lt
theorem OwB.addr_ob {e : TypeId} {w : World} {B : Nat} {A : Option Addr} {n c : Nat} {bs : List UInt8} (h : OwB e w B (.slice A n c) bs) (hp : 0 < bs.length) : ∀ a, A = some a → B ≤ a.block := fun a ha => by
  obtain ⟨g, cap, hv, hB, _⟩ := h.pos hp
  injection hv with h1 _ _
  rw [ha] at h1
  injection h1 with h1
  subst h1
  exact hB
end Go.Proofs.Ytadfimimkkimmaa
end
section
namespace Go.Proofs.Ytadfimimkkimmaa
open Go.RowKit

/-- A slice of bytes in a block from lo on. -/
def RdBF (lo : Nat) (w : World) (A : Option Addr) (bs : List UInt8) : Prop :=
  bs.length ≤ 140737488355328 ∧ (0 < bs.length → ∃ b off, A = some ⟨b, off, none⟩ ∧ b < w.heap.size ∧ lo ≤ b ∧ ∀ k, k < bs.length → w.cell? ⟨b, off + k, none⟩ = some (.int .u8 ((bs.getD k 0).toNat : Int)))
def RdF (lo : Nat) (w : World) (A : Option Addr) (rs : List (List UInt8)) : Prop :=
  rs.length ≤ 140737488355328 ∧ (0 < rs.length → ∃ b off, A = some ⟨b, off, none⟩ ∧ b < w.heap.size ∧ lo ≤ b ∧ ∀ k, k < rs.length → ∃ A' c, w.cell? ⟨b, off + k, none⟩ = some (.slice A' (rs.getD k []).length c) ∧ RdBF lo w A' (rs.getD k []))
theorem RdBF.rdb {lo : Nat} {w : World} {A : Option Addr} {bs : List UInt8} (h : RdBF lo w A bs) : RdB w w.heap.size A bs :=
  ⟨h.1, fun h0 => by
    obtain ⟨b, off, e, hb, _, hc⟩ := h.2 h0
    exact ⟨b, off, e, hb, hc⟩⟩
theorem RdF.rdr {lo : Nat} {w : World} {A : Option Addr} {rs : List (List UInt8)} (h : RdF lo w A rs) : RdR w w.heap.size A rs :=
  ⟨h.1, fun h0 => by
    obtain ⟨b, off, e, hb, _, hc⟩ := h.2 h0
    refine ⟨b, off, e, hb, fun k hk => ?_⟩
    obtain ⟨A', c, h1, h2⟩ := hc k hk
    exact ⟨A', c, h1, h2.rdb⟩⟩
theorem RdBF.keep {lo : Nat} {w w' : World} {A : Option Addr} {bs : List UInt8} (h : RdBF lo w A bs) (hz : w.heap.size ≤ w'.heap.size) (hk : ∀ p : Addr, lo ≤ p.block → p.block < w.heap.size → w'.cell? p = w.cell? p) : RdBF lo w' A bs :=
  ⟨h.1, fun h0 => by
    obtain ⟨b, off, e, hb, hl, hc⟩ := h.2 h0
    exact ⟨b, off, e, by omega, hl, fun k hk' => (hk ⟨b, off + k, none⟩ hl hb).trans (hc k hk')⟩⟩
theorem RdF.keep {lo : Nat} {w w' : World} {A : Option Addr} {rs : List (List UInt8)} (h : RdF lo w A rs) (hz : w.heap.size ≤ w'.heap.size) (hk : ∀ p : Addr, lo ≤ p.block → p.block < w.heap.size → w'.cell? p = w.cell? p) : RdF lo w' A rs :=
  ⟨h.1, fun h0 => by
    obtain ⟨b, off, e, hb, hl, hc⟩ := h.2 h0
    refine ⟨b, off, e, by omega, hl, fun k hk' => ?_⟩
    obtain ⟨A', c, h1, h2⟩ := hc k hk'
    exact ⟨A', c, (hk ⟨b, off + k, none⟩ hl hb).trans h1, h2.keep hz hk⟩⟩
theorem RdF.below {lo : Nat} {w w' : World} {A : Option Addr} {rs : List (List UInt8)} (h : RdF lo w A rs) (hb : Below w.heap.size w w') : RdF lo w' A rs := h.keep hb.size fun _ _ hp => hb.cell hp
/-- Values that read as rows, none of them in block ob, all from lo on. -/
def RowsY (w : World) (lo : Nat) (ob : Option Nat) (xs : List Value) (rs : List (List UInt8)) : Prop :=
  xs.length = rs.length ∧ ∀ k, k < rs.length → ∃ A c, xs[k]? = some (.slice A (rs.getD k []).length c) ∧ RdBF lo w A (rs.getD k []) ∧ (0 < (rs.getD k []).length → ∀ a, A = some a → some a.block ≠ ob)
theorem RowsY.nil (w : World) (lo : Nat) (ob : Option Nat) : RowsY w lo ob [] [] := ⟨rfl, fun k hk => by simp at hk⟩
theorem RowsY.below {w w' : World} {lo : Nat} {ob : Option Nat} {xs : List Value} {rs : List (List UInt8)} (h : RowsY w lo ob xs rs) (hb : Below w.heap.size w w') : RowsY w' lo ob xs rs :=
  ⟨h.1, fun k hk => by
    obtain ⟨A, c, h1, h2, h3⟩ := h.2 k hk
    exact ⟨A, c, h1, h2.keep hb.size fun _ _ hp => hb.cell hp, h3⟩⟩
theorem RowsY.grown {w w' : World} {lo : Nat} {ob ob' : Option Nat} {xs : List Value} {rs : List (List UInt8)} (h : RowsY w lo ob xs rs) (hg : w.grownBy w' ob) (ho : ob' = ob ∨ ob' = some w.heap.size) : RowsY w' lo ob' xs rs :=
  ⟨h.1, fun k hk => by
    obtain ⟨A, c, h1, h2, h3⟩ := h.2 k hk
    refine ⟨A, c, h1, ⟨h2.1, fun h0 => ?_⟩, fun h0 a ha => ?_⟩
    · obtain ⟨b, off, e, hb, hl, hc⟩ := h2.2 h0
      have hne := h3 h0 _ e
      refine ⟨b, off, e, by have := hg.size; omega, hl, fun j hj => ?_⟩
      rw [← hc j hj]
      exact World.cell?_of_block (w := w) (hg.block b hb hne)
    · rcases ho with rfl | rfl
      · exact h3 h0 a ha
      · obtain ⟨b, off, e, hb, hl, hc⟩ := h2.2 h0
        rw [ha] at e
        injection e with e
        subst e
        intro e
        injection e with e
        simp at e
        omega⟩
theorem RowsY.snoc {w : World} {lo : Nat} {ob : Option Nat} {xs : List Value} {rs : List (List UInt8)} (h : RowsY w lo ob xs rs) {A : Option Addr} {c : Nat} {bs : List UInt8} (hr : RdBF lo w A bs) (hne : 0 < bs.length → ∀ a, A = some a → some a.block ≠ ob) : RowsY w lo ob (xs ++ [.slice A bs.length c]) (rs ++ [bs]) :=
  ⟨by simp [h.1], fun k hk => by
    by_cases hk2 : k < rs.length
    · obtain ⟨A', c', h1, h2, h3⟩ := h.2 k hk2
      have e : (rs ++ [bs]).getD k [] = rs.getD k [] := by simp [List.getElem?_append_left hk2]
      rw [e]
      exact ⟨A', c', by rw [List.getElem?_append_left (by rw [h.1]; exact hk2)]; exact h1, h2, h3⟩
    · have hk3 : k = rs.length := by simp at hk; omega
      subst hk3
      have e : (rs ++ [bs]).getD rs.length [] = bs := by simp
      rw [e]
      exact ⟨A, c, by rw [← h.1]; simp, hr, hne⟩⟩
/-- An own row of slices, read as rows, with its room. -/
theorem rdf_own {w : World} {base : Nat} {e : TypeId} {v : Value} {n : Nat} {xs : List Value} {rs : List (List UInt8)} {ob : Option Nat} (h : w.ownsRow base e 1 v n xs) (hl : rs.length ≤ 140737488355328) (hx : RowsY w base ob xs rs) :
    ∃ A cap, v = .slice A rs.length cap ∧ rs.length ≤ cap ∧ RdF base w A rs := by
  have hn : n = rs.length := by have := h.1; have := hx.1; omega
  subst hn
  rcases h.2 with ⟨rfl, h0⟩ | ⟨g, cap, cur, rfl, hb, hg, h3, _, _, htk⟩
  · exact ⟨none, 0, by rw [h0], by omega, hl, fun h => by omega⟩
  · refine ⟨_, cap, rfl, h3, hl, fun _ => ⟨g, 0, rfl, (Array.getElem?_eq_some_iff.1 hg).1, hb, fun k hk => ?_⟩⟩
    obtain ⟨A, c, h1, h2, _⟩ := hx.2 k hk
    refine ⟨A, c, ?_, h2⟩
    rw [← htk, List.getElem?_take, if_pos (by omega), Array.getElem?_toList] at h1
    rw [Nat.zero_add, cell_of_row w g k cur e (0, 0) hg]
    exact h1
theorem OwB.rdbf {e : TypeId} {w : World} {B : Nat} {A : Option Addr} {n c : Nat} {bs : List UInt8} (h : OwB e w B (.slice A n c) bs) : RdBF B w A bs :=
  ⟨h.2, fun h0 => by
    obtain ⟨b, off, e, hb, hc⟩ := h.rdS.1.2 h0
    exact ⟨b, off, e, hb, by have := h.addr_ob h0 _ e; simpa using this, hc⟩⟩
end Go.Proofs.Ytadfimimkkimmaa
end
section
namespace Go.Proofs.Ytadfimimkkimmaa
open Go.RowKit

/-- An own slice of these bytes came back; nothing old has turned. -/
def Gives (w : World) (p : List UInt8) (e : Ending) (w' : World) : Prop := ∃ A c, e = .returned (.slice A p.length c) ∧ OwB 5 w' w.heap.size (.slice A p.length c) p ∧ Below w.heap.size w w'
theorem gives_of {w : World} {p q : List UInt8} (hp : p = q) {e : Ending} {w' : World} (h : ∃ v, e = .returned v ∧ OwB 5 w' w.heap.size v p ∧ Below w.heap.size w w') : Gives w q e w' := by
  subst hp
  obtain ⟨v, he, ho, hb⟩ := h
  obtain ⟨A, c, rfl, _, _⟩ := ho.rd
  exact ⟨A, c, he, ho, hb⟩
theorem p_gives {A : Option Addr} {rs : List (List UInt8)} {n cp : Nat} {w : World} {p : List UInt8} (hr : RdR w w.heap.size A rs) (hn : rs.length = n) (hp : pB rs = p) : Calls Try.prog 70 #[.slice A n cp] w (Gives w p) :=
  (p_any A rs n cp w hn hr).mono fun _ _ h => gives_of hp h
theorem q_gives {A : Option Addr} {rs : List (List UInt8)} {n cp : Nat} {w : World} {p : List UInt8} (hr : RdR w w.heap.size A rs) (hn : rs.length = n) (hp : qB rs = p) : Calls Try.prog 71 #[.slice A n cp] w (Gives w p) :=
  (q_any A rs n cp w hn hr).mono fun _ _ h => gives_of hp h
theorem add_gives {A A' : Option Addr} {a b p : List UInt8} {n n' c c' B B' : Nat} {w : World} (h : OwB 5 w B (.slice A n c) a) (h' : OwB 5 w B' (.slice A' n' c') b) (hp : pB [a, b] = p) : Calls Try.prog 105 #[.slice A n c, .slice A' n' c'] w (Gives w p) :=
  (add_any A A' a b n n' c c' w.heap.size w h.rdS.2.1 h'.rdS.2.1 h.rdS.1 h'.rdS.1 (Nat.le_refl _)).mono fun _ _ h => gives_of hp h
theorem scale_gives {A : Option Addr} {a p : List UInt8} {n c f B : Nat} {w : World} (h : OwB 5 w B (.slice A n c) a) (hf : f < 256) (hp : scaleL a f = p) : Calls Try.prog 106 #[.slice A n c, .int .u8 (f : Int)] w (Gives w p) :=
  (scale_any A a n c f w h.rdS.2.1 hf h.rdS.1).mono fun _ _ h => gives_of hp h
/-- Two own slices with the same bytes are the same. -/
theorem same_own {w : World} {B B' : Nat} {A A' : Option Addr} {n n' c c' : Nat} {bs : List UInt8} (h : OwB 5 w B (.slice A n c) bs) (h' : OwB 5 w B' (.slice A' n' c') bs) :
    Calls Try.prog 31 #[.slice A n c, .slice A' n' c'] w fun e w' => e = .returned (.bool true) ∧ ∃ m, w' = w.drewN m :=
  (same_any A A' n n' c c' _ bs bs w h.rdS.2.1 h'.rdS.2.1 h.rdS.1 h'.rdS.1).mono fun _ _ ⟨he, hw⟩ => ⟨by rw [he, decide_eq_true rfl], hw⟩
theorem same_not {w : World} {B B' : Nat} {A A' : Option Addr} {n n' c c' : Nat} {bs bs' : List UInt8} (h : OwB 5 w B (.slice A n c) bs) (h' : OwB 5 w B' (.slice A' n' c') bs') (hne : bs ≠ bs') :
    Calls Try.prog 31 #[.slice A n c, .slice A' n' c'] w fun e w' => e = .returned (.bool false) ∧ ∃ m, w' = w.drewN m :=
  (same_any A A' n n' c c' _ bs bs' w h.rdS.2.1 h'.rdS.2.1 h.rdS.1 h'.rdS.1).mono fun _ _ ⟨he, hw⟩ => ⟨by rw [he, decide_eq_false hne], hw⟩
end Go.Proofs.Ytadfimimkkimmaa
end
section
namespace Go.Proofs.Ytadfimimkkimmaa

/-- Which of the first k rows are missing. -/
def missTo (rs : List (List UInt8)) (k : Nat) : List Nat := (List.range k).filter fun j => (rs.getD j []).length == 0
def missB (rs : List (List UInt8)) : List Nat := missTo rs rs.length
def sizedB (n : Nat) (rs : List (List UInt8)) : Bool := rs.all fun r => r.length == 0 || r.length == n
def fillR (n : Nat) (r : List UInt8) : List UInt8 := if r.length = 0 then zeroL n else r
def filledB (n : Nat) (rs : List (List UInt8)) : List (List UInt8) := rs.map (fillR n)
def byPB (p : List UInt8) (all : List (List UInt8)) : List UInt8 := pB [p, pB all]
def byQB (q : List UInt8) (all : List (List UInt8)) (k : Nat) : List UInt8 := scaleL (pB [q, qB all]) (gpow (-(k : Int)))
def bothB (p q : List UInt8) (all : List (List UInt8)) (i j : Nat) : List UInt8 :=
  scaleL (pB [pB [q, qB all], scaleL (pB [p, pB all]) (gpow i)]) (ginv (gpow i ^^^ gpow j))
def bothA (p q : List UInt8) (all : List (List UInt8)) (i j : Nat) : List UInt8 := pB [pB [p, pB all], bothB p q all i j]
/-- May it be asked, and can it be told? -/
def askB (n : Nat) (p q : List UInt8) (rs : List (List UInt8)) : Bool := decide (1 ≤ n) && (sizedB n [p, q] && sizedB n rs)
def canB (p q : List UInt8) (rs : List (List UInt8)) : Bool := decide ((missB rs).length ≤ 2 - (missB [p, q]).length) && (decide (0 < rs.length) && decide (rs.length ≤ 8))
def toldB (p q : List UInt8) (all : List (List UInt8)) : List Nat → List (List UInt8)
  | [] => all
  | [i] => all.set i (if p.length ≠ 0 then byPB p all else byQB q all i)
  | i :: j :: _ => (all.set i (bothA p q all i j)).set j (bothB p q all i j)
def solveB (n : Nat) (p q : List UInt8) (rs : List (List UInt8)) : Option (List (List UInt8)) :=
  if (askB n p q rs && canB p q rs) = true then some (toldB p q (filledB n rs) (missB rs)) else none

theorem missTo_succ (rs : List (List UInt8)) (k : Nat) : missTo rs (k + 1) = if (rs.getD k []).length = 0 then missTo rs k ++ [k] else missTo rs k := by
  unfold missTo
  rw [List.range_succ, List.filter_append]
  by_cases h : (rs.getD k []).length = 0
  · rw [if_pos h, List.filter_cons_of_pos (by simpa using h)]; rfl
  · rw [if_neg h, List.filter_cons_of_neg (by simpa using h)]; simp
theorem missTo_lt {rs : List (List UInt8)} {k : Nat} : ∀ j ∈ missTo rs k, j < k ∧ (rs.getD j []).length = 0 := fun j hj => by
  unfold missTo at hj
  simpa using hj
theorem missTo_len (rs : List (List UInt8)) (k : Nat) : (missTo rs k).length ≤ k := by
  unfold missTo
  have := List.length_filter_le (fun j => (rs.getD j []).length == 0) (List.range k)
  simpa using this
theorem missTo_mem {rs : List (List UInt8)} {k j : Nat} : j ∈ missTo rs k ↔ j < k ∧ (rs.getD j []).length = 0 := by
  unfold missTo
  simp
theorem missTo_sorted (rs : List (List UInt8)) (k : Nat) : (missTo rs k).Pairwise (· < ·) := List.Pairwise.filter _ List.pairwise_lt_range
theorem filledB_len (n : Nat) (rs : List (List UInt8)) : (filledB n rs).length = rs.length := by simp [filledB]
theorem filledB_get (n : Nat) (rs : List (List UInt8)) {k : Nat} (h : k < rs.length) : (filledB n rs).getD k [] = fillR n (rs.getD k []) := by simp [filledB, h]
theorem sizedB_mem {n : Nat} {rs : List (List UInt8)} (h : sizedB n rs = true) : ∀ r ∈ rs, r.length = 0 ∨ r.length = n := fun r hr => by
  unfold sizedB at h
  rw [List.all_eq_true] at h
  simpa using h r hr
theorem sizedB_iff {n : Nat} {rs : List (List UInt8)} : sizedB n rs = true ↔ ∀ k, k < rs.length → (rs.getD k []).length = 0 ∨ (rs.getD k []).length = n := by
  constructor
  · intro h k hk
    exact sizedB_mem h _ (by simp [hk])
  · intro h
    unfold sizedB
    rw [List.all_eq_true]
    intro r hr
    obtain ⟨k, hk, rfl⟩ := List.getElem_of_mem hr
    have := h k hk
    simpa [hk] using this
theorem filledB_mem {n : Nat} {rs : List (List UInt8)} (h : sizedB n rs = true) : ∀ r ∈ filledB n rs, r.length = n := fun r hr => by
  unfold filledB at hr
  obtain ⟨r', h1, rfl⟩ := List.mem_map.1 hr
  unfold fillR
  split
  · exact zeroL_len _
  · rcases sizedB_mem h r' h1 with h2 | h2
    · exact absurd h2 (by assumption)
    · exact h2

theorem xorL_cancel {a b : List UInt8} (h : a.length = b.length) : xorL (xorL a b) b = a := by
  rw [xorL_assoc, xorL_self, xorL_zero a _ h]
theorem xorL_left {a b : List UInt8} (h : a.length = b.length) : xorL a (xorL a b) = b := by
  rw [xorL_comm a, xorL_comm a, xorL_cancel h.symm]
theorem xorL_length {a b : List UInt8} {N : Nat} (h : a.length = N) (h' : b.length = N) : (xorL a b).length = N := by rw [xorL_len, h, h', Nat.min_self]
theorem mulU_xor_right (x : UInt8) {f g : Nat} (hf : f < 256) (hg : g < 256) : mulU x (f ^^^ g) = mulU x f ^^^ mulU x g :=
  UInt8.toNat_inj.1 (by rw [mulU_nat, UInt8.toNat_xor, mulU_nat, mulU_nat]; exact gmul_xor_right x.toNat_lt hf hg)
theorem scaleL_xor (a : List UInt8) {f g : Nat} (hf : f < 256) (hg : g < 256) : scaleL a (f ^^^ g) = xorL (scaleL a f) (scaleL a g) := by
  unfold scaleL xorL
  induction a with
  | nil => rfl
  | cons x a ih => rw [List.map_cons, List.map_cons, List.map_cons, List.zipWith_cons_cons, ih, mulU_xor_right x hf hg]
theorem scaleL_back (a : List UInt8) {h : Nat} (hh : h < 256) (h0 : h ≠ 0) : scaleL (scaleL a (ginv h)) h = a := by
  rw [scaleL_scaleL a (ginv_lt h) hh, gmul_comm (ginv_lt h) hh, gmul_inv hh h0, scaleL_one]
theorem scaleL_forth (a : List UInt8) {h : Nat} (hh : h < 256) (h0 : h ≠ 0) : scaleL (scaleL a h) (ginv h) = a := by
  rw [scaleL_scaleL a hh (ginv_lt h), gmul_inv hh h0, scaleL_one]
theorem gpow_inj {i j : Nat} (hi : i < 255) (hj : j < 255) (h : gpow (i : Int) = gpow (j : Int)) : i = j := by
  have := congrArg glog h
  rw [glog_gpow, glog_gpow] at this
  omega
theorem gpow_dif {i j : Nat} (hi : i < 255) (hj : j < 255) (h : i ≠ j) : gpow (i : Int) ^^^ gpow (j : Int) ≠ 0 := fun e => h (gpow_inj hi hj (by
  have h1 : gpow (i : Int) ^^^ gpow (j : Int) ^^^ gpow (j : Int) = 0 ^^^ gpow (j : Int) := by rw [e]
  rw [Nat.xor_assoc, Nat.xor_self, Nat.xor_zero, Nat.zero_xor] at h1
  exact h1))
theorem gpow_neg (k : Nat) (a : List UInt8) : scaleL (scaleL a (gpow k)) (gpow (-(k : Int))) = a ∧ scaleL (scaleL a (gpow (-(k : Int)))) (gpow k) = a := by
  constructor
  · rw [scaleL_scaleL a (gpow_lt _) (gpow_lt _), gpow_add, Int.add_right_neg, show gpow 0 = 1 by decide +kernel, scaleL_one]
  · rw [scaleL_scaleL a (gpow_lt _) (gpow_lt _), gpow_add, Int.add_left_neg, show gpow 0 = 1 by decide +kernel, scaleL_one]

/-- A row of zeros filled: the sum is what it was, and the row's. -/
theorem foldG_set {g : Nat → List UInt8 → List UInt8} {N : Nat} (hg : ∀ k r, (g k r).length = r.length) (h0 : ∀ k, g k (zeroL N) = zeroL N) (rs : List (List UInt8)) : ∀ i k z r, i < rs.length → rs.getD i [] = zeroL N → z.length = N → r.length = N → (∀ r ∈ rs, r.length = N) → foldG g k z (rs.set i r) = xorL (foldG g k z rs) (g (k + i) r) := by
  induction rs with
  | nil => intro i k z r hi; simp at hi
  | cons s rs ih =>
    intro i k z r hi hs hz hr hall
    cases i with
    | zero =>
      have hs' : s = zeroL N := by simpa using hs
      rw [List.set_cons_zero, foldG, foldG, hs', h0, xorL_zero z N hz, xorL_comm z, foldG_lin, xorL_comm]
      rfl
    | succ i =>
      rw [List.set_cons_succ, foldG, foldG, ih i (k + 1) _ r (by simpa using hi) (by simpa using hs) (xorL_length hz ((hg _ _).trans (hall s (by simp)))) hr (fun r' h' => hall r' (by simp [h']))]
      rw [Nat.add_assoc, Nat.add_comm 1 i]
theorem set_alike {rs : List (List UInt8)} {N i : Nat} {r : List UInt8} (hall : ∀ r ∈ rs, r.length = N) (hr : r.length = N) : ∀ s ∈ rs.set i r, s.length = N := fun s hs => by
  rcases List.mem_or_eq_of_mem_set hs with h | h
  · exact hall s h
  · exact h ▸ hr
theorem sumG_set {g : Nat → List UInt8 → List UInt8} {N : Nat} (hg : ∀ k r, (g k r).length = r.length) (h0 : ∀ k, g k (zeroL N) = zeroL N) {rs : List (List UInt8)} {i : Nat} {r : List UInt8} (hi : i < rs.length) (hs : rs.getD i [] = zeroL N) (hr : r.length = N) (hall : ∀ r ∈ rs, r.length = N) : sumG g (rs.set i r) = xorL (sumG g rs) (g i r) := by
  have h1 := alikeB_of (by omega : 0 < rs.length) hall
  have h2 := alikeB_of (rs := rs.set i r) (by simp; omega) (set_alike hall hr)
  unfold sumG
  rw [if_pos h1.1, if_pos h2.1, h1.2, h2.2, foldG_set hg h0 rs i 0 _ r hi hs (zeroL_len N) hr hall, Nat.zero_add]
theorem gP_zero (N k : Nat) : gP k (zeroL N) = zeroL N := rfl
theorem gQ_zero (N k : Nat) : gQ k (zeroL N) = zeroL N := scaleL_zero _ _
theorem pB_set {N : Nat} {rs : List (List UInt8)} {i : Nat} {r : List UInt8} (hi : i < rs.length) (hs : rs.getD i [] = zeroL N) (hr : r.length = N) (hall : ∀ r ∈ rs, r.length = N) : pB (rs.set i r) = xorL (pB rs) r := sumG_set gP_len (gP_zero N) hi hs hr hall
theorem qB_set {N : Nat} {rs : List (List UInt8)} {i : Nat} {r : List UInt8} (hi : i < rs.length) (hs : rs.getD i [] = zeroL N) (hr : r.length = N) (hall : ∀ r ∈ rs, r.length = N) : qB (rs.set i r) = xorL (qB rs) (scaleL r (gpow i)) := sumG_set gQ_len (gQ_zero N) hi hs hr hall
theorem pB_len {N : Nat} {rs : List (List UInt8)} (h0 : 0 < rs.length) (hall : ∀ r ∈ rs, r.length = N) : (pB rs).length = N := (sumG_len gP_len (alikeB_of h0 hall).1).trans (alikeB_of h0 hall).2
theorem qB_len {N : Nat} {rs : List (List UInt8)} (h0 : 0 < rs.length) (hall : ∀ r ∈ rs, r.length = N) : (qB rs).length = N := (sumG_len gQ_len (alikeB_of h0 hall).1).trans (alikeB_of h0 hall).2

/-- Rows all of N bytes, the asked ones zeros. -/
structure Holed (N : Nat) (all : List (List UInt8)) (i : Nat) : Prop where
  lt : i < all.length
  zero : all.getD i [] = zeroL N
  all : ∀ r ∈ all, r.length = N
theorem byPB_len {N : Nat} {p : List UInt8} {all : List (List UInt8)} {i : Nat} (h : Holed N all i) (hp : p.length = N) : (byPB p all).length = N := by
  have hl := pB_len (by have := h.lt; omega) h.all
  unfold byPB
  rw [pB_two (hp.trans hl.symm)]
  exact xorL_length hp hl
theorem byQB_len {N : Nat} {q : List UInt8} {all : List (List UInt8)} {i : Nat} (h : Holed N all i) (hq : q.length = N) : (byQB q all i).length = N := by
  have hl := qB_len (by have := h.lt; omega) h.all
  unfold byQB
  rw [scaleL_len, pB_two (hq.trans hl.symm)]
  exact xorL_length hq hl
theorem byPB_p {N : Nat} {p : List UInt8} {all : List (List UInt8)} {i : Nat} (h : Holed N all i) (hp : p.length = N) : pB (all.set i (byPB p all)) = p := by
  have hl := pB_len (by have := h.lt; omega) h.all
  rw [pB_set h.lt h.zero (byPB_len h hp) h.all]
  unfold byPB
  rw [pB_two (hp.trans hl.symm), xorL_comm p, xorL_left (hl.trans hp.symm)]
theorem byQB_q {N : Nat} {q : List UInt8} {all : List (List UInt8)} {i : Nat} (h : Holed N all i) (hq : q.length = N) : qB (all.set i (byQB q all i)) = q := by
  have hl := qB_len (by have := h.lt; omega) h.all
  rw [qB_set h.lt h.zero (byQB_len h hq) h.all]
  unfold byQB
  rw [(gpow_neg i _).2, pB_two (hq.trans hl.symm), xorL_comm q, xorL_left (hl.trans hq.symm)]
/-- One is what its sum asks, and only that. -/
theorem byPB_only {N : Nat} {all : List (List UInt8)} {i : Nat} (h : Holed N all i) {r : List UInt8} (hr : r.length = N) : byPB (pB (all.set i r)) all = r := by
  have hl := pB_len (by have := h.lt; omega) h.all
  unfold byPB
  rw [pB_set h.lt h.zero hr h.all, pB_two ((xorL_length hl hr).trans hl.symm), xorL_comm, xorL_left (hl.trans hr.symm)]
theorem byQB_only {N : Nat} {all : List (List UInt8)} {i : Nat} (h : Holed N all i) {r : List UInt8} (hr : r.length = N) : byQB (qB (all.set i r)) all i = r := by
  have hl := qB_len (by have := h.lt; omega) h.all
  have hr' : (scaleL r (gpow i)).length = N := (scaleL_len _ _).trans hr
  unfold byQB
  rw [qB_set h.lt h.zero hr h.all, pB_two ((xorL_length hl hr').trans hl.symm), xorL_comm, xorL_left (hl.trans hr'.symm), (gpow_neg i r).1]

section
variable {N : Nat} {p q : List UInt8} {all : List (List UInt8)} {i j : Nat}
theorem both_shape (hi : Holed N all i) (hp : p.length = N) (hq : q.length = N) :
    bothB p q all i j = scaleL (xorL (xorL q (qB all)) (scaleL (xorL p (pB all)) (gpow i))) (ginv (gpow i ^^^ gpow j)) ∧ (bothB p q all i j).length = N ∧ bothA p q all i j = xorL (xorL p (pB all)) (bothB p q all i j) ∧ (bothA p q all i j).length = N := by
  have hl := pB_len (by have := hi.lt; omega) hi.all
  have hm := qB_len (by have := hi.lt; omega) hi.all
  have h1 := xorL_length hp hl
  have h2 := xorL_length hq hm
  have h3 : (scaleL (xorL p (pB all)) (gpow i)).length = N := (scaleL_len _ _).trans h1
  have e : bothB p q all i j = scaleL (xorL (xorL q (qB all)) (scaleL (xorL p (pB all)) (gpow i))) (ginv (gpow i ^^^ gpow j)) := by
    unfold bothB
    rw [pB_two (hp.trans hl.symm), pB_two (hq.trans hm.symm), pB_two (h2.trans h3.symm)]
  have hb : (bothB p q all i j).length = N := by rw [e, scaleL_len]; exact xorL_length h2 h3
  have e2 : bothA p q all i j = xorL (xorL p (pB all)) (bothB p q all i j) := by
    unfold bothA
    rw [pB_two (hp.trans hl.symm), pB_two (h1.trans hb.symm)]
  exact ⟨e, hb, e2, by rw [e2]; exact xorL_length h1 hb⟩
theorem holed_set (hi : Holed N all i) (hj : Holed N all j) (hne : i ≠ j) {r : List UInt8} (hr : r.length = N) : Holed N (all.set i r) j :=
  ⟨by simpa using hj.lt, by
    have := hj.zero
    simpa [List.getElem?_set_ne hne] using this, set_alike hi.all hr⟩
theorem both_p (hi : Holed N all i) (hj : Holed N all j) (hne : i ≠ j) (hp : p.length = N) (hq : q.length = N) : pB ((all.set i (bothA p q all i j)).set j (bothB p q all i j)) = p := by
  obtain ⟨_, hb, e2, ha⟩ := both_shape (j := j) hi hp hq
  have hl := pB_len (by have := hi.lt; omega) hi.all
  have hh := holed_set hi hj hne ha
  rw [pB_set hh.lt hh.zero hb hh.all, pB_set hi.lt hi.zero ha hi.all, e2, xorL_assoc, xorL_cancel ((xorL_length hp hl).trans hb.symm), xorL_comm p, xorL_left (hl.trans hp.symm)]
theorem both_q (hi : Holed N all i) (hj : Holed N all j) (hne : i ≠ j) (hi8 : i < 255) (hj8 : j < 255) (hp : p.length = N) (hq : q.length = N) : qB ((all.set i (bothA p q all i j)).set j (bothB p q all i j)) = q := by
  obtain ⟨e1, hb, e2, ha⟩ := both_shape (j := j) hi hp hq
  have hl := pB_len (by have := hi.lt; omega) hi.all
  have hm := qB_len (by have := hi.lt; omega) hi.all
  have hh := holed_set hi hj hne ha
  have h1 := xorL_length hp hl
  have h2 := xorL_length hq hm
  have h3 : (scaleL (xorL p (pB all)) (gpow i)).length = N := (scaleL_len _ _).trans h1
  rw [qB_set hh.lt hh.zero hb hh.all, qB_set hi.lt hi.zero ha hi.all, e2, scaleL_xorL, xorL_assoc, xorL_assoc, ← scaleL_xor _ (gpow_lt _) (gpow_lt _), e1]
  rw [scaleL_back _ (xor_lt8 (gpow_lt _) (gpow_lt _)) (gpow_dif hi8 hj8 hne), xorL_comm (xorL q (qB all)), xorL_left (h3.trans h2.symm), xorL_comm q, xorL_left (hm.trans hq.symm)]
/-- Two are what both sums ask, and only that. -/
theorem both_only (hi : Holed N all i) (hj : Holed N all j) (hne : i ≠ j) (hi8 : i < 255) (hj8 : j < 255) {a b : List UInt8} (ha : a.length = N) (hb : b.length = N) :
    bothB (pB ((all.set i a).set j b)) (qB ((all.set i a).set j b)) all i j = b ∧ bothA (pB ((all.set i a).set j b)) (qB ((all.set i a).set j b)) all i j = a := by
  have hl := pB_len (by have := hi.lt; omega) hi.all
  have hm := qB_len (by have := hi.lt; omega) hi.all
  have hh := holed_set hi hj hne ha
  have hfa : (scaleL a (gpow i)).length = N := (scaleL_len _ _).trans ha
  have hfb : (scaleL b (gpow i)).length = N := (scaleL_len _ _).trans hb
  have hgb : (scaleL b (gpow j)).length = N := (scaleL_len _ _).trans hb
  have hab := xorL_length ha hb
  have hp : (pB ((all.set i a).set j b)).length = N := pB_len (by simp; have := hi.lt; omega) (set_alike hh.all hb)
  have hq : (qB ((all.set i a).set j b)).length = N := qB_len (by simp; have := hi.lt; omega) (set_alike hh.all hb)
  obtain ⟨e1, _, e2, _⟩ := both_shape (j := j) hi hp hq
  have ep : xorL (pB ((all.set i a).set j b)) (pB all) = xorL a b := by
    rw [pB_set hh.lt hh.zero hb hh.all, pB_set hi.lt hi.zero ha hi.all, xorL_assoc (pB all), xorL_comm, xorL_left (hl.trans hab.symm)]
  have eq : xorL (qB ((all.set i a).set j b)) (qB all) = xorL (scaleL a (gpow i)) (scaleL b (gpow j)) := by
    rw [qB_set hh.lt hh.zero hb hh.all, qB_set hi.lt hi.zero ha hi.all, xorL_assoc (qB all), xorL_comm, xorL_left (hm.trans (xorL_length hfa hgb).symm)]
  rw [ep, eq, scaleL_xorL a b] at e1
  have e3 : xorL (xorL (scaleL a (gpow i)) (scaleL b (gpow j))) (xorL (scaleL a (gpow i)) (scaleL b (gpow i))) = scaleL b (gpow i ^^^ gpow j) := by
    rw [scaleL_xor b (gpow_lt _) (gpow_lt _), xorL_comm (scaleL a (gpow i)) (scaleL b (gpow j)), xorL_assoc, xorL_left (hfa.trans hfb.symm), xorL_comm]
  rw [e3, scaleL_forth _ (xor_lt8 (gpow_lt _) (gpow_lt _)) (gpow_dif hi8 hj8 hne)] at e1
  exact ⟨e1, by rw [e2, e1, ep, xorL_cancel (ha.trans hb.symm)]⟩
end
end Go.Proofs.Ytadfimimkkimmaa
end
section
set_option maxRecDepth 8000
namespace Go.Proofs.Ytadfimimkkimmaa
open Go.RowKit

theorem own_empty (w : World) : OwB 5 (w.alloc (.cells #[] 5)) w.heap.size (.slice (some ⟨w.heap.size, 0, none⟩) 0 0) [] :=
  ⟨World.ownsRow_lit w #[] 0 (Nat.le_refl _) (by unfold maxLen; omega) rfl, by simp⟩
theorem clone_any (A : Option Addr) (bs : List UInt8) (n c : Nat) (w : World) (hn : n = bs.length) (hp : 0 < bs.length) (hr : RdB w w.heap.size A bs) :
    Calls Try.prog 68 #[.slice A n c] w fun e w' => ∃ v, e = .returned v ∧ OwB 5 w' w.heap.size v bs ∧ Below w.heap.size w w' := by
  have hl := hr.1
  obtain ⟨b, off, rfl, hb, hc⟩ := hr.2 hp
  subst hn
  have ho := own_empty w
  have hq : ∀ W : World, (binOp .eql 46 (.slice (some ⟨b, off, none⟩) bs.length c) (.slice none 0 0)).run Try.prog W = .ok (.bool false) W := fun _ => rfl
  have hr1 := hr.below (below1 w (.cells #[] 5)) (Nat.le_refl _)
  go_enter Try.func68, Try.ntmps68
  go_wp2_with (at_builtin; refine wpList_append_B _ rfl _ _ _ rfl w.heap.size 5 Try.underlying46 info_u8 (.slice (some ⟨w.heap.size, 0, none⟩) 0 0) [] rfl ho w.heap.size (some ⟨b, off, none⟩) bs.length c bs rfl rfl hr1 (by simpa using hl) (by simp) ?_; intro v' w' hown hg hat)
  have hbw := (below1 w (.cells #[] 5)).grown hg (by simp) (by simp [Value.ownBlock])
  rw [List.nil_append] at hown
  go_ret
  exact ⟨v', rfl, hown, hbw⟩
end Go.Proofs.Ytadfimimkkimmaa
end
section
namespace Go.Proofs.Ytadfimimkkimmaa
open Go.RowKit

def iv (k : Nat) : Value := .int .i64 (k : Int)
/-- The slice value v owns these numbers. -/
def OwI (w : World) (B : Nat) (v : Value) (ks : List Nat) : Prop := w.ownsRow B 3 1 v ks.length (ks.map iv)
theorem OwI.rd {w : World} {B : Nat} {v : Value} {ks : List Nat} (h : OwI w B v ks) : ∃ A c, v = .slice A ks.length c ∧ (0 < ks.length → ∃ g, A = some ⟨g, 0, none⟩ ∧ B ≤ g ∧ g < w.heap.size ∧ ∀ j, j < ks.length → w.cell? ⟨g, j, none⟩ = some (.int .i64 ((ks.getD j 0 : Nat) : Int))) := by
  rcases h.2 with ⟨rfl, h0⟩ | ⟨g, cap, cur, rfl, hB, hg, _⟩
  · exact ⟨none, 0, by rw [h0], fun h => by omega⟩
  · refine ⟨_, cap, rfl, fun _ => ⟨g, rfl, hB, (Array.getElem?_eq_some_iff.1 hg).1, fun j hj => ?_⟩⟩
    rw [World.ownsRow.cellAt h j (by omega)]
    simp [hj, iv]
theorem OwI.below {w w' : World} {B : Nat} {v : Value} {ks : List Nat} (h : OwI w B v ks) (hb : Below w.heap.size w w') : OwI w' B v ks := World.ownsRow.kept h (grown_none hb) (Classical.em _)
theorem info_int : (Try.prog.info? 3).map (fun i => (i.zero, i.size, i.bytes)) = some (some (.int .i64 0), 1, 8) := by kernel_rfl
theorem make_rows (n : Nat) (hn : n ≤ 1000000) (w : World) :
    (Instr.makeSlice 31 (.int .i64 (n : Int)) (.int .i64 (n : Int))).run Try.prog w = .ok (.slice (some ⟨w.heap.size, 0, none⟩) n n) (w.alloc (.cells (madeCells #[.slice none 0 0] n) 46)) :=
  run_make_row' _ _ _ 24 Try.underlying31 info_row rfl _ _ n (by omega) (by omega) w

set_option maxHeartbeats 400000 in
theorem missing_any (A : Option Addr) (rs : List (List UInt8)) (n cp : Nat) (w : World) (hn : rs.length = n) (hn8 : n ≤ 1000000) (hr : RdR w w.heap.size A rs) :
    Calls Try.prog 97 #[.slice A n cp] w fun e w' => ∃ v, e = .returned v ∧ OwI w' w.heap.size v (missB rs) ∧ Below w.heap.size w w' := by
  subst hn
  have Hall : Hid (missB rs = missTo rs rs.length) := rfl
  go_enter Try.func97, Try.ntmps97
  go_wp2
  go_loopw [3, 8] (fun o i wr => ∃ k : Nat, k ≤ rs.length ∧ i = .int .i64 k ∧ OwI wr w.heap.size o (missTo rs k) ∧ Below w.heap.size w wr) (fun _ i _ => rs.length - (intOf i).toNat)
  case atStart => exact ⟨0, Nat.zero_le _, rfl, World.ownsRow_nil _ _ _ _, Below.refl _ _⟩
  case round =>
    obtain ⟨k, hk, rfl, hown, hbr⟩ := hrel
    by_cases hlt : k < rs.length
    · obtain ⟨b, off, rfl, hbb, hc⟩ := hr.2 (by omega)
      obtain ⟨A', c', h1, h2⟩ := hc k hlt
      rw [← hbr.cell (p := ⟨b, off + k, none⟩) hbb] at h1
      have Hs := Lib.hid (missTo_succ rs k)
      have hml := missTo_len rs k
      generalize rs.getD k [] = row at h1 h2 Hs
      generalize missTo rs k = ms at hown Hs hml
      have i0 : (0 : Int) ≤ (k : Int) := by omega
      have i1 : (k : Int) < (rs.length : Int) := by omega
      clear hc
      by_cases he : row.length = 0
      · have Hs2 := Lib.hid (show missTo rs (k + 1) = ms ++ [k] by rw [Hs.out, if_pos he])
        have e0 : ((row.length : Int) == 0) = true := by rw [he]; rfl
        clear he Hs
        have hs0 := hbr.size
        go_wp2_with (at_builtin; refine wpList_append_V rfl _ _ _ rfl w.heap.size 3 (.int .i64 0) 8 Try.underlying22 info_int rfl _ ms.length (ms.map iv) rfl (World.ownsRow.kept hown (grown_none (below1 wr _)) (Classical.em _)) (wr.heap.size + 1) (some ⟨wr.heap.size, 0, none⟩) 1 1 [.int .i64 (k : Int)] rfl rfl (fun _ => ⟨wr.heap.size, 0, rfl, by omega, fun j hj => by obtain rfl : j = 0 := (by simp at hj; omega); exact cell_of_row _ _ _ _ _ _ (hp_new _ _ _ rfl)⟩) (fun u hu => by simp at hu; subst hu; rfl) (by unfold maxLen; omega) (by omega) (by simp; omega) ?_; intro v2 w2 hown2 hg2 hat2)
        have hbw2 := (hbr.alloc hbr.size (.cells #[.int .i64 (k : Int)] 3)).grown hg2 (by simp; omega) (fun j hj => (hown.lt j hj).1)
        have hown3 : OwI w2 w.heap.size v2 (missTo rs (k + 1)) := by
          rw [Hs2.out]
          unfold OwI
          rw [List.length_append, List.map_append]
          exact hown2
        clear hown2
        go_wp2
        go_roundw
        case rel => exact ⟨k + 1, by omega, by go_num, hown3, hbw2⟩
        case measure => simp [intOf]; omega
      · have Hs2 := Lib.hid (show missTo rs (k + 1) = ms by rw [Hs.out, if_neg he])
        have e0 : ((row.length : Int) == 0) = false := by rw [beq_eq_false_iff_ne]; omega
        clear he Hs
        go_wp2
        go_roundw
        case rel => exact ⟨k + 1, by omega, by go_num, by rw [Hs2.out]; exact hown, hbr⟩
        case measure => simp [intOf]; omega
    · obtain rfl : k = rs.length := by omega
      rw [← Hall.out] at hown
      go_wp2
      go_ret
      exact ⟨_, rfl, hown, hbr⟩

set_option maxHeartbeats 400000 in
theorem sized_any (A : Option Addr) (rs : List (List UInt8)) (n cp N : Nat) (w : World) (hn : rs.length = n) (hr : RdR w w.heap.size A rs) :
    Calls Try.prog 96 #[.int .i64 (N : Int), .slice A n cp] w fun e w' => e = .returned (.bool (sizedB N rs)) ∧ w' = w := by
  subst hn
  have Hz := Lib.hid (@sizedB_iff N rs)
  have hm := hr.1
  go_enter Try.func96, Try.ntmps96
  go_wp2
  go_loopw [9] (fun i wr => ∃ k : Nat, k ≤ rs.length ∧ i = .int .i64 k ∧ (∀ j, j < k → (rs.getD j []).length = 0 ∨ (rs.getD j []).length = N) ∧ wr = w) (fun i _ => rs.length - (intOf i).toNat)
  case atStart => exact ⟨0, Nat.zero_le _, rfl, fun j hj => absurd hj (Nat.not_lt_zero _), rfl⟩
  case round =>
    obtain ⟨k, hk, rfl, hj, rfl⟩ := hrel
    have Hj := Lib.hid hj
    clear hj
    by_cases hlt : k < rs.length
    · obtain ⟨b, off, rfl, hbb, hc⟩ := hr.2 (by omega)
      obtain ⟨A', c', h1, h2⟩ := hc k hlt
      have Hno := Lib.hid (show ¬ ((rs.getD k []).length = 0 ∨ (rs.getD k []).length = N) → sizedB N rs = false from fun h => by
        cases e : sizedB N rs with
        | false => rfl
        | true => exact absurd (Hz.out.1 e k hlt) h)
      have Hyes := Lib.hid (show ((rs.getD k []).length = 0 ∨ (rs.getD k []).length = N) → ∀ j, j < k + 1 → (rs.getD j []).length = 0 ∨ (rs.getD j []).length = N from fun h j hj => by
        by_cases e : j = k
        · rw [e]; exact h
        · exact Hj.out j (by omega))
      generalize (rs.getD k []).length = L at h1 Hno Hyes
      have i0 : (0 : Int) ≤ (k : Int) := by omega
      have i1 : (k : Int) < (rs.length : Int) := by omega
      clear hc h2
      by_cases he : L = 0
      · have Hn := Lib.hid (Hyes.out (.inl he))
        have e0 : ((L : Int) != 0) = false := by rw [he]; rfl
        clear he
        go_wp2
        go_roundw
        case rel => exact ⟨k + 1, by omega, by go_num, Hn.out, trivial⟩
        case measure => simp [intOf]; omega
      · have e0 : ((L : Int) != 0) = true := by rw [bne_iff_ne]; omega
        by_cases hN : L = N
        · have Hn := Lib.hid (Hyes.out (.inr hN))
          have e1 : ((L : Int) != (N : Int)) = false := int_bne_no hN
          clear he hN
          go_wp2
          go_roundw
          case rel => exact ⟨k + 1, by omega, by go_num, Hn.out, trivial⟩
          case measure => simp [intOf]; omega
        · have Hn := Lib.hid (Hno.out (fun h => h.elim he hN))
          have e1 : ((L : Int) != (N : Int)) = true := int_bne_yes hN
          clear he hN
          go_wp2
          go_ret
          exact ⟨by rw [Hn.out]; rfl, rfl⟩
    · obtain rfl : k = rs.length := by omega
      have Hn := Lib.hid (Hz.out.2 Hj.out)
      go_wp2
      go_ret
      exact ⟨by rw [Hn.out]; rfl, rfl⟩

/-- The first k rows filled, the others not there yet. -/
def fillTo (n : Nat) (rs : List (List UInt8)) (k : Nat) : List (List UInt8) := (rs.take k).map (fillR n) ++ List.replicate (rs.length - k) []
theorem fillTo_len (n : Nat) (rs : List (List UInt8)) {k : Nat} (h : k ≤ rs.length) : (fillTo n rs k).length = rs.length := by simp [fillTo]; omega
theorem fillTo_all (n : Nat) (rs : List (List UInt8)) : fillTo n rs rs.length = filledB n rs := by simp [fillTo, filledB]
theorem fillTo_succ (n : Nat) (rs : List (List UInt8)) {k : Nat} (h : k < rs.length) : (fillTo n rs k).set k (fillR n (rs.getD k [])) = fillTo n rs (k + 1) := by
  have hl : ((rs.take k).map (fillR n)).length = k := by simp; omega
  unfold fillTo
  rw [List.set_append_right _ _ (by omega), hl, Nat.sub_self, show rs.length - k = (rs.length - (k + 1)) + 1 from by omega, List.replicate_succ, List.set_cons_zero, List.take_succ_eq_append_getElem h, List.map_append, List.append_assoc]
  simp [h]
theorem RowsY.set {w : World} {lo : Nat} {ob : Option Nat} {xs : List Value} {rs : List (List UInt8)} (h : RowsY w lo ob xs rs) (j : Nat) {A : Option Addr} {c : Nat} {bs : List UInt8} (hr : RdBF lo w A bs) (hne : 0 < bs.length → ∀ a, A = some a → some a.block ≠ ob) : RowsY w lo ob (xs.set j (.slice A bs.length c)) (rs.set j bs) :=
  ⟨by simp [h.1], fun k hk => by
    rw [List.length_set] at hk
    by_cases hkj : j = k
    · subst hkj
      have e : (rs.set j bs).getD j [] = bs := by simp [hk]
      rw [e]
      exact ⟨A, c, by simp [show j < xs.length by rw [h.1]; exact hk], hr, hne⟩
    · have e : (rs.set j bs).getD k [] = rs.getD k [] := by simp [List.getElem?_set_ne hkj]
      rw [e, List.getElem?_set_ne hkj]
      exact h.2 k hk⟩
/-- An own row of rows: its value, what it holds, all from base on. -/
def OwR (w : World) (base g n cap : Nat) (rs : List (List UInt8)) : Prop :=
  rs.length = n ∧ n ≤ cap ∧ base ≤ g ∧ ∃ xs, w.ownsRow base 46 1 (.slice (some ⟨g, 0, none⟩) n cap) n xs ∧ RowsY w base (some g) xs rs
section
variable {w w' : World} {base g n cap : Nat} {rs : List (List UInt8)}
theorem OwR.lt (h : OwR w base g n cap rs) : g < w.heap.size := by
  obtain ⟨_, _, _, xs, h1, _⟩ := h
  exact (h1.lt g rfl).2
theorem OwR.below (h : OwR w base g n cap rs) (hb : Below w.heap.size w w') : OwR w' base g n cap rs := by
  obtain ⟨h0, hc, hg, xs, h1, h2⟩ := h
  exact ⟨h0, hc, hg, xs, h1.kept (grown_none hb) (Classical.em _), h2.below hb⟩
theorem OwR.cell (h : OwR w base g n cap rs) (j : Nat) (hj : j < n) : ∃ A c, w.cell? ⟨g, j, none⟩ = some (.slice A (rs.getD j []).length c) ∧ RdBF base w A (rs.getD j []) ∧ w.frozen? ⟨g, j, none⟩ = false := by
  obtain ⟨h0, _, _, xs, h1, h2⟩ := h
  obtain ⟨A, c, h3, h4, _⟩ := h2.2 j (by omega)
  exact ⟨A, c, by rw [World.ownsRow.cellAt h1 j (by omega)]; exact h3, h4, World.ownsRow.frozenAt h1 j⟩
theorem OwR.rdf (h : OwR w base g n cap rs) (hl : n ≤ 140737488355328) : RdF base w (some ⟨g, 0, none⟩) rs := by
  obtain ⟨h0, _, _, xs, h1, h2⟩ := h
  subst h0
  obtain ⟨A, c, hv, _, hr⟩ := rdf_own h1 hl h2
  injection hv with h3 _ _
  rw [h3]
  exact hr
theorem OwR.rdr (h : OwR w base g n cap rs) (hl : n ≤ 140737488355328) : RdR w w.heap.size (some ⟨g, 0, none⟩) rs := (h.rdf hl).rdr
/-- Its row j stored anew. -/
theorem OwR.set (h : OwR w base g n cap rs) (j : Nat) {A : Option Addr} {c : Nat} {bs : List UInt8} (hr : RdBF base w A bs) (hne : 0 < bs.length → ∀ a, A = some a → a.block ≠ g) :
    OwR (w.setCell ⟨g, j, none⟩ (.slice A bs.length c)) base g n cap (rs.set j bs) := by
  obtain ⟨h0, hc, hg, xs, h1, h2⟩ := h
  obtain ⟨h3, h4⟩ := World.ownsRow.stored h1 j (.slice A bs.length c)
  exact ⟨by rw [List.length_set]; exact h0, hc, hg, _, h3, (h2.set j hr fun hp a ha e => hne hp a ha (by injection e)).grown h4 (.inl rfl)⟩
end
/-- A block newer than g. -/
theorem OwB.newer {w : World} {B g : Nat} {A : Option Addr} {n c : Nat} {bs : List UInt8} {e : TypeId} (h : OwB e w B (.slice A n c) bs) (hg : g < B) : 0 < bs.length → ∀ a, A = some a → a.block ≠ g := fun hp a ha => by
  have := h.addr_ob hp a ha
  omega
theorem filled_new (w : World) (n : Nat) (hn : n ≤ 1000000) (N : Nat) (rs : List (List UInt8)) (hl : rs.length = n) : OwR (w.alloc (.cells (madeCells #[.slice none 0 0] n) 46)) w.heap.size w.heap.size n n (fillTo N rs 0) := by
  refine ⟨by rw [fillTo_len N rs (Nat.zero_le _)]; exact hl, Nat.le_refl _, Nat.le_refl _, _, World.ownsRow_lit w _ n (Nat.le_refl _) (by unfold maxLen; omega) (by simp [size_madeCells]), ?_⟩
  rw [toList_madeCells_one]
  subst hl
  refine ⟨by simp [fillTo], fun k hk => ⟨none, 0, ?_, ?_, ?_⟩⟩
  · have hk' : k < rs.length := by simpa [fillTo] using hk
    have e : (fillTo N rs 0).getD k [] = [] := by simp [fillTo, hk']
    rw [e, List.getElem?_replicate, if_pos hk']
    rfl
  all_goals have hk' : k < rs.length := by simpa [fillTo] using hk
  all_goals have e : (fillTo N rs 0).getD k [] = [] := by simp [fillTo, hk']
  all_goals rw [e]
  · exact ⟨by simp, fun h => by simp at h⟩
  · intro h; simp at h
set_option maxHeartbeats 800000 in
theorem filled_any (A : Option Addr) (rs : List (List UInt8)) (n cp N : Nat) (w : World) (hn : rs.length = n) (hn8 : n ≤ 1000000) (hN : N ≤ 140737488355328) (hr : RdR w w.heap.size A rs) :
    Calls Try.prog 98 #[.int .i64 (N : Int), .slice A n cp] w fun e w' => ∃ g, e = .returned (.slice (some ⟨g, 0, none⟩) n n) ∧ OwR w' w.heap.size g n n (filledB N rs) ∧ Below w.heap.size w w' := by
  subst hn
  have km := make_rows rs.length hn8
  have kb := make_bytes N hN
  have own0 := filled_new w rs.length hn8 N rs rfl
  have Hall := Lib.hid (fillTo_all N rs)
  go_enter Try.func98, Try.ntmps98
  go_wp2
  go_loopw [13] (fun i wr => ∃ k : Nat, k ≤ rs.length ∧ i = .int .i64 k ∧ OwR wr w.heap.size w.heap.size rs.length rs.length (fillTo N rs k) ∧ Below w.heap.size w wr) (fun i _ => rs.length - (intOf i).toNat)
  case atStart => exact ⟨0, Nat.zero_le _, rfl, own0, below1 _ _⟩
  case round =>
    obtain ⟨k, hk, rfl, hown, hbr⟩ := hrel
    by_cases hlt : k < rs.length
    · obtain ⟨b, off, rfl, hbb, hc⟩ := hr.2 (by omega)
      obtain ⟨A', c', h1, h2⟩ := hc k hlt
      rw [← hbr.cell (p := ⟨b, off + k, none⟩) hbb] at h1
      have h2' := (h2.below hbr (Nat.le_refl _)).more hbr.size
      have Hs := Lib.hid (fillTo_succ N rs hlt)
      generalize rs.getD k [] = row at h1 h2' Hs
      generalize fillTo N rs k = ms at hown Hs
      have i0 : (0 : Int) ≤ (k : Int) := by omega
      have i1 : (k : Int) < (rs.length : Int) := by omega
      have hs0 := hbr.size
      have hgl := hown.lt
      clear hc h2
      by_cases he : row.length = 0
      · have Hs2 := Lib.hid (show ms.set k (zeroL N) = fillTo N rs (k + 1) by rw [← Hs.out]; unfold fillR; rw [if_pos he])
        have e0 : ((row.length : Int) == 0) = true := by rw [he]; rfl
        clear he Hs
        have ho := own_make 5 wr N hN
        have hown1 := hown.below (below1 wr (.cells (zcells N) 5))
        obtain ⟨A1, c1, h3, _, h5⟩ := hown1.cell k hlt
        have hset := hown1.set k (c := N) ((ho.le hs0).rdbf) (ho.newer hgl)
        rw [show (List.replicate N (0 : UInt8)).length = N by simp, show ms.set k (List.replicate N 0) = fillTo N rs (k + 1) from Hs2.out] at hset
        have hbw := (hbr.alloc hs0 (.cells (zcells N) 5)).setCell (p := ⟨w.heap.size, k, none⟩) (Nat.le_refl _) (.slice (some ⟨wr.heap.size, 0, none⟩) N N)
        rw [World.setCell_alloc_past _ _ _ _ hgl] at hset hbw
        go_wp2
        go_roundw
        case rel => exact ⟨k + 1, by omega, by go_num, hset, hbw⟩
        case measure => simp [intOf]; omega
      · have Hs2 := Lib.hid (show ms.set k row = fillTo N rs (k + 1) by rw [← Hs.out]; unfold fillR; rw [if_neg he])
        have e0 : ((row.length : Int) == 0) = false := by rw [beq_eq_false_iff_ne]; omega
        have hp : 0 < row.length := by omega
        clear he Hs
        go_wp2_with fail
        refine (clone_any A' row row.length c' wr rfl hp h2').mono ?_
        rintro e w1 ⟨v, rfl, ho, hb⟩
        obtain ⟨A1, c1, rfl, _, _⟩ := ho.rd
        have hown1 := hown.below hb
        obtain ⟨A2, c2, h3, _, h5⟩ := hown1.cell k hlt
        have hset := hown1.set k (c := c1) ((ho.le hs0).rdbf) (ho.newer hgl)
        rw [Hs2.out] at hset
        have hbw := (hbr.trans (hb.mono hs0)).setCell (p := ⟨w.heap.size, k, none⟩) (Nat.le_refl _) (.slice A1 row.length c1)
        go_wp2
        go_roundw
        case rel => exact ⟨k + 1, by omega, by go_num, hset, hbw⟩
        case measure => simp [intOf]; omega
    · obtain rfl : k = rs.length := by omega
      rw [Hall.out] at hown
      go_wp2
      go_ret
      exact ⟨_, rfl, hown, hbr⟩
end Go.Proofs.Ytadfimimkkimmaa
end
