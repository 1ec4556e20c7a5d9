/- Texts put together: Rows2, Chg, DskMem, MapKey. -/
import Derived.Test.YtpaegibaikpikaaSbaa
import Derived.Deep.Matrix
import Derived.Deep.MidRow
import Derived.Test.YtpaegibaikpikaaProg
import Derived.Maps.OwnSet
section
namespace Go.Proofs.Ytpaegibaikpikaa
open Go.ChangeShapes Go.WideShapes Go.ChangeAt Go.RowKit

/-- As RdR; and no row is longer than its room. -/
def RdC (w : World) (B : Nat) (A : Option Addr) (rs : List (List UInt8)) : Prop :=
  rs.length ≤ 140737488355328 ∧ (0 < rs.length → ∃ b off, A = some ⟨b, off, none⟩ ∧ b < B ∧ ∀ k, k < rs.length → ∃ A' c, w.cell? ⟨b, off + k, none⟩ = some (.slice A' (rs.getD k []).length c) ∧ (rs.getD k []).length ≤ c ∧ RdB w B A' (rs.getD k []))
theorem RdC.rdr {w : World} {B : Nat} {A : Option Addr} {rs : List (List UInt8)} (h : RdC w B A rs) : RdR w B A rs :=
  ⟨h.1, fun h0 => by
    obtain ⟨b, off, e, hb, hc⟩ := h.2 h0
    refine ⟨b, off, e, hb, fun k hk => ?_⟩
    obtain ⟨A', c, h1, _, h2⟩ := hc k hk
    exact ⟨A', c, h1, h2⟩⟩
theorem RdC.keep {w w' : World} {B B' : Nat} {A : Option Addr} {rs : List (List UInt8)} (h : RdC w B A rs) (hB : B ≤ B') (hk : ∀ p : Addr, p.block < B → w'.cell? p = w.cell? p) : RdC w' B' A rs :=
  ⟨h.1, fun hn => by
    obtain ⟨b, off, e, hb, hc⟩ := h.2 hn
    refine ⟨b, off, e, by omega, fun k hk' => ?_⟩
    obtain ⟨A', c, h1, h2, h3⟩ := hc k hk'
    exact ⟨A', c, (hk ⟨b, off + k, none⟩ hb).trans h1, h2, h3.keep hB hk⟩⟩
theorem RdC.below {w w' : World} {B B' : Nat} {A : Option Addr} {rs : List (List UInt8)} (h : RdC w B A rs) (hb : Below B' w w') (hB : B ≤ B') : RdC w' B A rs := h.keep (Nat.le_refl _) fun p hp => hb.cell (by omega)
theorem RdC.more {w : World} {B B' : Nat} {A : Option Addr} {rs : List (List UInt8)} (h : RdC w B A rs) (hB : B ≤ B') : RdC w B' A rs := h.keep hB fun _ _ => rfl
/-- A slice of slices cut: s[:k], s[k:]. -/
theorem RdR.take {w : World} {B : Nat} {A : Option Addr} {rs : List (List UInt8)} (h : RdR w B A rs) (k : Nat) : RdR w B A (rs.take k) :=
  ⟨by have := h.1; simp; omega, fun hn => by
    have hn' : 0 < rs.length := by simp at hn; omega
    obtain ⟨b, off, e, hb, hc⟩ := h.2 hn'
    refine ⟨b, off, e, hb, fun j hj => ?_⟩
    have hj' : j < k ∧ j < rs.length := by simp at hj; omega
    have e : (rs.take k).getD j [] = rs.getD j [] := by simp [hj'.1]
    rw [e]
    exact hc j hj'.2⟩
theorem RdR.drop {w : World} {B : Nat} {A : Option Addr} {rs : List (List UInt8)} (h : RdR w B A rs) (k cap : Nat) (hc : rs.length ≤ cap) : RdR w B (if cap = k then A else A.map (·.add k)) (rs.drop k) :=
  ⟨by have := h.1; simp; omega, fun hn => by
    have hn' : k < rs.length := by simp at hn; omega
    obtain ⟨b, off, rfl, hb, hc⟩ := h.2 (by omega)
    rw [if_neg (by omega)]
    refine ⟨b, off + k, ?_, hb, fun j hj => ?_⟩
    · unfold Addr.add; by_cases hk0 : k = 0 <;> simp [hk0]
    · have hj' : k + j < rs.length := by simp at hj; omega
      have e : (rs.drop k).getD j [] = rs.getD (k + j) [] := by simp
      rw [Nat.add_assoc, e]
      exact hc (k + j) hj'⟩

section
variable {H : Type} {enc : TypeId × Value → H} {P : Program}
theorem weightsAll_mem {e : TypeId} {d : DataW H} {n : Nat} : ∀ {ds : List (DataW H)}, d ∈ ds → n ∈ d.weights P e → n ∈ DataW.weightsAll P e ds
  | _ :: _, .head _, h => by unfold DataW.weightsAll; exact List.mem_append_left _ h
  | _ :: _, .tail _ h', h => by unfold DataW.weightsAll; exact List.mem_append_right _ (weightsAll_mem h' h)
/-- A slice of slices of bytes that came in. -/
theorem open_rows {t e q : TypeId} (ht : P.underlying t = some (.slice e)) (he : P.underlying e = some (.slice q)) (hq : P.underlying q = some (.int .u8)) (ce : P.cellsOf e = 1) (cq : P.cellsOf q = 1) (be : P.bytesOf e = 24) (bq : P.bytesOf q = 1)
    {r : Reach} {W : World} {base : Nat} {v : Value} {d : DataW H} {p : List MemPlace}
    (hv : Value.okWide P W r base t v) (h : DataW.Trod enc P W 0 (fun _ => true) true t v d p) (hs : ∀ n ∈ d.weights P t, n ≤ reachBytes) :
    ∃ A rs cap, v = .slice A rs.length cap ∧ rs.length ≤ cap ∧ RdC W W.heap.size A rs := by
  obtain ⟨A, len, cap, rfl⟩ := okWide_slice ht hv
  obtain ⟨fuel, hf⟩ := h
  rcases Deep.open_int_rows ht he hq ce cq hf with ⟨hcs, _⟩ | ⟨a, l, c, As, L, C, Z, hcs, _, hl, hm, hd, hall⟩
  · simp [Value.cells] at hcs
    obtain ⟨rfl, rfl, rfl⟩ := hcs
    exact ⟨none, [], 0, rfl, Nat.le_refl _, by simp, fun h => by simp at h⟩
  · simp [Value.cells] at hcs
    obtain ⟨rfl, rfl, rfl⟩ := hcs
    injection hd with hd1 hd2
    have hcap : cap ≤ 140737488355328 := by
      have := hs ((len + (cap - len)) * 24) (by rw [hd1]; simp [DataW.weights, ht, be])
      simp [reachBytes] at this
      omega
    have hrow : ∀ r, r < len → C r ≤ 140737488355328 := fun r hr => by
      obtain ⟨_, h2, h3, h4, _, h6, _⟩ := hall r (by omega)
      cases hA : As r with
      | none => have := h6 hA; omega
      | some a' =>
        have hw : C r * 1 ∈ (Deep.intRow (H := H) .u8 (As r) (L r) (Z r)).weights P e := by
          rw [hA]
          simp [Deep.intRow, DataW.weights, he, lits, bq, h4]
          omega
        have := hs _ (by rw [hd1]; unfold DataW.weights; simp only [ht]; exact List.mem_cons_of_mem _ (List.mem_append_left _ (weightsAll_mem (List.mem_map.2 ⟨r, List.mem_range.2 hr, rfl⟩) hw)))
        simp [reachBytes] at this
        omega
    have hcellA : ∀ r a', r < len → As r = some a' → 0 < C r → ∃ b off, a' = ⟨b, off, none⟩ ∧ b < W.heap.size := fun r a' hr hA hp => by
      obtain ⟨_, _, _, _, _, _, h7⟩ := hall r (by omega)
      have hc0 := (h7 a' hA).2 0 hp
      obtain ⟨b, off, spot⟩ := a'
      have hspot : spot = none := by simpa [Addr.add] using World.cell?_spot hc0
      subst hspot
      exact ⟨b, off, rfl, by have := World.block_lt_of_cell? _ _ hc0; simpa [Addr.add] using this⟩
    have hZ : ∀ r, r < len → ((Z r).take (L r)).length = L r := fun r hr => by
      obtain ⟨_, h2, _, h4, _⟩ := hall r (by omega)
      rw [List.length_take, h4]; omega
    have hget : ∀ r, r < len → ((List.range len).map fun r => ((Z r).take (L r)).map fun z => UInt8.ofNat z.toNat).getD r [] = ((Z r).take (L r)).map fun z => UInt8.ofNat z.toNat := fun r hr => by
      simp [hr]
    refine ⟨some a, (List.range len).map fun r => ((Z r).take (L r)).map fun z => UInt8.ofNat z.toNat, cap, by simp, by simpa using hl, by simp; omega, fun h0 => ?_⟩
    have h0' : 0 < len := by simpa using h0
    have hc0 := (hall 0 (by omega)).1
    obtain ⟨b, off, spot⟩ := a
    have hspot : spot = none := by simpa [Addr.add] using World.cell?_spot hc0
    subst hspot
    refine ⟨b, off, rfl, by have := World.block_lt_of_cell? _ _ hc0; simpa [Addr.add] using this, fun k hk => ?_⟩
    have hk' : k < len := by simpa using hk
    obtain ⟨h1, h2, h3, h4, h5, h6, h7⟩ := hall k (by omega)
    have e1 : ((⟨b, off, none⟩ : Addr).add k) = ⟨b, off + k, none⟩ := by unfold Addr.add; by_cases hk0 : k = 0 <;> simp [hk0]
    rw [e1] at h1
    rw [hget k hk', List.length_map, hZ k hk']
    refine ⟨As k, C k, h1, h2, ?_, fun hn => ?_⟩
    · rw [List.length_map, hZ k hk']; have := hrow k hk'; omega
    · rw [List.length_map, hZ k hk'] at hn
      cases hA : As k with
      | none => have := h6 hA; omega
      | some a' =>
        obtain ⟨b2, off2, rfl, hb2⟩ := hcellA k a' hk' hA (by omega)
        refine ⟨b2, off2, rfl, hb2, fun j hj => ?_⟩
        rw [List.length_map, hZ k hk'] at hj
        have hcj := (h7 _ hA).2 j (by omega)
        have e2 : ((⟨b2, off2, none⟩ : Addr).add j) = ⟨b2, off2 + j, none⟩ := by unfold Addr.add; by_cases hk0 : j = 0 <;> simp [hk0]
        rw [e2] at hcj
        rw [hcj]
        have hmem : (Z k).getD j 0 ∈ Z k := by simp [show j < (Z k).length by omega]
        have hw := bounds_u8 (h5 _ hmem)
        have e4 : (Z k)[j]? = some ((Z k).getD j 0) := by rw [List.getD_eq_getElem?_getD, List.getElem?_eq_getElem (by omega)]; rfl
        have e3 : (((Z k).take (L k)).map fun z => UInt8.ofNat z.toNat).getD j 0 = UInt8.ofNat ((Z k).getD j 0).toNat := by
          rw [List.getD_eq_getElem?_getD, List.getElem?_map, List.getElem?_take, if_pos hj, e4]
          rfl
        rw [e3, UInt8.toNat_ofNat', Nat.mod_eq_of_lt (by omega)]
        congr 2
        omega
end

/-- Values that read as rows, none of them in block ob. -/
def RowsX (w : World) (B : Nat) (ob : Option Nat) (xs : List Value) (rs : List (List UInt8)) : Prop :=
  xs.length = rs.length ∧ ∀ k, k < rs.length → ∃ A c, xs[k]? = some (.slice A (rs.getD k []).length c) ∧ RdB w B A (rs.getD k []) ∧ (0 < (rs.getD k []).length → ∀ a, A = some a → some a.block ≠ ob)
theorem RowsX.nil (w : World) (B : Nat) (ob : Option Nat) : RowsX w B ob [] [] := ⟨rfl, fun k hk => by simp at hk⟩
theorem RowsX.rowsV {w : World} {B : Nat} {ob : Option Nat} {xs : List Value} {rs : List (List UInt8)} (h : RowsX w B ob xs rs) : RowsV w B xs rs :=
  ⟨h.1, fun k hk => by
    obtain ⟨A, c, h1, h2, _⟩ := h.2 k hk
    exact ⟨A, c, h1, h2⟩⟩
theorem RowsX.below {w w' : World} {ob : Option Nat} {xs : List Value} {rs : List (List UInt8)} (h : RowsX w w.heap.size ob xs rs) (hb : Below w.heap.size w w') : RowsX w' w'.heap.size ob xs rs :=
  ⟨h.1, fun k hk => by
    obtain ⟨A, c, h1, h2, h3⟩ := h.2 k hk
    exact ⟨A, c, h1, (h2.below hb (Nat.le_refl _)).more hb.size, h3⟩⟩
theorem RowsX.grown {w w' : World} {ob ob' : Option Nat} {xs : List Value} {rs : List (List UInt8)} (h : RowsX w w.heap.size ob xs rs) (hg : w.grownBy w' ob) (ho : ob' = ob ∨ ob' = some w.heap.size) : RowsX w' w'.heap.size ob' xs rs :=
  ⟨h.1, fun k hk => by
    obtain ⟨A, c, h1, h2, h3⟩ := h.2 k hk
    refine ⟨A, c, h1, ⟨h2.1, fun h0 => ?_⟩, fun h0 a ha => ?_⟩
    · obtain ⟨b, off, e, hb, hc⟩ := h2.2 h0
      have hne := h3 h0 _ e
      refine ⟨b, off, e, by have := hg.size; omega, fun j hj => ?_⟩
      rw [← hc j hj]
      exact World.cell?_of_block (w := w) (hg.block b hb hne)
    · rcases ho with rfl | rfl
      · exact h3 h0 a ha
      · obtain ⟨b, off, e, hb, hc⟩ := h2.2 h0
        rw [ha] at e
        injection e with e
        subst e
        intro e
        injection e with e
        simp at e
        omega⟩
theorem RowsX.snoc {w : World} {B : Nat} {ob : Option Nat} {xs : List Value} {rs : List (List UInt8)} (h : RowsX w B ob xs rs) {A : Option Addr} {c : Nat} {bs : List UInt8} (hr : RdB w B A bs) (hne : 0 < bs.length → ∀ a, A = some a → some a.block ≠ ob) : RowsX w B ob (xs ++ [.slice A bs.length c]) (rs ++ [bs]) :=
  ⟨by simp [h.1], fun k hk => by
    by_cases hk2 : k < rs.length
    · obtain ⟨A', c', h1, h2, h3⟩ := h.2 k hk2
      have e : (rs ++ [bs]).getD k [] = rs.getD k [] := by simp [List.getElem?_append_left hk2]
      rw [e]
      exact ⟨A', c', by rw [List.getElem?_append_left (by rw [h.1]; exact hk2)]; exact h1, h2, h3⟩
    · have hk3 : k = rs.length := by simp at hk; omega
      subst hk3
      have e : (rs ++ [bs]).getD rs.length [] = bs := by simp
      rw [e]
      exact ⟨A, c, by rw [← h.1]; simp, hr, hne⟩⟩
/-- An own row of slices, read as rows, with its room. -/
theorem rdr_ownC {w : World} {base : Nat} {e : TypeId} {v : Value} {n : Nat} {xs : List Value} {rs : List (List UInt8)} (h : w.ownsRow base e 1 v n xs) (hl : rs.length ≤ 140737488355328) (hx : RowsV w w.heap.size xs rs) :
    ∃ A cap, v = .slice A rs.length cap ∧ rs.length ≤ cap ∧ RdR w w.heap.size A rs := by
  obtain ⟨A, cap, hv, hr⟩ := rdr_own h (Nat.le_refl _) hl hx
  refine ⟨A, cap, hv, ?_, hr⟩
  have hn : n = rs.length := by have := h.1; have := hx.1; omega
  rcases h.2 with ⟨h1, h0⟩ | ⟨g, cap', cur, h1, _, _, h3, _⟩
  · rw [hv] at h1; injection h1 with _ _ h1; omega
  · rw [hv] at h1; injection h1 with _ _ h1; omega
/-- A block of bytes that a literal made. -/
theorem rdb_lit {w : World} {g : Nat} {cs : Array Value} {t : TypeId} {f : Nat × Nat} {bs : List UInt8} (hg : w.heap[g]? = some (.cells cs t f)) (hl : bs.length ≤ 140737488355328) (hcs : cs.toList = bs.map bv) : RdB w w.heap.size (some ⟨g, 0, none⟩) bs :=
  rdb_block hg (Array.getElem?_eq_some_iff.1 hg).1 hl fun k hk => by
    rw [← Array.getElem?_toList, hcs, List.getElem?_map, List.getElem?_eq_getElem hk, List.getD_eq_getElem?_getD, List.getElem?_eq_getElem hk]
    rfl
theorem hp_get (w : World) (o : Obj) (g : Nat) : (w.alloc o).heap[g]? = if g = w.heap.size then some o else w.heap[g]? := by
  split
  · next h => exact hp_new w o g h
  · next h =>
    by_cases h2 : g < w.heap.size
    · exact hp_old w o g h2
    · rw [Array.getElem?_eq_none (by simp; omega), Array.getElem?_eq_none (by omega)]
end Go.Proofs.Ytpaegibaikpikaa
end
section
namespace Go.Proofs.Ytpaegibaikpikaa
open Go.RowKit

structure Chg (F : Nat → Prop) (w w' : World) : Prop where
  os : w'.os = w.os
  tape : w'.tape = w.tape
  output : w'.output = w.output
  size : w.heap.size ≤ w'.heap.size
  block : ∀ k, k < w.heap.size → ¬ F k → w'.heap[k]? = w.heap[k]?
section
variable {F G : Nat → Prop} {a b c : World}
theorem Chg.refl (F : Nat → Prop) (w : World) : Chg F w w := ⟨rfl, rfl, rfl, Nat.le_refl _, fun _ _ _ => rfl⟩
theorem Chg.trans (h : Chg F a b) (k : Chg G b c) (hs : ∀ i, i < a.heap.size → G i → F i) : Chg F a c :=
  ⟨k.os.trans h.os, k.tape.trans h.tape, k.output.trans h.output, Nat.le_trans h.size k.size, fun i hi hn => (k.block i (Nat.lt_of_lt_of_le hi h.size) fun hg => hn (hs i hi hg)).trans (h.block i hi hn)⟩
theorem Chg.mono (h : Chg F a b) (hs : ∀ i, i < a.heap.size → F i → G i) : Chg G a b := ⟨h.os, h.tape, h.output, h.size, fun i hi hn => h.block i hi fun hf => hn (hs i hi hf)⟩
theorem chg_below (F : Nat → Prop) (h : Below a.heap.size a b) : Chg F a b := ⟨h.os, h.tape, h.output, h.size, fun i hi _ => h.block i hi⟩
theorem chg_grown {row : Option Nat} (h : a.grownBy b row) : Chg (fun k => row = some k) a b := ⟨h.os, h.tape, h.output, h.size, fun i hi hn => h.block i hi fun e => hn e.symm⟩
theorem Chg.below {B : Nat} (h : Chg F a b) (hF : ∀ k, F k → B ≤ k) (hB : B ≤ a.heap.size) : Below B a b := ⟨h.os, h.tape, h.output, h.size, fun i hi => h.block i (by omega) fun hf => by have := hF i hf; omega⟩
theorem Chg.below' {B : Nat} (h : Chg F a b) (hF : ∀ k, k < B → ¬ F k) (hB : B ≤ a.heap.size) : Below B a b := ⟨h.os, h.tape, h.output, h.size, fun i hi => h.block i (by omega) (hF i hi)⟩
theorem Chg.drewN (h : Chg F a b) (n : Nat) : Chg F a (b.drewN n) := ⟨h.os, h.tape, h.output, h.size, h.block⟩
theorem Chg.ofDrew (h : Chg F a.drew b) : Chg F a b := ⟨h.os, h.tape, h.output, h.size, h.block⟩
theorem Chg.alloc (h : Chg F a b) (o : Obj) : Chg F a (b.alloc o) := h.trans (chg_below F (below1 b o)) fun _ _ h => h
theorem Chg.ofBelow (h : Chg F a b) {B : Nat} (k : Below B b c) (hB : a.heap.size ≤ B) : Chg F a c :=
  ⟨k.os.trans h.os, k.tape.trans h.tape, k.output.trans h.output, Nat.le_trans h.size k.size, fun i hi hn => (k.block i (by omega)).trans (h.block i hi hn)⟩
end

/-- An own row hangs on its own block alone. -/
theorem own_heap {w w' : World} {B : Nat} {e : TypeId} {size : Nat} {v : Value} {n : Nat} {xs : List Value} (h : w.ownsRow B e size v n xs) (hk : ∀ k, v.ownBlock = some k → w'.heap[k]? = w.heap[k]?) : w'.ownsRow B e size v n xs := by
  refine ⟨h.1, ?_⟩
  rcases h.2 with h1 | ⟨g, cap, cur, rfl, h2, h3, r⟩
  · exact .inl h1
  · exact .inr ⟨g, cap, cur, rfl, h2, (hk g rfl).trans h3, r⟩
theorem own_chg {F : Nat → Prop} {w w' : World} {B : Nat} {e : TypeId} {size : Nat} {v : Value} {n : Nat} {xs : List Value} (h : w.ownsRow B e size v n xs) (hc : Chg F w w') (hn : ∀ k, v.ownBlock = some k → ¬ F k) : w'.ownsRow B e size v n xs :=
  own_heap h fun k hk => hc.block k (h.lt k hk).2 (hn k hk)
theorem OwB.chg {F : Nat → Prop} {e : TypeId} {w w' : World} {B : Nat} {v : Value} {bs : List UInt8} (h : OwB e w B v bs) (hc : Chg F w w') (hn : ∀ k, v.ownBlock = some k → ¬ F k) : OwB e w' B v bs := ⟨own_chg h.1 hc hn, h.2⟩

/-- A row of cells with some set. -/
def spl (l : List Value) (o : Nat) (vs : List Value) : List Value := l.take o ++ vs ++ l.drop (o + vs.length)
theorem spl_mid {A X C vs : List Value} {o : Nat} (ho : A.length = o) (hx : X.length = vs.length) : spl (A ++ X ++ C) o vs = A ++ vs ++ C := by
  unfold spl
  subst ho
  have e1 : (A ++ X ++ C).take A.length = A := by rw [List.append_assoc, List.take_left]
  have e2 : (A ++ X ++ C).drop (A.length + vs.length) = C := by rw [← hx, ← List.length_append, List.drop_left]
  rw [e1, e2]
theorem spl_len {l vs : List Value} {o : Nat} (h : o + vs.length ≤ l.length) : (spl l o vs).length = l.length := by
  unfold spl; simp; omega

section
variable {P : Program}
theorem run_storeVar_blk (w : World) (b o : Nat) (ty : TypeId) (v : Value) (cur : List Value) (t : TypeId) (hb : w.heap[b]? = some (.cells cur.toArray t (0, 0))) (hi : (P.info? ty).map (·.size) = some v.cells.size)
    (ho : o + v.cells.size ≤ cur.length) (h1 : ∀ u ∈ v.cells.toList, u.oneCell' = true) : (storeVar ty ⟨b, o, none⟩ v).run P w = .ok () (w.setRow b (spl cur o v.cells.toList).toArray) := by
  have h := run_storeCells_at P b o t v.cells.toList 0 cur.toArray w hb (by simpa using ho) h1
  cases hq : P.info? ty with
  | none => simp [hq] at hi
  | some i =>
    have hs : v.cells.size = i.size := by simp [hq] at hi; omega
    simp only [Nat.add_zero] at h
    simp [storeVar, sizeOf, typeInfo, hq, hs, h, spl]
theorem wpList_store_blk {ops : Array Oper} {rest : List Oper} {op : Oper} {a : Act} {w : World} {Q : Exit → Act → World → Prop} (hgd : op.guard = none) (ty : TypeId) (x y : Operand) (ho : op.op = .store ty x y)
    (b o : Nat) (v : Value) (hx : a.eval x = .pointer (some ⟨b, o, none⟩)) (hy : a.eval y = v) (cur : List Value) (t : TypeId) (hb : w.heap[b]? = some (.cells cur.toArray t (0, 0)))
    (vs : List Value) (hvs : v.cells = vs.toArray) (n : Nat) (hn : vs.length = n) (hi : (P.info? ty).map (·.size) = some n) (hl : o + n ≤ cur.length) (h1 : ∀ u ∈ vs, u.oneCell' = true)
    (new : List Value) (hnew : spl cur o vs = new)
    (h : ∀ w', w'.heap[b]? = some (.cells new.toArray t (0, 0)) → w.grownBy w' (some b) → wpList P ops Q rest (a.put op.dst undef) w') : wpList P ops Q (op :: rest) a w := by
  subst hn hnew
  refine wpList_plain hgd fun K hK => ?_
  have hr := run_storeVar_blk (P := P) w b o ty v cur t hb (by rw [hi, hvs]; rfl) (by rw [hvs]; exact hl) (by rw [hvs]; exact h1)
  unfold Oper.wp execOp
  simp only [ho, hx, hy, Instr.storeAt, Instr.sureAddr, Sem.run_bind, Sem.run_pure, Result.andThen_ok, hr]
  refine hK _ _ (h _ ?_ ?_)
  · rw [hvs]; exact setRow_heap w b _ _ t (0, 0) hb
  · exact ⟨rfl, rfl, rfl, by simp, fun k _ hk => setRow_other w b k _ (fun e => hk (by rw [e]))⟩
theorem wpList_build_run {ops : Array Oper} {rest : List Oper} {op : Oper} {a : Act} {w : World} {Q : Exit → Act → World → Prop} (hgd : op.guard = none) (t : TypeId) (parts : Array (Nat × Operand)) (ho : op.op = .build t parts)
    (ps : Array (Nat × Value)) (hps : parts.map (fun (i, x) => (i, a.eval x)) = ps) (v : Value) (hr : (Instr.build t ps).run P w = .ok v w)
    (h : wpList P ops Q rest (a.put op.dst v) w) : wpList P ops Q (op :: rest) a w := by
  subst hps
  refine wpList_plain hgd fun K hK => ?_
  unfold Oper.wp execOp
  simp only [ho, Sem.run_bind, Sem.run_pure, Result.andThen_ok, hr]
  exact hK _ _ h
end
end Go.Proofs.Ytpaegibaikpikaa
end
section
namespace Go.Proofs.Ytpaegibaikpikaa
open Go.RowKit

def dcells (S N : List UInt8) (pv : Value) (f : Bool) : List Value := S.map bv ++ N.map bv ++ ([pv, Value.bool f] : List Value)
def wcell (p : Nat × List UInt8) : List Value := Value.int .i64 (p.1 : Int) :: p.2.map bv
def wcells (ps : List (Nat × List UInt8)) : List Value := ps.flatMap wcell
/-- The disk D lies at block b; its pending writes are the own row pv. -/
structure DskAt (w : World) (B b : Nat) (pv : Value) (D : Dsk) : Prop where
  blk : w.heap[b]? = some (.cells (dcells D.S D.now pv D.f).toArray 99 (0, 0))
  own : w.ownsRow B 105 33 pv D.ps.length (wcells D.ps)
  le : B ≤ b
  ne : pv.ownBlock ≠ some b
  ok : D.Ok
/-- The blocks of a disk. -/
def DF (b : Nat) (pv : Value) (k : Nat) : Prop := k = b ∨ pv.ownBlock = some k
/-- Its pending writes lie where they lay, or in new memory. -/
def NewOr (w : World) (pv pv' : Value) : Prop := ∀ k, pv'.ownBlock = some k → pv.ownBlock = some k ∨ w.heap.size ≤ k
section
variable {w w' : World} {B b : Nat} {pv : Value} {D : Dsk}
theorem DskAt.lt (h : DskAt w B b pv D) : b < w.heap.size := (Array.getElem?_eq_some_iff.1 h.blk).1
theorem DskAt.plt (h : DskAt w B b pv D) : ∀ k, pv.ownBlock = some k → B ≤ k ∧ k < w.heap.size := h.own.lt
theorem DskAt.heap (h : DskAt w B b pv D) (hb : w'.heap[b]? = w.heap[b]?) (hp : ∀ k, pv.ownBlock = some k → w'.heap[k]? = w.heap[k]?) : DskAt w' B b pv D :=
  ⟨hb.trans h.blk, own_heap h.own hp, h.le, h.ne, h.ok⟩
theorem DskAt.chg {F : Nat → Prop} (h : DskAt w B b pv D) (hc : Chg F w w') (hb : ¬ F b) (hp : ∀ k, pv.ownBlock = some k → ¬ F k) : DskAt w' B b pv D :=
  h.heap (hc.block b h.lt hb) fun k hk => hc.block k (h.plt k hk).2 (hp k hk)
theorem DskAt.below (h : DskAt w B b pv D) (hc : Below w.heap.size w w') : DskAt w' B b pv D :=
  h.heap (hc.block b h.lt) fun k hk => hc.block k (h.plt k hk).2
theorem DskAt.mono {B' : Nat} (h : DskAt w B b pv D) (hB : B' ≤ B) : DskAt w B' b pv D :=
  ⟨h.blk, by
    refine ⟨h.own.1, ?_⟩
    rcases h.own.2 with h1 | ⟨g, cap, cur, h1, h2, r⟩
    · exact .inl h1
    · exact .inr ⟨g, cap, cur, h1, by omega, r⟩, by have := h.le; omega, h.ne, h.ok⟩
theorem DskAt.drewN (h : DskAt w B b pv D) (n : Nat) : DskAt (w.drewN n) B b pv D := ⟨h.blk, h.own, h.le, h.ne, h.ok⟩
theorem DF.le (h : DskAt w B b pv D) {k : Nat} (hk : DF b pv k) : B ≤ k := by
  rcases hk with rfl | hk
  · exact h.le
  · exact (h.plt k hk).1
theorem DF.new {pv' : Value} (hn : NewOr w pv pv') {k : Nat} (hk : DF b pv' k) (hlt : k < w.heap.size) : DF b pv k := by
  rcases hk with h | h
  · exact .inl h
  · rcases hn k h with h1 | h1
    · exact .inr h1
    · omega
theorem NewOr.refl (w : World) (pv : Value) : NewOr w pv pv := fun _ h => .inl h
theorem NewOr.none (w : World) (pv : Value) : NewOr w pv (.slice none 0 0) := fun _ h => by simp [Value.ownBlock] at h

theorem dcells_len {S N : List UInt8} (hS : S.length = 1664) (hN : N.length = 1664) (pv : Value) (f : Bool) : (dcells S N pv f).length = 3330 := by
  unfold dcells; simp [hS, hN]
theorem wcell_len {p : Nat × List UInt8} (h : p.2.length = 32) : (wcell p).length = 33 := by unfold wcell; simp [h]
theorem wcells_snoc (ps : List (Nat × List UInt8)) (p : Nat × List UInt8) : wcells (ps ++ [p]) = wcells ps ++ wcell p := by unfold wcells; simp
theorem dcells_pv {S N : List UInt8} (hS : S.length = 1664) (hN : N.length = 1664) (pv : Value) (f : Bool) : (dcells S N pv f)[3328]? = some pv := by
  unfold dcells
  rw [List.getElem?_append_right (by simp [hS, hN])]
  simp [hS, hN]
theorem dcells_f {S N : List UInt8} (hS : S.length = 1664) (hN : N.length = 1664) (pv : Value) (f : Bool) : (dcells S N pv f)[3329]? = some (.bool f) := by
  unfold dcells
  rw [List.getElem?_append_right (by simp [hS, hN])]
  simp [hS, hN]
theorem dcells_S {S N : List UInt8} (pv : Value) (f : Bool) {i : Nat} (hi : i < S.length) : (dcells S N pv f)[i]? = S[i]?.map bv := by
  unfold dcells
  rw [List.append_assoc, List.getElem?_append_left (by simpa using hi), List.getElem?_map]
theorem dcells_N {S N : List UInt8} (hS : S.length = 1664) (pv : Value) (f : Bool) {i : Nat} (hi : i < N.length) : (dcells S N pv f)[1664 + i]? = N[i]?.map bv := by
  unfold dcells
  rw [List.append_assoc, List.getElem?_append_right (by simp [hS]), List.getElem?_append_left (by simp [hS]; omega)]
  simp [hS]
section
variable {S N : List UInt8} {f : Bool} {t : TypeId}
theorem cell_dpv (hb : w.heap[b]? = some (.cells (dcells S N pv f).toArray t (0, 0))) (hS : S.length = 1664) (hN : N.length = 1664) : w.cell? ⟨b, 3328, none⟩ = some pv := by
  rw [cell_of_row w b _ _ t (0, 0) hb, List.getElem?_toArray]; exact dcells_pv hS hN pv f
theorem cell_df (hb : w.heap[b]? = some (.cells (dcells S N pv f).toArray t (0, 0))) (hS : S.length = 1664) (hN : N.length = 1664) : w.cell? ⟨b, 3329, none⟩ = some (.bool f) := by
  rw [cell_of_row w b _ _ t (0, 0) hb, List.getElem?_toArray]; exact dcells_f hS hN pv f
theorem range_S (hb : w.heap[b]? = some (.cells (dcells S N pv f).toArray t (0, 0))) : w.rangeAt b 0 (S.map bv) := fun j v hj => by
  have hl : j < S.length := by have := (List.getElem?_eq_some_iff.1 hj).1; simpa using this
  rw [cell_of_row w b _ _ t (0, 0) hb, List.getElem?_toArray, Nat.zero_add, dcells_S pv f hl, ← hj, List.getElem?_map]
theorem range_N (hb : w.heap[b]? = some (.cells (dcells S N pv f).toArray t (0, 0))) (hS : S.length = 1664) : w.rangeAt b 1664 (N.map bv) := fun j v hj => by
  have hl : j < N.length := by have := (List.getElem?_eq_some_iff.1 hj).1; simpa using this
  rw [cell_of_row w b _ _ t (0, 0) hb, List.getElem?_toArray, dcells_N hS pv f hl, ← hj, List.getElem?_map]
theorem range_sec {L : List UInt8} {o k : Nat} (h : w.rangeAt b o (L.map bv)) : w.rangeAt b (o + k * 32) ((secAt L k).map bv) := fun j v hj => by
  rw [List.getElem?_map, secAt_get] at hj
  split at hj
  · rw [Nat.add_assoc]
    exact h (k * 32 + j) v (by rw [List.getElem?_map]; exact hj)
  · cases hj
theorem spl_S {S' : List UInt8} (hl : S'.length = S.length) : spl (dcells S N pv f) 0 (S'.map bv) = dcells S' N pv f := by
  unfold dcells
  rw [List.append_assoc, List.append_assoc]
  exact spl_mid (A := []) (X := S.map bv) (C := N.map bv ++ [pv, Value.bool f]) (vs := S'.map bv) (o := 0) rfl (by simp [hl])
theorem spl_N {N' : List UInt8} (hS : S.length = 1664) (hl : N'.length = N.length) : spl (dcells S N pv f) 1664 (N'.map bv) = dcells S N' pv f := by
  unfold dcells
  rw [spl_mid (by simp [hS]) (by simp [hl])]
theorem spl_pv {pv' : Value} (hS : S.length = 1664) (hN : N.length = 1664) : spl (dcells S N pv f) 3328 [pv'] = dcells S N pv' f := by
  unfold dcells
  rw [show (S.map bv ++ N.map bv ++ [pv, Value.bool f]) = S.map bv ++ N.map bv ++ [pv] ++ [Value.bool f] by simp]
  exact (spl_mid (A := S.map bv ++ N.map bv) (X := [pv]) (C := [Value.bool f]) (vs := [pv']) (o := 3328) (by simp [hS, hN]) rfl).trans (by simp)
theorem map_put {L x : List UInt8} {k : Nat} : (putAt L k x).map bv = (L.take (k * 32)).map bv ++ x.map bv ++ (L.drop (k * 32 + 32)).map bv := by unfold putAt; simp
theorem map_sec {L : List UInt8} {k : Nat} : L.map bv = (L.take (k * 32)).map bv ++ (secAt L k).map bv ++ (L.drop (k * 32 + 32)).map bv := by
  rw [← map_put, put_sec]
theorem spl_Ssec {x : List UInt8} {k : Nat} (hS : S.length = 1664) (hk : k < 52) (hx : x.length = 32) : spl (dcells S N pv f) (k * 32) (x.map bv) = dcells (putAt S k x) N pv f := by
  have hs : (secAt S k).length = 32 := secAt_len (by omega)
  unfold dcells
  rw [map_put, map_sec (L := S) (k := k)]
  generalize hT : (S.drop (k * 32 + 32)).map bv = T
  rw [List.append_assoc (_ ++ _) T, List.append_assoc (_ ++ _) (T ++ _), List.append_assoc (_ ++ _) T, List.append_assoc (_ ++ _) (T ++ _)]
  exact spl_mid (by rw [List.length_map, List.length_take]; omega) (by simp [hs, hx])
theorem spl_Nsec {x : List UInt8} {k : Nat} (hS : S.length = 1664) (hN : N.length = 1664) (hk : k < 52) (hx : x.length = 32) : spl (dcells S N pv f) (1664 + k * 32) (x.map bv) = dcells S (putAt N k x) pv f := by
  have hs : (secAt N k).length = 32 := secAt_len (by omega)
  unfold dcells
  rw [map_put, map_sec (L := N) (k := k)]
  generalize hT : (N.drop (k * 32 + 32)).map bv = T
  generalize hT2 : (N.take (k * 32)).map bv = T2
  have e : ∀ X : List Value, S.map bv ++ (T2 ++ X ++ T) ++ [pv, Value.bool f] = (S.map bv ++ T2) ++ X ++ (T ++ [pv, Value.bool f]) := fun X => by simp
  rw [e, e]
  exact spl_mid (by rw [List.length_append, List.length_map, ← hT2, List.length_map, List.length_take]; omega) (by simp [hs, hx])
end
end
theorem info_dsk : (Try.prog.info? 99).map (fun i => (i.zero, i.size)) = some (some (.agg (dcells (List.replicate 1664 0) (List.replicate 1664 0) (.slice none 0 0) false).toArray), 3330) := by kernel_rfl
theorem size_arr : (Try.prog.info? 96).map (·.size) = some 1664 := by kernel_rfl
theorem size_sec : (Try.prog.info? 95).map (·.size) = some 32 := by kernel_rfl
theorem size_pend : (Try.prog.info? 97).map (·.size) = some 1 := by kernel_rfl
theorem size_dsk : (Try.prog.info? 99).map (·.size) = some 3330 := by kernel_rfl
theorem build_new (w : World) : (Instr.build 99 #[]).run Try.prog w = .ok (.agg (dcells (List.replicate 1664 0) (List.replicate 1664 0) (.slice none 0 0) false).toArray) w := by kernel_rfl
theorem build_failed (w : World) : (Instr.build 99 #[(3, .bool true)]).run Try.prog w = .ok (.agg (dcells (List.replicate 1664 0) (List.replicate 1664 0) (.slice none 0 0) true).toArray) w := by kernel_rfl
end Go.Proofs.Ytpaegibaikpikaa
end
section
namespace Go.Proofs.Ytpaegibaikpikaa
open Go.RowKit

theorem keyI : Maps.Keyed Try.prog 3 := Maps.int_keyed Try.underlying3
theorem keyI_of (x : Int) (hx : (Lit.int .i64 x).wf = true) : keyOf Try.prog 3 (.int .i64 x) = some (.int .i64 x) := Maps.keyOf_int_mk Try.underlying3 hx
theorem zeroInt (w : World) : (zeroValue 3).run Try.prog w = .ok (.int .i64 0) w := by kernel_rfl
theorem lit_int_inj {a b : Int} (h : Lit.int .i64 a = .int .i64 b) : a = b := by injection h
theorem keyLitI (x : Int) : WideAt.IsKeyLit (.int .i64 x) := trivial
def putF {α : Type} (F : Int → Option α) (k : Int) (v : α) : Int → Option α := fun x => if x = k then some v else F x
end Go.Proofs.Ytpaegibaikpikaa
end
