/- Texts put together: Law, Rows2, GeoMath, CrcMath, CrcFind, SupMath, RecMath. -/
import Derived.Test.YtoomdgidpplpfaaDoorLbaa
import Derived.ProofKit
import Derived.OpenShut
import Derived.Carry
import Derived.SizedLaws
import GoSem.ClaimSeven
import Derived.Deep.DeepHandedRow
import Derived.Lib.LaidTab
import Derived.Deep.Matrix
import Derived.WalkKit
section
namespace Go.Proofs.YtoomdgidpplpfaaDoor
open Go.ChangeShapes Go.WideShapes Go.ChangeAt Go.RowKit

section
variable {H : Type} {enc : TypeId × Value → H} {P : Program}

/-- All arguments read behind the call as they did, where nothing old has turned. -/
theorem args_again (hl : laidOutB P = true) {W W' : World} (hb : Below W.heap.size W W') :
    ∀ {ts : List TypeId} {vs : List Value} {ds : List (DataW H)} {p : List MemPlace}, (∀ t ∈ ts, P.readableRec t = true ∧ t < P.types.size) →
      DataW.TrodAll enc P W 0 (fun _ => true) true ts vs ds p → (∀ x ∈ p, x.block < W.heap.size) → DataW.TrodAll enc P W' 0 (fun b => decide (b < W.heap.size)) true ts vs ds p
  | [], _, _, _, _, h, _ => by
    obtain ⟨rfl, rfl, rfl⟩ := trodAll_nil h
    exact trodAll_mk0
  | t :: ts, _, _, _, hts, h, hlt => by
    obtain ⟨v, vs1, d, ds1, a, b, rfl, rfl, rfl, h1, h2⟩ := trodAll_cons h
    have ht := hts t (by simp)
    exact trodAll_cons_mk (Below.trod hl ht.1 ht.2 h1 hb fun x hx => hlt x (by simp [hx])) (args_again hl hb (fun t' ht' => hts t' (by simp [ht'])) h2 fun x hx => hlt x (by simp [hx]))

/-- A law's row behind the walk: true came back, and nothing old has turned. -/
theorem law_post {f : Func} {s : ChangeSpec} {W W' : World} {args : Array Value} {ds gs : List (DataW H)} {before : List MemPlace} {tb : TypeId} (hl : laidOutB P = true)
    (hts0 : (f.params.toList.all fun t => P.readableRec t && decide (t < P.types.size)) = true) (hv : s.vars = []) (hr : f.resultTypes = #[tb]) (htb : P.underlying tb = some .bool)
    (hfn : ∀ l : List (DataW H), l.length = f.params.size → (s.fn H l).results = [.lit (.bool true)] ∧ (s.fn H l).args = l ∧ (s.fn H l).vars = [])
    (hW : DataW.Whole enc P f.params.toList s.vars false W args.toList ds gs before) (hb : Below W.heap.size W W') :
    ∃ v, Ending.returned (.bool true) = .returned v ∧ s.post enc P f false true false false W args v W' := by
  have hts : ∀ t ∈ f.params.toList, P.readableRec t = true ∧ t < P.types.size := fun t ht => by simpa using List.all_eq_true.1 hts0 t ht
  have hW' := hW
  obtain ⟨p, q, hA, hV, rfl, hfz, hnd⟩ := hW
  rw [hv] at hV
  obtain ⟨rfl, rfl⟩ := trodVars_none hV
  have hlen : ds.length = f.params.size := by
    have : ∀ {ts : List TypeId} {vs : List Value} {ds : List (DataW H)} {p : List MemPlace}, DataW.TrodAll enc P W 0 (fun _ => true) true ts vs ds p → ds.length = ts.length := by
      intro ts
      induction ts with
      | nil => intro vs ds p h; obtain ⟨rfl, rfl, rfl⟩ := trodAll_nil h; rfl
      | cons t ts ih => intro vs ds p h; obtain ⟨v, vs1, d, ds1, a, b, rfl, rfl, rfl, h1, h2⟩ := trodAll_cons h; simp [ih h2]
    simpa using this hA
  obtain ⟨e1, e2, e3⟩ := hfn ds hlen
  have hlt : ∀ x ∈ p ++ [], x.block < W.heap.size := fun x hx => by simpa using hW'.lt x hx
  refine ⟨_, rfl, _, _, _, [], p, [], hW', ?_, ?_, ?_, hb.frame _, fun h => by cases h⟩
  · rw [List.append_nil, e1, hr]
    exact trodAll_mk1 (shut_bool htb _)
  · rw [List.append_nil, e2]
    exact args_again hl hb hts hA (by simpa using hlt)
  · rw [List.append_nil, e3, hv]
    rfl

theorem byte_of {z : Int} (h : 0 ≤ z ∧ z ≤ 255) : ∃ b : UInt8, z = (b.toNat : Int) := ⟨UInt8.ofNat z.toNat, by rw [UInt8.toNat_ofNat', Nat.mod_eq_of_lt (by omega)]; omega⟩
/-- No parameter wants a stand-in: what a card asks. -/
theorem plain_of {name : String} {f0 : FuncId} {fn0 : Func} (h1 : P.funcNamed name = some f0) (h2 : P.funcs[f0]? = some fn0) (h3 : P.looks [] = false) (h4 : (fn0.params.toList.all fun t => !P.wantsStandIn t) = true) (f : FuncId) (fn : Func)
    (hf : P.funcNamed name = some f) (hfn : P.funcs[f]? = some fn) : false = P.looks [] ∧ ∀ (j : Nat) t, fn.params[j]? = some t → P.wantsStandIn t = false := by
  obtain rfl : f = f0 := Option.some.inj (hf.symm.trans h1)
  obtain rfl : fn = fn0 := Option.some.inj (hfn.symm.trans h2)
  refine ⟨h3.symm, fun j t ht => ?_⟩
  have := List.all_eq_true.1 h4 t (by simpa using Array.mem_of_getElem? ht)
  simpa using this

/-- A slice of bytes that came in. -/
theorem open_bytes {t e : TypeId} (ht : P.underlying t = some (.slice e)) (he : P.underlying e = some (.int .u8)) (hc : P.cellsOf e = 1) (hby : P.bytesOf e = 1) {r : Reach} {W : World} {base : Nat} {v : Value} {d : DataW H} {p : List MemPlace}
    (hv : Value.okWide P W r base t v) (h : DataW.Trod enc P W 0 (fun _ => true) true t v d p) (hs : ∀ n ∈ d.weights P t, n ≤ reachBytes) :
    ∃ A bs cap, v = .slice A bs.length cap ∧ bs.length ≤ cap ∧ cap ≤ 140737488355328 ∧ RdB W W.heap.size A bs := by
  obtain ⟨A, len, cap, rfl⟩ := okWide_slice ht hv
  obtain ⟨fuel, hf⟩ := h
  rcases open_ints ht he hc hf with ⟨hcs, _⟩ | ⟨x, l, c, zs, hcs, _, hl, hm, hz, hd, hcell, hwz⟩
  · simp [Value.cells] at hcs
    obtain ⟨rfl, rfl, rfl⟩ := hcs
    exact ⟨none, [], 0, rfl, Nat.le_refl _, by omega, RdB.nil _ _ _⟩
  · simp [Value.cells] at hcs
    obtain ⟨rfl, rfl, rfl⟩ := hcs
    simp only [if_true] at hz
    have hcap : cap ≤ 140737488355328 := by
      injection hd with hd1 hd2
      have := hs ((((zs.take len).map fun z => (DataW.lit (.int .u8 z) : DataW H)).length + ((zs.drop len).map fun z => (DataW.lit (.int .u8 z) : DataW H)).length) * P.bytesOf e) (by rw [hd1]; simp [DataW.weights, ht, lits])
      rw [hby] at this
      simp [reachBytes] at this
      omega
    have hb : ∀ k, k < zs.length → ∃ b : UInt8, zs.getD k 0 = (b.toNat : Int) := fun k hk => by
      have hmem : zs.getD k 0 ∈ zs := by simp [hk]
      have hw := bounds_u8 (hwz _ hmem)
      refine ⟨UInt8.ofNat (zs.getD k 0).toNat, ?_⟩
      rw [UInt8.toNat_ofNat', Nat.mod_eq_of_lt (by omega)]
      omega
    refine ⟨some x, (zs.take len).map fun z => UInt8.ofNat z.toNat, cap, ?_, ?_, hcap, ?_⟩
    · simp; omega
    · simp; omega
    · refine ⟨by simp; omega, fun hn => ?_⟩
      simp at hn
      obtain ⟨b, off, spot⟩ := x
      have hc0 := hcell 0 (by omega)
      have hspot : spot = none := by simpa [Addr.add] using World.cell?_spot hc0
      subst hspot
      refine ⟨b, off, rfl, ?_, fun k hk => ?_⟩
      · have := World.block_lt_of_cell? _ _ hc0
        simpa [Addr.add] using this
      · simp at hk
        have hk1 := hcell k (by omega)
        obtain ⟨bb, hbb⟩ := hb k (by omega)
        rw [hbb] at hk1
        have e1 : ((⟨b, off, none⟩ : Addr).add k) = ⟨b, off + k, none⟩ := by unfold Addr.add; by_cases hk0 : k = 0 <;> simp [hk0]
        rw [e1] at hk1
        rw [hk1]
        have e2 : zs[k]? = some (bb.toNat : Int) := by rw [← hbb, List.getD_eq_getElem?_getD, List.getElem?_eq_getElem (by omega)]; rfl
        have e3 : ((zs.take len).map fun z => UInt8.ofNat z.toNat).getD k 0 = bb := by
          rw [List.getD_eq_getElem?_getD, List.getElem?_map, List.getElem?_take, if_pos (by omega), e2]
          simp
        rw [e3]
end
end Go.Proofs.YtoomdgidpplpfaaDoor
end
section
namespace Go.Proofs.YtoomdgidpplpfaaDoor
open Go.ChangeShapes Go.WideShapes Go.ChangeAt Go.RowKit

/-- As RdR; and no row is longer than its room. -/
def RdC (w : World) (B : Nat) (A : Option Addr) (rs : List (List UInt8)) : Prop :=
  rs.length ≤ 140737488355328 ∧ (0 < rs.length → ∃ b off, A = some ⟨b, off, none⟩ ∧ b < B ∧ ∀ k, k < rs.length → ∃ A' c, w.cell? ⟨b, off + k, none⟩ = some (.slice A' (rs.getD k []).length c) ∧ (rs.getD k []).length ≤ c ∧ RdB w B A' (rs.getD k []))
theorem RdC.rdr {w : World} {B : Nat} {A : Option Addr} {rs : List (List UInt8)} (h : RdC w B A rs) : RdR w B A rs :=
  ⟨h.1, fun h0 => by
    obtain ⟨b, off, e, hb, hc⟩ := h.2 h0
    refine ⟨b, off, e, hb, fun k hk => ?_⟩
    obtain ⟨A', c, h1, _, h2⟩ := hc k hk
    exact ⟨A', c, h1, h2⟩⟩
theorem RdC.keep {w w' : World} {B B' : Nat} {A : Option Addr} {rs : List (List UInt8)} (h : RdC w B A rs) (hB : B ≤ B') (hk : ∀ p : Addr, p.block < B → w'.cell? p = w.cell? p) : RdC w' B' A rs :=
  ⟨h.1, fun hn => by
    obtain ⟨b, off, e, hb, hc⟩ := h.2 hn
    refine ⟨b, off, e, by omega, fun k hk' => ?_⟩
    obtain ⟨A', c, h1, h2, h3⟩ := hc k hk'
    exact ⟨A', c, (hk ⟨b, off + k, none⟩ hb).trans h1, h2, h3.keep hB hk⟩⟩
theorem RdC.below {w w' : World} {B B' : Nat} {A : Option Addr} {rs : List (List UInt8)} (h : RdC w B A rs) (hb : Below B' w w') (hB : B ≤ B') : RdC w' B A rs := h.keep (Nat.le_refl _) fun p hp => hb.cell (by omega)
theorem RdC.more {w : World} {B B' : Nat} {A : Option Addr} {rs : List (List UInt8)} (h : RdC w B A rs) (hB : B ≤ B') : RdC w B' A rs := h.keep hB fun _ _ => rfl
/-- A slice of slices cut: s[:k], s[k:]. -/
theorem RdR.take {w : World} {B : Nat} {A : Option Addr} {rs : List (List UInt8)} (h : RdR w B A rs) (k : Nat) : RdR w B A (rs.take k) :=
  ⟨by have := h.1; simp; omega, fun hn => by
    have hn' : 0 < rs.length := by simp at hn; omega
    obtain ⟨b, off, e, hb, hc⟩ := h.2 hn'
    refine ⟨b, off, e, hb, fun j hj => ?_⟩
    have hj' : j < k ∧ j < rs.length := by simp at hj; omega
    have e : (rs.take k).getD j [] = rs.getD j [] := by simp [hj'.1]
    rw [e]
    exact hc j hj'.2⟩
theorem RdR.drop {w : World} {B : Nat} {A : Option Addr} {rs : List (List UInt8)} (h : RdR w B A rs) (k cap : Nat) (hc : rs.length ≤ cap) : RdR w B (if cap = k then A else A.map (·.add k)) (rs.drop k) :=
  ⟨by have := h.1; simp; omega, fun hn => by
    have hn' : k < rs.length := by simp at hn; omega
    obtain ⟨b, off, rfl, hb, hc⟩ := h.2 (by omega)
    rw [if_neg (by omega)]
    refine ⟨b, off + k, ?_, hb, fun j hj => ?_⟩
    · unfold Addr.add; by_cases hk0 : k = 0 <;> simp [hk0]
    · have hj' : k + j < rs.length := by simp at hj; omega
      have e : (rs.drop k).getD j [] = rs.getD (k + j) [] := by simp
      rw [Nat.add_assoc, e]
      exact hc (k + j) hj'⟩

section
variable {H : Type} {enc : TypeId × Value → H} {P : Program}
theorem weightsAll_mem {e : TypeId} {d : DataW H} {n : Nat} : ∀ {ds : List (DataW H)}, d ∈ ds → n ∈ d.weights P e → n ∈ DataW.weightsAll P e ds
  | _ :: _, .head _, h => by unfold DataW.weightsAll; exact List.mem_append_left _ h
  | _ :: _, .tail _ h', h => by unfold DataW.weightsAll; exact List.mem_append_right _ (weightsAll_mem h' h)
/-- A slice of slices of bytes that came in. -/
theorem open_rows {t e q : TypeId} (ht : P.underlying t = some (.slice e)) (he : P.underlying e = some (.slice q)) (hq : P.underlying q = some (.int .u8)) (ce : P.cellsOf e = 1) (cq : P.cellsOf q = 1) (be : P.bytesOf e = 24) (bq : P.bytesOf q = 1)
    {r : Reach} {W : World} {base : Nat} {v : Value} {d : DataW H} {p : List MemPlace}
    (hv : Value.okWide P W r base t v) (h : DataW.Trod enc P W 0 (fun _ => true) true t v d p) (hs : ∀ n ∈ d.weights P t, n ≤ reachBytes) :
    ∃ A rs cap, v = .slice A rs.length cap ∧ rs.length ≤ cap ∧ RdC W W.heap.size A rs := by
  obtain ⟨A, len, cap, rfl⟩ := okWide_slice ht hv
  obtain ⟨fuel, hf⟩ := h
  rcases Deep.open_int_rows ht he hq ce cq hf with ⟨hcs, _⟩ | ⟨a, l, c, As, L, C, Z, hcs, _, hl, hm, hd, hall⟩
  · simp [Value.cells] at hcs
    obtain ⟨rfl, rfl, rfl⟩ := hcs
    exact ⟨none, [], 0, rfl, Nat.le_refl _, by simp, fun h => by simp at h⟩
  · simp [Value.cells] at hcs
    obtain ⟨rfl, rfl, rfl⟩ := hcs
    injection hd with hd1 hd2
    have hcap : cap ≤ 140737488355328 := by
      have := hs ((len + (cap - len)) * 24) (by rw [hd1]; simp [DataW.weights, ht, be])
      simp [reachBytes] at this
      omega
    have hrow : ∀ r, r < len → C r ≤ 140737488355328 := fun r hr => by
      obtain ⟨_, h2, h3, h4, _, h6, _⟩ := hall r (by omega)
      cases hA : As r with
      | none => have := h6 hA; omega
      | some a' =>
        have hw : C r * 1 ∈ (Deep.intRow (H := H) .u8 (As r) (L r) (Z r)).weights P e := by
          rw [hA]
          simp [Deep.intRow, DataW.weights, he, lits, bq, h4]
          omega
        have := hs _ (by rw [hd1]; unfold DataW.weights; simp only [ht]; exact List.mem_cons_of_mem _ (List.mem_append_left _ (weightsAll_mem (List.mem_map.2 ⟨r, List.mem_range.2 hr, rfl⟩) hw)))
        simp [reachBytes] at this
        omega
    have hcellA : ∀ r a', r < len → As r = some a' → 0 < C r → ∃ b off, a' = ⟨b, off, none⟩ ∧ b < W.heap.size := fun r a' hr hA hp => by
      obtain ⟨_, _, _, _, _, _, h7⟩ := hall r (by omega)
      have hc0 := (h7 a' hA).2 0 hp
      obtain ⟨b, off, spot⟩ := a'
      have hspot : spot = none := by simpa [Addr.add] using World.cell?_spot hc0
      subst hspot
      exact ⟨b, off, rfl, by have := World.block_lt_of_cell? _ _ hc0; simpa [Addr.add] using this⟩
    have hZ : ∀ r, r < len → ((Z r).take (L r)).length = L r := fun r hr => by
      obtain ⟨_, h2, _, h4, _⟩ := hall r (by omega)
      rw [List.length_take, h4]; omega
    have hget : ∀ r, r < len → ((List.range len).map fun r => ((Z r).take (L r)).map fun z => UInt8.ofNat z.toNat).getD r [] = ((Z r).take (L r)).map fun z => UInt8.ofNat z.toNat := fun r hr => by
      simp [hr]
    refine ⟨some a, (List.range len).map fun r => ((Z r).take (L r)).map fun z => UInt8.ofNat z.toNat, cap, by simp, by simpa using hl, by simp; omega, fun h0 => ?_⟩
    have h0' : 0 < len := by simpa using h0
    have hc0 := (hall 0 (by omega)).1
    obtain ⟨b, off, spot⟩ := a
    have hspot : spot = none := by simpa [Addr.add] using World.cell?_spot hc0
    subst hspot
    refine ⟨b, off, rfl, by have := World.block_lt_of_cell? _ _ hc0; simpa [Addr.add] using this, fun k hk => ?_⟩
    have hk' : k < len := by simpa using hk
    obtain ⟨h1, h2, h3, h4, h5, h6, h7⟩ := hall k (by omega)
    have e1 : ((⟨b, off, none⟩ : Addr).add k) = ⟨b, off + k, none⟩ := by unfold Addr.add; by_cases hk0 : k = 0 <;> simp [hk0]
    rw [e1] at h1
    rw [hget k hk', List.length_map, hZ k hk']
    refine ⟨As k, C k, h1, h2, ?_, fun hn => ?_⟩
    · rw [List.length_map, hZ k hk']; have := hrow k hk'; omega
    · rw [List.length_map, hZ k hk'] at hn
      cases hA : As k with
      | none => have := h6 hA; omega
      | some a' =>
        obtain ⟨b2, off2, rfl, hb2⟩ := hcellA k a' hk' hA (by omega)
        refine ⟨b2, off2, rfl, hb2, fun j hj => ?_⟩
        rw [List.length_map, hZ k hk'] at hj
        have hcj := (h7 _ hA).2 j (by omega)
        have e2 : ((⟨b2, off2, none⟩ : Addr).add j) = ⟨b2, off2 + j, none⟩ := by unfold Addr.add; by_cases hk0 : j = 0 <;> simp [hk0]
        rw [e2] at hcj
        rw [hcj]
        have hmem : (Z k).getD j 0 ∈ Z k := by simp [show j < (Z k).length by omega]
        have hw := bounds_u8 (h5 _ hmem)
        have e4 : (Z k)[j]? = some ((Z k).getD j 0) := by rw [List.getD_eq_getElem?_getD, List.getElem?_eq_getElem (by omega)]; rfl
        have e3 : (((Z k).take (L k)).map fun z => UInt8.ofNat z.toNat).getD j 0 = UInt8.ofNat ((Z k).getD j 0).toNat := by
          rw [List.getD_eq_getElem?_getD, List.getElem?_map, List.getElem?_take, if_pos hj, e4]
          rfl
        rw [e3, UInt8.toNat_ofNat', Nat.mod_eq_of_lt (by omega)]
        congr 2
        omega
end

/-- Values that read as rows, none of them in block ob. -/
def RowsX (w : World) (B : Nat) (ob : Option Nat) (xs : List Value) (rs : List (List UInt8)) : Prop :=
  xs.length = rs.length ∧ ∀ k, k < rs.length → ∃ A c, xs[k]? = some (.slice A (rs.getD k []).length c) ∧ RdB w B A (rs.getD k []) ∧ (0 < (rs.getD k []).length → ∀ a, A = some a → some a.block ≠ ob)
theorem RowsX.nil (w : World) (B : Nat) (ob : Option Nat) : RowsX w B ob [] [] := ⟨rfl, fun k hk => by simp at hk⟩
theorem RowsX.rowsV {w : World} {B : Nat} {ob : Option Nat} {xs : List Value} {rs : List (List UInt8)} (h : RowsX w B ob xs rs) : RowsV w B xs rs :=
  ⟨h.1, fun k hk => by
    obtain ⟨A, c, h1, h2, _⟩ := h.2 k hk
    exact ⟨A, c, h1, h2⟩⟩
theorem RowsX.below {w w' : World} {ob : Option Nat} {xs : List Value} {rs : List (List UInt8)} (h : RowsX w w.heap.size ob xs rs) (hb : Below w.heap.size w w') : RowsX w' w'.heap.size ob xs rs :=
  ⟨h.1, fun k hk => by
    obtain ⟨A, c, h1, h2, h3⟩ := h.2 k hk
    exact ⟨A, c, h1, (h2.below hb (Nat.le_refl _)).more hb.size, h3⟩⟩
theorem RowsX.grown {w w' : World} {ob ob' : Option Nat} {xs : List Value} {rs : List (List UInt8)} (h : RowsX w w.heap.size ob xs rs) (hg : w.grownBy w' ob) (ho : ob' = ob ∨ ob' = some w.heap.size) : RowsX w' w'.heap.size ob' xs rs :=
  ⟨h.1, fun k hk => by
    obtain ⟨A, c, h1, h2, h3⟩ := h.2 k hk
    refine ⟨A, c, h1, ⟨h2.1, fun h0 => ?_⟩, fun h0 a ha => ?_⟩
    · obtain ⟨b, off, e, hb, hc⟩ := h2.2 h0
      have hne := h3 h0 _ e
      refine ⟨b, off, e, by have := hg.size; omega, fun j hj => ?_⟩
      rw [← hc j hj]
      exact World.cell?_of_block (w := w) (hg.block b hb hne)
    · rcases ho with rfl | rfl
      · exact h3 h0 a ha
      · obtain ⟨b, off, e, hb, hc⟩ := h2.2 h0
        rw [ha] at e
        injection e with e
        subst e
        intro e
        injection e with e
        simp at e
        omega⟩
theorem RowsX.snoc {w : World} {B : Nat} {ob : Option Nat} {xs : List Value} {rs : List (List UInt8)} (h : RowsX w B ob xs rs) {A : Option Addr} {c : Nat} {bs : List UInt8} (hr : RdB w B A bs) (hne : 0 < bs.length → ∀ a, A = some a → some a.block ≠ ob) : RowsX w B ob (xs ++ [.slice A bs.length c]) (rs ++ [bs]) :=
  ⟨by simp [h.1], fun k hk => by
    by_cases hk2 : k < rs.length
    · obtain ⟨A', c', h1, h2, h3⟩ := h.2 k hk2
      have e : (rs ++ [bs]).getD k [] = rs.getD k [] := by simp [List.getElem?_append_left hk2]
      rw [e]
      exact ⟨A', c', by rw [List.getElem?_append_left (by rw [h.1]; exact hk2)]; exact h1, h2, h3⟩
    · have hk3 : k = rs.length := by simp at hk; omega
      subst hk3
      have e : (rs ++ [bs]).getD rs.length [] = bs := by simp
      rw [e]
      exact ⟨A, c, by rw [← h.1]; simp, hr, hne⟩⟩
/-- An own row of slices, read as rows, with its room. -/
theorem rdr_ownC {w : World} {base : Nat} {e : TypeId} {v : Value} {n : Nat} {xs : List Value} {rs : List (List UInt8)} (h : w.ownsRow base e 1 v n xs) (hl : rs.length ≤ 140737488355328) (hx : RowsV w w.heap.size xs rs) :
    ∃ A cap, v = .slice A rs.length cap ∧ rs.length ≤ cap ∧ RdR w w.heap.size A rs := by
  obtain ⟨A, cap, hv, hr⟩ := rdr_own h (Nat.le_refl _) hl hx
  refine ⟨A, cap, hv, ?_, hr⟩
  have hn : n = rs.length := by have := h.1; have := hx.1; omega
  rcases h.2 with ⟨h1, h0⟩ | ⟨g, cap', cur, h1, _, _, h3, _⟩
  · rw [hv] at h1; injection h1 with _ _ h1; omega
  · rw [hv] at h1; injection h1 with _ _ h1; omega
/-- A block of bytes that a literal made. -/
theorem rdb_lit {w : World} {g : Nat} {cs : Array Value} {t : TypeId} {f : Nat × Nat} {bs : List UInt8} (hg : w.heap[g]? = some (.cells cs t f)) (hl : bs.length ≤ 140737488355328) (hcs : cs.toList = bs.map bv) : RdB w w.heap.size (some ⟨g, 0, none⟩) bs :=
  rdb_block hg (Array.getElem?_eq_some_iff.1 hg).1 hl fun k hk => by
    rw [← Array.getElem?_toList, hcs, List.getElem?_map, List.getElem?_eq_getElem hk, List.getD_eq_getElem?_getD, List.getElem?_eq_getElem hk]
    rfl
theorem hp_get (w : World) (o : Obj) (g : Nat) : (w.alloc o).heap[g]? = if g = w.heap.size then some o else w.heap[g]? := by
  split
  · next h => exact hp_new w o g h
  · next h =>
    by_cases h2 : g < w.heap.size
    · exact hp_old w o g h2
    · rw [Array.getElem?_eq_none (by simp; omega), Array.getElem?_eq_none (by omega)]
end Go.Proofs.YtoomdgidpplpfaaDoor
end
section
namespace Go.Proofs.YtoomdgidpplpfaaDoor

/-- A geometry (level, disks, chunk) that may be. -/
def lvB (l d : Int) : Bool := decide (((l = 5 ∧ 3 ≤ d) ∨ (l = 6 ∧ 4 ≤ d)) ∧ d ≤ 8)
def chB (c : Int) : Bool := decide (c = 1 ∨ c = 2 ∨ c = 4)
def gOk (l d c : Int) : Bool := lvB l d && chB c
def gBud (l d c : Int) : Int := if gOk l d c = true then l - 4 else 0
def gWid (l d c : Int) : Int := if gOk l d c = true then d - (l - 4) else 0
def gCap (l d c : Int) : Int := gWid l d c * 16
def gEq (l d c l' d' c' : Int) : Bool := decide (l = l' ∧ d = d' ∧ c = c')
def gGe (l d c l' d' c' : Int) : Bool := decide (d ≤ d' ∧ l ≤ l' ∧ gWid l d c ≤ gWid l' d' c')
def gCan (l d c l' d' c' : Int) : Bool := gOk l d c && gOk l' d' c' && !gEq l d c l' d' c' && gGe l d c l' d' c'

def gErr (l d c : Int) : Int := if gOk l d c = true then 0 else 1
theorem gErr_yes {l d c : Int} (h : gOk l d c = true) : gErr l d c = 0 := if_pos h
theorem gErr_no {l d c : Int} (h : gOk l d c = false) : gErr l d c = 1 := if_neg (by rw [h]; decide)
theorem lvB_no {l d : Int} (h : ¬ (((l = 5 ∧ 3 ≤ d) ∨ (l = 6 ∧ 4 ≤ d)) ∧ d ≤ 8)) : lvB l d = false := decide_eq_false h
theorem lvB_5 {d : Int} (h : ¬ 8 < d) : lvB 5 d = decide (3 ≤ d) := by simp [lvB]; omega
theorem lvB_6 {d : Int} (h : ¬ 8 < d) : lvB 6 d = decide (4 ≤ d) := by simp [lvB]; omega
theorem chB_no {c : Int} (h : ¬ (c = 1 ∨ c = 2 ∨ c = 4)) : chB c = false := decide_eq_false h
theorem chB_yes {c : Int} (h : c = 1 ∨ c = 2 ∨ c = 4) : chB c = true := decide_eq_true h
theorem gGe_eq (l d c l' d' c' : Int) : gGe l d c l' d' c' = decide (d ≤ d' ∧ l ≤ l' ∧ gWid l d c ≤ gWid l' d' c') := rfl
theorem gOk_yes {l d c : Int} (h : gOk l d c = true) : ((l = 5 ∧ 3 ≤ d) ∨ (l = 6 ∧ 4 ≤ d)) ∧ d ≤ 8 ∧ (c = 1 ∨ c = 2 ∨ c = 4) := by
  simp [gOk, lvB, chB] at h
  omega
theorem gOk_mk {l d c : Int} (h : ((l = 5 ∧ 3 ≤ d) ∨ (l = 6 ∧ 4 ≤ d)) ∧ d ≤ 8 ∧ (c = 1 ∨ c = 2 ∨ c = 4)) : gOk l d c = true := by
  simp [gOk, lvB, chB]
  omega
theorem gOk_no {l d c : Int} (h : ¬ (((l = 5 ∧ 3 ≤ d) ∨ (l = 6 ∧ 4 ≤ d)) ∧ d ≤ 8 ∧ (c = 1 ∨ c = 2 ∨ c = 4))) : gOk l d c = false := by
  rw [← Bool.not_eq_true]; intro h'; exact h (gOk_yes h')
theorem gOk_bd {l d c : Int} (h : gOk l d c = true) : 5 ≤ l ∧ l ≤ 6 ∧ 3 ≤ d ∧ d ≤ 8 ∧ 1 ≤ c ∧ c ≤ 4 := by
  have := gOk_yes h
  omega
theorem gBud_yes {l d c : Int} (h : gOk l d c = true) : gBud l d c = l - 4 := if_pos h
theorem gBud_no {l d c : Int} (h : gOk l d c = false) : gBud l d c = 0 := if_neg (by rw [h]; decide)
theorem gWid_yes {l d c : Int} (h : gOk l d c = true) : gWid l d c = d - (l - 4) := if_pos h
theorem gWid_no {l d c : Int} (h : gOk l d c = false) : gWid l d c = 0 := if_neg (by rw [h]; decide)
theorem gBud_bd (l d c : Int) : 0 ≤ gBud l d c ∧ gBud l d c ≤ 2 := by
  cases h : gOk l d c
  · rw [gBud_no h]; omega
  · have := gOk_bd h; rw [gBud_yes h]; omega
theorem gWid_bd (l d c : Int) : 0 ≤ gWid l d c ∧ gWid l d c ≤ 7 := by
  cases h : gOk l d c
  · rw [gWid_no h]; omega
  · have := gOk_yes h; rw [gWid_yes h]; omega
theorem gEq_yes {l d c l' d' c' : Int} (h : gEq l d c l' d' c' = true) : l = l' ∧ d = d' ∧ c = c' := by simpa [gEq] using h
theorem gEq_no {l d c l' d' c' : Int} (h : gEq l d c l' d' c' = false) : ¬ (l = l' ∧ d = d' ∧ c = c') := by simpa [gEq] using h
theorem gEq_refl (l d c : Int) : gEq l d c l d c = true := by simp [gEq]
theorem gCan_parts {l d c l' d' c' : Int} (h : gCan l d c l' d' c' = true) : gOk l d c = true ∧ gOk l' d' c' = true ∧ gEq l d c l' d' c' = false ∧ d ≤ d' ∧ l ≤ l' ∧ gWid l d c ≤ gWid l' d' c' := by
  simp [gCan, gGe] at h
  exact ⟨h.1.1.1, h.1.1.2, h.1.2, h.2.1, h.2.2.1, h.2.2.2⟩
theorem gCan_mk {l d c l' d' c' : Int} (h : gOk l d c = true ∧ gOk l' d' c' = true ∧ gEq l d c l' d' c' = false ∧ d ≤ d' ∧ l ≤ l' ∧ gWid l d c ≤ gWid l' d' c') : gCan l d c l' d' c' = true := by
  simp [gCan, gGe]
  exact ⟨⟨⟨h.1, h.2.1⟩, h.2.2.1⟩, h.2.2.2.1, h.2.2.2.2.1, h.2.2.2.2.2⟩
theorem gCan_ok {l d c l' d' c' : Int} (h : gOk l d c = true) (h' : gOk l' d' c' = true) (hn : gEq l d c l' d' c' = false) : gCan l d c l' d' c' = gGe l d c l' d' c' := by
  simp [gCan, h, h', hn]
end Go.Proofs.YtoomdgidpplpfaaDoor
end
section
namespace Go.Proofs.YtoomdgidpplpfaaDoor

def nibs : List Nat := [0, 274646895, 549293790, 820201905, 1098587580, 1361435347, 1640403810, 1905808397, 2197175160, 2460548119, 2722870694, 2987750089, 3280807620, 3553878443, 3811616794, 4084100981]
/-- Four digits taken out of a sum, by the table. -/
def half (x : Nat) : Nat := (x / 16) ^^^ nibs.getD (x % 16) 0
def stepB (x : Nat) (c : UInt8) : Nat := half (half (x ^^^ c.toNat))
def feedB (x : Nat) (bs : List UInt8) : Nat := bs.foldl stepB x
def feedR (x : Nat) (rs : List (List UInt8)) : Nat := rs.foldl feedB x
def sumR (rs : List (List UInt8)) : Nat := feedR 4294967295 rs ^^^ 4294967295

theorem nibs_lt (i : Nat) : nibs.getD i 0 < 4294967296 := by
  by_cases h : i < 16
  · exact (show ∀ i, i < 16 → nibs.getD i 0 < 4294967296 by decide) i h
  · rw [List.getD_eq_getElem?_getD, List.getElem?_eq_none (by simp [nibs]; omega)]; decide
theorem xor_lt32 {a b : Nat} (ha : a < 4294967296) (hb : b < 4294967296) : a ^^^ b < 4294967296 := Nat.xor_lt_two_pow (n := 32) ha hb
theorem half_lt {x : Nat} (h : x < 4294967296) : half x < 4294967296 := xor_lt32 (by omega) (nibs_lt _)
theorem stepB_lt {x : Nat} (c : UInt8) (h : x < 4294967296) : stepB x c < 4294967296 := half_lt (half_lt (xor_lt32 h (by have := c.toNat_lt; omega)))
theorem feedB_lt {x : Nat} (bs : List UInt8) (h : x < 4294967296) : feedB x bs < 4294967296 := by
  unfold feedB
  induction bs generalizing x with
  | nil => exact h
  | cons c r ih => exact ih (stepB_lt c h)
theorem feedR_lt {x : Nat} (rs : List (List UInt8)) (h : x < 4294967296) : feedR x rs < 4294967296 := by
  unfold feedR
  induction rs generalizing x with
  | nil => exact h
  | cons c r ih => exact ih (feedB_lt c h)
theorem foldl_snoc {α β : Type} (f : β → α → β) (x : β) (l : List α) (d : α) (j : Nat) (h : j < l.length) : (l.take (j + 1)).foldl f x = f ((l.take j).foldl f x) (l.getD j d) := by
  rw [List.take_succ_eq_append_getElem h, List.foldl_append]
  simp [h]
theorem feedB_snoc (x : Nat) (bs : List UInt8) (j : Nat) (h : j < bs.length) : feedB x (bs.take (j + 1)) = stepB (feedB x (bs.take j)) (bs.getD j 0) := foldl_snoc stepB x bs 0 j h
theorem feedR_snoc (x : Nat) (rs : List (List UInt8)) (j : Nat) (h : j < rs.length) : feedR x (rs.take (j + 1)) = feedB (feedR x (rs.take j)) (rs.getD j []) := foldl_snoc feedB x rs [] j h
theorem feedR_flat (x : Nat) (rs : List (List UInt8)) : feedR x rs = feedB x rs.flatten := by
  induction rs generalizing x with
  | nil => rfl
  | cons r rs ih => simp only [feedR, List.foldl_cons, List.flatten_cons]; rw [show feedB x (r ++ rs.flatten) = feedB (feedB x r) rs.flatten from List.foldl_append]; exact ih _
/-- Byte k of a sum, the greatest first. -/
def beB (x k : Nat) : UInt8 := UInt8.ofNat (x / 2 ^ (24 - 8 * k))
def be4 (x : Nat) : List UInt8 := [beB x 0, beB x 1, beB x 2, beB x 3]
/-- The first k bytes of a stamp set in a sector. -/
def stampK (bs : List UInt8) (x k : Nat) : List UInt8 := (List.range k).foldl (fun l i => l.set (28 + i) (beB x i)) bs
/-- A sector, stamped. -/
def stamped (bs : List UInt8) (rs : List (List UInt8)) : List UInt8 := bs.take 28 ++ be4 (sumR (bs.take 28 :: rs))
/-- Is it a sector with a right stamp? -/
def rightB (bs : List UInt8) (rs : List (List UInt8)) : Bool := decide (bs.length = 32) && decide (bs.drop 28 = be4 (sumR (bs.take 28 :: rs)))
theorem stampK_succ (bs : List UInt8) (x k : Nat) : stampK bs x (k + 1) = (stampK bs x k).set (28 + k) (beB x k) := by
  simp [stampK, List.range_succ, List.foldl_append]
theorem stampK_len (bs : List UInt8) (x k : Nat) : (stampK bs x k).length = bs.length := by
  induction k with
  | zero => rfl
  | succ k ih => rw [stampK_succ]; simp [ih]
theorem stampK_four (bs : List UInt8) (x : Nat) (h : bs.length = 32) : stampK bs x 4 = bs.take 28 ++ be4 x := by
  apply List.ext_getElem?
  intro i
  simp only [stampK, List.range_succ, List.range_zero, List.nil_append, List.cons_append, List.foldl_cons, List.foldl_nil, be4, Nat.add_zero]
  simp only [List.getElem?_set, List.length_set, h, List.getElem?_append, List.length_take]
  have hm : min 28 bs.length = 28 := by omega
  rw [h] at hm
  rw [hm]
  by_cases h1 : i < 28
  · rw [if_pos h1, if_neg (by omega), if_neg (by omega), if_neg (by omega), if_neg (by omega), List.getElem?_take, if_pos h1]
  · rw [if_neg h1]
    by_cases h2 : i = 28
    · subst h2; simp
    · by_cases h3 : i = 29
      · subst h3; simp
      · by_cases h4 : i = 30
        · subst h4; simp
        · by_cases h5 : i = 31
          · subst h5; simp
          · rw [if_neg (by omega), if_neg (by omega), if_neg (by omega), if_neg (by omega), List.getElem?_eq_none (by omega), List.getElem?_eq_none (by simp; omega)]
theorem stamped_len (bs : List UInt8) (rs : List (List UInt8)) (h : bs.length = 32) : (stamped bs rs).length = 32 := by simp [stamped, be4, h]
theorem sumR_lt (rs : List (List UInt8)) : sumR rs < 4294967296 := xor_lt32 (feedR_lt rs (by decide)) (by decide)
theorem sumR_cons (a : List UInt8) (rs : List (List UInt8)) : sumR (a :: rs) = feedR (feedR 4294967295 [a]) rs ^^^ 4294967295 := rfl
theorem be4_get (x k : Nat) (h : k < 4) : (be4 x).getD k 0 = beB x k := by
  match k, h with
  | 0, _ | 1, _ | 2, _ | 3, _ => rfl
theorem rightB_no {bs : List UInt8} {rs : List (List UInt8)} (k : Nat) (hk : k < 4) (h : bs.getD (28 + k) 0 ≠ beB (sumR (bs.take 28 :: rs)) k) : rightB bs rs = false := by
  unfold rightB
  have : ¬ bs.drop 28 = be4 (sumR (bs.take 28 :: rs)) := fun e => h (by
    rw [← be4_get _ k hk, ← e]
    simp)
  simp [this]
theorem rightB_yes {bs : List UInt8} {rs : List (List UInt8)} (hl : bs.length = 32) (h : ∀ k, k < 4 → bs.getD (28 + k) 0 = beB (sumR (bs.take 28 :: rs)) k) : rightB bs rs = true := by
  unfold rightB
  have : bs.drop 28 = be4 (sumR (bs.take 28 :: rs)) := by
    apply List.ext_getElem
    · simp [hl, be4]
    · intro i h1 h2
      have hi : i < 4 := by simpa [be4] using h2
      have h3 := h i hi
      rw [← be4_get _ i hi] at h3
      have h4 : 28 + i < bs.length := by omega
      simpa [h4, h2] using h3
  simp [this, hl]
end Go.Proofs.YtoomdgidpplpfaaDoor
end
section
namespace Go.Proofs.YtoomdgidpplpfaaDoor

theorem xor_cancel {a b c : Nat} (h : a ^^^ b = a ^^^ c) : b = c := by
  have : a ^^^ (a ^^^ b) = a ^^^ (a ^^^ c) := by rw [h]
  simpa [← Nat.xor_assoc] using this
theorem xor_cancel' {a b c : Nat} (h : b ^^^ a = c ^^^ a) : b = c := xor_cancel (a := a) (by rw [Nat.xor_comm a b, Nat.xor_comm a c]; exact h)
theorem xor_div (a b i : Nat) : (a ^^^ b) / 2 ^ i = a / 2 ^ i ^^^ b / 2 ^ i := by
  rw [← Nat.shiftRight_eq_div_pow, ← Nat.shiftRight_eq_div_pow, ← Nat.shiftRight_eq_div_pow, Nat.shiftRight_xor_distrib]
theorem half_top {x : Nat} (h : x < 4294967296) : half x / 2 ^ 28 = x % 16 := by
  unfold half
  rw [xor_div]
  have h1 : x / 16 / 2 ^ 28 = 0 := by omega
  rw [h1, Nat.zero_xor]
  exact (show ∀ i, i < 16 → nibs.getD i 0 / 2 ^ 28 = i by decide) (x % 16) (by omega)
theorem half_inj {x y : Nat} (hx : x < 4294967296) (hy : y < 4294967296) (h : half x = half y) : x = y := by
  have h1 : x % 16 = y % 16 := by rw [← half_top hx, ← half_top hy, h]
  have h2 : x / 16 = y / 16 := by
    unfold half at h
    rw [h1] at h
    exact xor_cancel' h
  omega
theorem c_lt (c : UInt8) : c.toNat < 4294967296 := by have := c.toNat_lt; omega
theorem stepB_inj {x y : Nat} (c d : UInt8) (hx : x < 4294967296) (hy : y < 4294967296) (h : stepB x c = stepB y d) : x ^^^ c.toNat = y ^^^ d.toNat :=
  half_inj (xor_lt32 hx (c_lt c)) (xor_lt32 hy (c_lt d)) (half_inj (half_lt (xor_lt32 hx (c_lt c))) (half_lt (xor_lt32 hy (c_lt d))) h)
theorem feedB_inj {x y : Nat} (bs : List UInt8) (hx : x < 4294967296) (hy : y < 4294967296) (h : feedB x bs = feedB y bs) : x = y := by
  induction bs generalizing x y with
  | nil => exact h
  | cons c r ih => exact xor_cancel' (stepB_inj c c hx hy (ih (stepB_lt c hx) (stepB_lt c hy) h))
theorem feedB_app (x : Nat) (a b : List UInt8) : feedB x (a ++ b) = feedB (feedB x a) b := List.foldl_append
theorem feedB_one {x : Nat} (a b : List UInt8) (c d : UInt8) (hx : x < 4294967296) (h : feedB x (a ++ c :: b) = feedB x (a ++ d :: b)) : c = d := by
  rw [feedB_app, feedB_app] at h
  have hl := feedB_lt a hx
  have h2 := stepB_inj c d hl hl (feedB_inj b (stepB_lt c hl) (stepB_lt d hl) h)
  exact UInt8.toNat_inj.1 (xor_cancel h2)
/-- One byte turned: another sum. -/
theorem feedB_set {x : Nat} (bs : List UInt8) (i : Nat) (hi : i < bs.length) (d : UInt8) (hx : x < 4294967296) (h : feedB x (bs.set i d) = feedB x bs) : d = bs.getD i 0 := by
  have e1 : bs = bs.take i ++ bs.getD i 0 :: bs.drop (i + 1) := by
    rw [show bs.getD i 0 = bs[i] by simp [hi]]
    simp
  have e2 : bs.set i d = bs.take i ++ d :: bs.drop (i + 1) := List.set_eq_take_append_cons_drop.trans (by rw [if_pos hi])
  rw [e2] at h
  rw [show feedB x bs = feedB x (bs.take i ++ bs.getD i 0 :: bs.drop (i + 1)) by rw [← e1]] at h
  exact feedB_one _ _ _ _ hx h
theorem sumR_flat (rs : List (List UInt8)) : sumR rs = feedB 4294967295 rs.flatten ^^^ 4294967295 := by unfold sumR; rw [feedR_flat]
theorem sumR_eq {rs qs : List (List UInt8)} (h : rs.flatten = qs.flatten) : sumR rs = sumR qs := by rw [sumR_flat, sumR_flat, h]
theorem sumR_ne {rs qs : List (List UInt8)} (i : Nat) (hi : i < rs.flatten.length) (d : UInt8) (hq : qs.flatten = rs.flatten.set i d) (h : sumR qs = sumR rs) : d = rs.flatten.getD i 0 := by
  rw [sumR_flat, sumR_flat, hq] at h
  exact feedB_set _ i hi d (by decide) (xor_cancel' h)
theorem be4_inj {x y : Nat} (hx : x < 4294967296) (hy : y < 4294967296) (h : be4 x = be4 y) : x = y := by
  simp only [be4, List.cons.injEq, and_true] at h
  obtain ⟨h0, h1, h2, h3⟩ := h
  have f : ∀ k, beB x k = beB y k → x / 2 ^ (24 - 8 * k) % 256 = y / 2 ^ (24 - 8 * k) % 256 := fun k hk => by
    have := congrArg UInt8.toNat hk
    simpa [beB, UInt8.toNat_ofNat'] using this
  have g0 := f 0 h0
  have g1 := f 1 h1
  have g2 := f 2 h2
  have g3 := f 3 h3
  simp at g0 g1 g2 g3
  omega

/-- One digit taken out of a sum. -/
def bit1 (x : Nat) : Nat := if x % 2 = 1 then (x / 2) ^^^ 2197175160 else x / 2
theorem xor_mod2 (a b : Nat) : (a ^^^ b) % 2 = (a + b) % 2 := by
  have h := @Nat.xor_mod_two_eq_one a b
  rcases Nat.mod_two_eq_zero_or_one (a ^^^ b) with hc | hc <;> rcases Nat.mod_two_eq_zero_or_one a with ha | ha <;> rcases Nat.mod_two_eq_zero_or_one b with hb | hb <;> rw [hc, ha, hb] at h <;> first | omega | (exfalso; revert h; decide)
theorem bit1_xor (a b : Nat) : bit1 (a ^^^ b) = bit1 a ^^^ bit1 b := by
  unfold bit1
  have h1 := xor_mod2 a b
  have h2 : (a ^^^ b) / 2 = a / 2 ^^^ b / 2 := by simpa using xor_div a b 1
  rw [h2]
  rcases Nat.mod_two_eq_zero_or_one a with ha | ha <;> rcases Nat.mod_two_eq_zero_or_one b with hb | hb
  · rw [if_neg (by omega), if_neg (by omega), if_neg (by omega)]
  · rw [if_pos (by omega), if_neg (by omega), if_pos (by omega), Nat.xor_assoc]
  · rw [if_pos (by omega), if_pos (by omega), if_neg (by omega), Nat.xor_assoc, Nat.xor_comm (b / 2), ← Nat.xor_assoc]
  · rw [if_neg (by omega), if_pos (by omega), if_pos (by omega)]
    rw [show (a / 2 ^^^ 2197175160) ^^^ (b / 2 ^^^ 2197175160) = (a / 2 ^^^ b / 2) ^^^ (2197175160 ^^^ 2197175160) by ac_rfl]
    simp
theorem split16 (x : Nat) : x = 16 * (x / 16) ^^^ x % 16 := by
  have h := Nat.two_pow_add_eq_or_of_lt (i := 4) (b := x % 16) (by omega) (x / 16)
  have h3 : 2 ^ 4 * (x / 16) ^^^ x % 16 = 2 ^ 4 * (x / 16) ||| x % 16 := by
    apply Nat.eq_of_testBit_eq
    intro j
    rw [Nat.testBit_xor, Nat.testBit_or]
    by_cases hj : j < 4
    · have : (2 ^ 4 * (x / 16)).testBit j = false := by rw [Nat.testBit_two_pow_mul]; simp [Nat.not_le.2 hj]
      simp [this]
    · have : (x % 16).testBit j = false := Nat.testBit_lt_two_pow (Nat.lt_of_lt_of_le (by omega) (Nat.pow_le_pow_right (by decide) (Nat.le_of_not_lt hj)))
      simp [this]
  have h4 : x = 2 ^ 4 * (x / 16) + x % 16 := by omega
  rw [h, ← h3] at h4
  exact h4
theorem bit1_even (q : Nat) : bit1 (2 * q) = q := by unfold bit1; rw [if_neg (by omega)]; omega
theorem half_bits (x : Nat) : half x = bit1 (bit1 (bit1 (bit1 x))) := by
  have hr := (show ∀ i, i < 16 → bit1 (bit1 (bit1 (bit1 i))) = nibs.getD i 0 by decide) (x % 16) (by omega)
  rw [show bit1 (bit1 (bit1 (bit1 x))) = bit1 (bit1 (bit1 (bit1 (16 * (x / 16) ^^^ x % 16)))) by rw [← split16 x]]
  rw [bit1_xor, bit1_xor, bit1_xor, bit1_xor, hr]
  rw [show 16 * (x / 16) = 2 * (2 * (2 * (2 * (x / 16)))) by omega, bit1_even, bit1_even, bit1_even, bit1_even]
  rfl
/-- k digits taken out. -/
def bitN : Nat → Nat → Nat
  | 0, x => x
  | k + 1, x => bit1 (bitN k x)
theorem stepB_bits (x : Nat) (c : UInt8) : stepB x c = bitN 8 (x ^^^ c.toNat) := by
  unfold stepB
  rw [half_bits, half_bits]
  rfl
theorem bit1_lt {x : Nat} (h : x < 4294967296) : bit1 x < 4294967296 := by
  unfold bit1
  split
  · exact xor_lt32 (by omega) (by decide)
  · omega
theorem bitN_lt {x : Nat} (k : Nat) (h : x < 4294967296) : bitN k x < 4294967296 := by
  induction k with
  | zero => exact h
  | succ k ih => exact bit1_lt ih
theorem stamped_take (bs : List UInt8) (rs : List (List UInt8)) (h : bs.length = 32) : (stamped bs rs).take 28 = bs.take 28 := by
  unfold stamped
  rw [List.take_append_of_le_length (by simp; omega), List.take_take, Nat.min_self]
theorem restamped (bs : List UInt8) (rs qs : List (List UInt8)) (h : bs.length = 32) : stamped (stamped bs rs) qs = stamped bs qs := by
  rw [show stamped (stamped bs rs) qs = (stamped bs rs).take 28 ++ be4 (sumR ((stamped bs rs).take 28 :: qs)) from rfl, stamped_take bs rs h]
  rfl
theorem xor_zero {a c : UInt8} (h : a ^^^ c = a) : c = 0 := by
  have : a ^^^ (a ^^^ c) = a ^^^ a := by rw [h]
  simpa [← UInt8.xor_assoc] using this
/-- Another part makes another stamp. -/
theorem seal_other (bs q : List UInt8) (i : Nat) (c : UInt8) (h : bs.length = 32) (hi : i < q.length) :
    decide (stamped (stamped bs [q]) [q.set i (q.getD i 0 ^^^ c)] = stamped bs [q]) = ((c.toNat : Int) == 0) := by
  rw [restamped bs _ _ h]
  by_cases hc : c = 0
  · subst hc
    have : q.set i (q.getD i 0 ^^^ 0) = q := by
      rw [show q.getD i 0 ^^^ 0 = q[i] by simp [hi]]
      exact List.set_getElem_self hi
    rw [this]
    simp
  · have hne : ¬ stamped bs [q.set i (q.getD i 0 ^^^ c)] = stamped bs [q] := fun e => by
      have e2 := List.append_cancel_left e
      have e3 := be4_inj (sumR_lt _) (sumR_lt _) e2
      have hl : (bs.take 28).length = 28 := by simp [h]
      have e4 := sumR_ne (rs := [bs.take 28, q]) (qs := [bs.take 28, q.set i (q.getD i 0 ^^^ c)]) (28 + i) (by simp [h]; omega) (q.getD i 0 ^^^ c) (by
        simp only [List.flatten_cons, List.flatten_nil, List.append_nil]
        rw [List.set_append_right _ _ (by omega), hl]
        simp) e3
      have e5 : [bs.take 28, q].flatten.getD (28 + i) 0 = q.getD i 0 := by
        simp only [List.flatten_cons, List.flatten_nil, List.append_nil]
        rw [List.getD_eq_getElem?_getD, List.getElem?_append_right (by omega), hl, List.getD_eq_getElem?_getD]
        simp
      rw [e5] at e4
      exact hc (xor_zero e4)
    have : ¬ c.toNat = 0 := fun e => hc (UInt8.toNat_inj.1 (by simpa using e))
    rw [decide_eq_false hne]
    symm
    rw [beq_eq_false_iff_ne]
    omega
theorem byte_eq0 (c : UInt8) : ((c.toNat : Int) == 0) = decide (c = 0) := by
  by_cases hc : c = 0
  · subst hc; rfl
  · have : ¬ c.toNat = 0 := fun e => hc (UInt8.toNat_inj.1 (by simpa using e))
    rw [decide_eq_false hc, beq_eq_false_iff_ne]
    omega
theorem right_iff (bs : List UInt8) (rs : List (List UInt8)) : rightB bs rs = true ↔ bs.length = 32 ∧ bs.drop 28 = be4 (sumR (bs.take 28 :: rs)) := by simp [rightB]
theorem right_stamped (bs : List UInt8) (rs : List (List UInt8)) (h : bs.length = 32) : rightB (stamped bs rs) rs = true := by
  rw [right_iff, stamped_take bs rs h]
  refine ⟨stamped_len bs rs h, ?_⟩
  unfold stamped
  rw [List.drop_append_of_le_length (by simp; omega)]
  simp
theorem right_parts {bs : List UInt8} {rs qs : List (List UInt8)} (h : rightB bs rs = true) (he : rs.flatten = qs.flatten) : rightB bs qs = true := by
  rw [right_iff] at h ⊢
  exact ⟨h.1, by rw [h.2]; exact congrArg be4 (sumR_eq (by simp [he]))⟩
/-- One byte of a stamped sector turned: no longer right. -/
theorem right_set {bs : List UInt8} {rs : List (List UInt8)} (h : rightB bs rs = true) (i : Nat) (hi : i < 32) (c : UInt8) : rightB (bs.set i (bs.getD i 0 ^^^ c)) rs = ((c.toNat : Int) == 0) := by
  rw [byte_eq0]
  have hr := (right_iff bs rs).1 h
  by_cases hc : c = 0
  · subst hc
    rw [decide_eq_true rfl, show bs.getD i 0 ^^^ 0 = bs[i]'(by omega) by simp [hr.1, hi], List.set_getElem_self]
    exact h
  · rw [decide_eq_false hc, ← Bool.not_eq_true]
    intro h2
    have h3 := (right_iff _ _).1 h2
    obtain ⟨hl, hd⟩ := hr
    have hd2 := h3.2
    by_cases hi2 : i < 28
    · rw [List.drop_set_of_lt (by omega), hd, List.take_set] at hd2
      have e := be4_inj (sumR_lt _) (sumR_lt _) hd2
      have e4 := sumR_ne (rs := bs.take 28 :: rs) (qs := (bs.take 28).set i (bs.getD i 0 ^^^ c) :: rs) i (by simp; omega) (bs.getD i 0 ^^^ c) (by
        simp only [List.flatten_cons]
        rw [List.set_append_left _ _ (by simp; omega)]) e.symm
      have e5 : (bs.take 28 :: rs).flatten.getD i 0 = bs.getD i 0 := by
        simp only [List.flatten_cons]
        rw [List.getD_eq_getElem?_getD, List.getElem?_append_left (by simp; omega), List.getElem?_take, if_pos hi2, List.getD_eq_getElem?_getD]
      rw [e5] at e4
      exact hc (xor_zero e4)
    · have ht : (bs.set i (bs.getD i 0 ^^^ c)).take 28 = bs.take 28 := by rw [List.take_set_of_le (by omega)]
      rw [ht, ← hd] at hd2
      have e := congrArg (fun l => l[i - 28]?) hd2
      simp only [List.getElem?_drop] at e
      rw [show 28 + (i - 28) = i by omega, List.getElem?_set_self (by omega)] at e
      have e6 : bs.getD i 0 = bs[i]'(by omega) := by simp [hl, hi]
      rw [List.getElem?_eq_getElem (by omega)] at e
      injection e with e
      rw [← e6] at e
      exact hc (xor_zero e)
/-- One byte of a part turned: no longer right. -/
theorem right_part {bs q : List UInt8} (h : rightB bs [q] = true) (i : Nat) (hi : i < q.length) (c : UInt8) : rightB bs [q.set i (q.getD i 0 ^^^ c)] = ((c.toNat : Int) == 0) := by
  rw [byte_eq0]
  have hr := (right_iff bs [q]).1 h
  by_cases hc : c = 0
  · subst hc
    rw [decide_eq_true rfl, show q.getD i 0 ^^^ 0 = q[i] by simp [hi], List.set_getElem_self]
    exact h
  · rw [decide_eq_false hc, ← Bool.not_eq_true]
    intro h2
    have h3 := ((right_iff _ _).1 h2).2
    rw [hr.2] at h3
    have hl : (bs.take 28).length = 28 := by simp [hr.1]
    have e := be4_inj (sumR_lt _) (sumR_lt _) h3
    have e4 := sumR_ne (rs := [bs.take 28, q]) (qs := [bs.take 28, q.set i (q.getD i 0 ^^^ c)]) (28 + i) (by simp [hr.1]; omega) (q.getD i 0 ^^^ c) (by
      simp only [List.flatten_cons, List.flatten_nil, List.append_nil]
      rw [List.set_append_right _ _ (by omega), hl]
      simp) e.symm
    have e5 : [bs.take 28, q].flatten.getD (28 + i) 0 = q.getD i 0 := by
      simp only [List.flatten_cons, List.flatten_nil, List.append_nil]
      rw [List.getD_eq_getElem?_getD, List.getElem?_append_right (by omega), hl, List.getD_eq_getElem?_getD]
      simp
    rw [e5] at e4
    exact hc (xor_zero e4)
end Go.Proofs.YtoomdgidpplpfaaDoor
end
section
namespace Go.Proofs.YtoomdgidpplpfaaDoor

/-- A Super's fields: generation, its geometry, the one it goes to, whether it does, window, epoch, what is out. -/
structure Su where
  g : Int
  al : Int
  ad : Int
  ac : Int
  bl : Int
  bd : Int
  bc : Int
  r : Bool
  wi : Int
  ep : Int
  ou : Int
/-- All numbers are whole numbers of 64 digits. -/
structure Su64 (s : Su) : Prop where
  g : (-9223372036854775808 ≤ s.g ∧ s.g ≤ 9223372036854775807)
  al : (-9223372036854775808 ≤ s.al ∧ s.al ≤ 9223372036854775807)
  ad : (-9223372036854775808 ≤ s.ad ∧ s.ad ≤ 9223372036854775807)
  ac : (-9223372036854775808 ≤ s.ac ∧ s.ac ≤ 9223372036854775807)
  bl : (-9223372036854775808 ≤ s.bl ∧ s.bl ≤ 9223372036854775807)
  bd : (-9223372036854775808 ≤ s.bd ∧ s.bd ≤ 9223372036854775807)
  bc : (-9223372036854775808 ≤ s.bc ∧ s.bc ≤ 9223372036854775807)
  wi : (-9223372036854775808 ≤ s.wi ∧ s.wi ≤ 9223372036854775807)
  ep : (-9223372036854775808 ≤ s.ep ∧ s.ep ≤ 9223372036854775807)
  ou : (-9223372036854775808 ≤ s.ou ∧ s.ou ≤ 9223372036854775807)
def suZ : Su := ⟨0, 0, 0, 0, 0, 0, 0, false, 0, 0, 0⟩
def suEq (s t : Su) : Bool := decide (s.g = t.g ∧ s.al = t.al ∧ s.ad = t.ad ∧ s.ac = t.ac ∧ s.bl = t.bl ∧ s.bd = t.bd ∧ s.bc = t.bc ∧ s.r = t.r ∧ s.wi = t.wi ∧ s.ep = t.ep ∧ s.ou = t.ou)
theorem suEq_iff (s t : Su) : suEq s t = true ↔ s = t := by
  obtain ⟨a1, a2, a3, a4, a5, a6, a7, a8, a9, a10, a11⟩ := s
  obtain ⟨b1, b2, b3, b4, b5, b6, b7, b8, b9, b10, b11⟩ := t
  simp [suEq]
theorem suEq_refl (s : Su) : suEq s s = true := (suEq_iff s s).2 rfl
theorem suEq_no {s t : Su} (h : s ≠ t) : suEq s t = false := by
  rw [← Bool.not_eq_true]; exact fun h' => h ((suEq_iff s t).1 h')
def aimB (s : Su) : Bool := if s.r = true then gCan s.al s.ad s.ac s.bl s.bd s.bc && decide (0 ≤ s.wi ∧ s.wi ≤ 16) else decide (s.bl = 0 ∧ s.bd = 0 ∧ s.bc = 0 ∧ s.wi = 0)
def genB (s : Su) : Bool := decide (1 ≤ s.g ∧ s.g ≤ 2147483647)
def epB (s : Su) : Bool := decide (0 ≤ s.ep ∧ s.ep ≤ 65535)
def ouB (s : Su) : Bool := decide (0 ≤ s.ou ∧ s.ou ≤ 255)
def suOk (s : Su) : Bool := genB s && gOk s.al s.ad s.ac && aimB s && epB s && ouB s
def suErr (s : Su) : Int := if suOk s = true then 0 else 1
theorem suErr_yes {s : Su} (h : suOk s = true) : suErr s = 0 := if_pos h
theorem suErr_no {s : Su} (h : suOk s = false) : suErr s = 1 := if_neg (by rw [h]; decide)
theorem suOk_parts {s : Su} (h : suOk s = true) : genB s = true ∧ gOk s.al s.ad s.ac = true ∧ aimB s = true ∧ epB s = true ∧ ouB s = true := by
  simp [suOk] at h
  exact ⟨h.1.1.1.1, h.1.1.1.2, h.1.1.2, h.1.2, h.2⟩
/-- What holds of the fields of a Super that may be. -/
structure SuIn (s : Su) : Prop where
  g : 1 ≤ s.g ∧ s.g ≤ 2147483647
  al : 0 ≤ s.al ∧ s.al ≤ 255
  ad : 0 ≤ s.ad ∧ s.ad ≤ 255
  ac : 0 ≤ s.ac ∧ s.ac ≤ 255
  bl : 0 ≤ s.bl ∧ s.bl ≤ 255
  bd : 0 ≤ s.bd ∧ s.bd ≤ 255
  bc : 0 ≤ s.bc ∧ s.bc ≤ 255
  wi : 0 ≤ s.wi ∧ s.wi ≤ 255
  ep : 0 ≤ s.ep ∧ s.ep ≤ 65535
  ou : 0 ≤ s.ou ∧ s.ou ≤ 255
theorem suIn {s : Su} (h : suOk s = true) : SuIn s := by
  obtain ⟨h1, h2, h3, h4, h5⟩ := suOk_parts h
  have a := gOk_bd h2
  have q1 : 1 ≤ s.g ∧ s.g ≤ 2147483647 := by simpa [genB] using h1
  have q4 : 0 ≤ s.ep ∧ s.ep ≤ 65535 := by simpa [epB] using h4
  have q5 : 0 ≤ s.ou ∧ s.ou ≤ 255 := by simpa [ouB] using h5
  have b : (0 ≤ s.bl ∧ s.bl ≤ 255) ∧ (0 ≤ s.bd ∧ s.bd ≤ 255) ∧ (0 ≤ s.bc ∧ s.bc ≤ 255) ∧ (0 ≤ s.wi ∧ s.wi ≤ 255) := by
    unfold aimB at h3
    split at h3
    · simp only [Bool.and_eq_true, decide_eq_true_eq] at h3
      have := gOk_bd (gCan_parts h3.1).2.1
      omega
    · have := of_decide_eq_true h3
      omega
  exact ⟨q1, by omega, by omega, by omega, b.1, b.2.1, b.2.2.1, b.2.2.2, q4, q5⟩
/-- Byte k of a number, from its low end. -/
def byN (n : Int) (k : Nat) : UInt8 := UInt8.ofNat (n.toNat / 256 ^ k)
def rnB (r : Bool) : UInt8 := if r = true then 1 else 0
def suBody (s : Su) : List UInt8 := [87, 83, 85, 80, byN s.g 3, byN s.g 2, byN s.g 1, byN s.g 0, byN s.al 0, byN s.ad 0, byN s.ac 0, byN s.bl 0, byN s.bd 0, byN s.bc 0, rnB s.r, byN s.wi 0, byN s.ep 1, byN s.ep 0, byN s.ou 0, 0, 0, 0, 0, 0, 0, 0, 0, 0]
def suFull (s : Su) : List UInt8 := suBody s ++ [0, 0, 0, 0]
def suB (s : Su) : List UInt8 := stamped (suFull s) []
theorem suFull_len (s : Su) : (suFull s).length = 32 := rfl
theorem suB_eq (s : Su) : suB s = suBody s ++ be4 (sumR [suBody s]) := rfl
theorem suB_len (s : Su) : (suB s).length = 32 := rfl
theorem suB_right (s : Su) : rightB (suB s) [] = true := right_stamped _ _ (suFull_len s)
/-- The number that bytes tell, the greatest first. -/
def numB (bs : List UInt8) : Nat := bs.foldl (fun n x => n * 256 + x.toNat) 0
def flds (bs : List UInt8) : Su :=
  ⟨numB [bs.getD 4 0, bs.getD 5 0, bs.getD 6 0, bs.getD 7 0], numB [bs.getD 8 0], numB [bs.getD 9 0], numB [bs.getD 10 0], numB [bs.getD 11 0], numB [bs.getD 12 0], numB [bs.getD 13 0],
    (((bs.getD 14 0).toNat : Int) == 1), numB [bs.getD 15 0], numB [bs.getD 16 0, bs.getD 17 0], numB [bs.getD 18 0]⟩
theorem numB_one (a : UInt8) : numB [a] = a.toNat := by simp [numB]
theorem numB_two (a b : UInt8) : numB [a, b] = a.toNat * 256 + b.toNat := by simp [numB]
theorem numB_four (a b c d : UInt8) : numB [a, b, c, d] = ((a.toNat * 256 + b.toNat) * 256 + c.toNat) * 256 + d.toNat := by simp [numB]
theorem byN_one {n : Int} (h : 0 ≤ n ∧ n ≤ 255) : ((numB [byN n 0] : Nat) : Int) = n := by
  rw [numB_one]; simp only [byN, UInt8.toNat_ofNat']; omega
theorem byN_two {n : Int} (h : 0 ≤ n ∧ n ≤ 65535) : ((numB [byN n 1, byN n 0] : Nat) : Int) = n := by
  rw [numB_two]; simp only [byN, UInt8.toNat_ofNat']; omega
theorem byN_four {n : Int} (h : 1 ≤ n ∧ n ≤ 2147483647) : ((numB [byN n 3, byN n 2, byN n 1, byN n 0] : Nat) : Int) = n := by
  rw [numB_four]; simp only [byN, UInt8.toNat_ofNat']; omega
theorem suB_get (s : Su) (k : Nat) (hk : k < 28) : (suB s).getD k 0 = (suBody s).getD k 0 := by
  rw [suB_eq, List.getD_eq_getElem?_getD, List.getElem?_append_left (by show k < 28; exact hk), List.getD_eq_getElem?_getD]
theorem flds_of {bs : List UInt8} {s : Su} (h : ∀ k, k < 28 → bs.getD k 0 = (suBody s).getD k 0) (hi : SuIn s) : flds bs = s := by
  have hr : ((((rnB s.r).toNat : Nat) : Int) == 1) = s.r := by cases s.r <;> rfl
  unfold flds
  rw [h 4 (by omega), h 5 (by omega), h 6 (by omega), h 7 (by omega), h 8 (by omega), h 9 (by omega), h 10 (by omega), h 11 (by omega), h 12 (by omega), h 13 (by omega), h 14 (by omega), h 15 (by omega), h 16 (by omega), h 17 (by omega), h 18 (by omega)]
  have e : (⟨numB [byN s.g 3, byN s.g 2, byN s.g 1, byN s.g 0], numB [byN s.al 0], numB [byN s.ad 0], numB [byN s.ac 0], numB [byN s.bl 0], numB [byN s.bd 0], numB [byN s.bc 0], (((rnB s.r).toNat : Nat) : Int) == 1, numB [byN s.wi 0], numB [byN s.ep 1, byN s.ep 0], numB [byN s.ou 0]⟩ : Su) = s := by
    rw [byN_four hi.g, byN_one hi.al, byN_one hi.ad, byN_one hi.ac, byN_one hi.bl, byN_one hi.bd, byN_one hi.bc, hr, byN_one hi.wi, byN_two hi.ep, byN_one hi.ou]
  exact e
theorem flds_suB {s : Su} (h : suOk s = true) : flds (suB s) = s := flds_of (suB_get s) (suIn h)
/-- A sector is that of a Super. -/
def decO (bs : List UInt8) : Bool := decide (bs.length = 32) && suOk (flds bs) && decide (suB (flds bs) = bs)
def decS (bs : List UInt8) : Su := if decO bs = true then flds bs else suZ
def decE (bs : List UInt8) : Int := if decO bs = true then 0 else 2
theorem decE_yes {bs : List UInt8} (h : decO bs = true) : decE bs = 0 := if_pos h
theorem decE_no {bs : List UInt8} (h : decO bs = false) : decE bs = 2 := if_neg (by rw [h]; decide)
theorem decS_yes {bs : List UInt8} (h : decO bs = true) : decS bs = flds bs := if_pos h
theorem decS_no {bs : List UInt8} (h : decO bs = false) : decS bs = suZ := if_neg (by rw [h]; decide)
theorem decO_iff (bs : List UInt8) : decO bs = true ↔ bs.length = 32 ∧ suOk (flds bs) = true ∧ suB (flds bs) = bs := by
  simp [decO, and_assoc]
theorem decO_mk {bs : List UInt8} (h1 : bs.length = 32) (h2 : suOk (flds bs) = true) (h3 : suB (flds bs) = bs) : decO bs = true := (decO_iff bs).2 ⟨h1, h2, h3⟩
theorem decO_not {bs : List UInt8} (h : ¬ (bs.length = 32 ∧ suOk (flds bs) = true ∧ suB (flds bs) = bs)) : decO bs = false := by
  rw [← Bool.not_eq_true]; exact fun h' => h ((decO_iff bs).1 h')
theorem decO_right {bs : List UInt8} (h : decO bs = true) : rightB bs [] = true := by
  rw [← ((decO_iff bs).1 h).2.2]; exact suB_right _
theorem decO_suB {s : Su} (h : suOk s = true) : decO (suB s) = true := by
  have e := flds_suB h
  exact decO_mk (suB_len s) (by rw [e]; exact h) (by rw [e])
theorem decS_suB {s : Su} (h : suOk s = true) : decS (suB s) = s := (decS_yes (decO_suB h)).trans (flds_suB h)
theorem suB_inj {s t : Su} (hs : suOk s = true) (ht : suOk t = true) (h : suB s = suB t) : s = t := by
  rw [← flds_suB hs, h, flds_suB ht]
/-- One byte turned: it is a Super's no more, unless by nothing. -/
theorem dec_turned {s : Su} (h : suOk s = true) (i : Nat) (hi : i < 32) (c : UInt8) : decO ((suB s).set i ((suB s).getD i 0 ^^^ c)) = ((c.toNat : Int) == 0) := by
  have hr := right_set (suB_right s) i hi c
  by_cases hc : c = 0
  · subst hc
    have e : (suB s).set i ((suB s).getD i 0 ^^^ 0) = suB s := by
      rw [UInt8.xor_zero]
      apply List.ext_getElem (by simp)
      intro n h1 h2
      rw [List.getElem_set]
      split
      · subst_vars; simp [List.getD_eq_getElem?_getD, h2]
      · rfl
    rw [e, decO_suB h]; rfl
  · have h0 : ((c.toNat : Int) == 0) = false := by rw [byte_eq0]; exact decide_eq_false hc
    rw [h0] at hr ⊢
    rw [← Bool.not_eq_true]
    intro h'
    rw [decO_right h'] at hr
    cases hr
end Go.Proofs.YtoomdgidpplpfaaDoor
end
section
namespace Go.Proofs.YtoomdgidpplpfaaDoor

/-- An Item: its disk, its place, its bytes. -/
structure It where
  d : Int
  a : Int
  b : List UInt8
def itZ : It := ⟨0, 0, []⟩
/-- Whole numbers of 64 digits, and bytes that fit in memory. -/
structure It64 (x : It) : Prop where
  d : (-9223372036854775808 ≤ x.d ∧ x.d ≤ 9223372036854775807)
  a : (-9223372036854775808 ≤ x.a ∧ x.a ≤ 9223372036854775807)
theorem It.ext' {x y : It} (h1 : x.d = y.d) (h2 : x.a = y.a) (h3 : x.b = y.b) : x = y := by
  obtain ⟨a1, a2, a3⟩ := x
  obtain ⟨b1, b2, b3⟩ := y
  dsimp only at h1 h2 h3
  subst h1 h2 h3
  rfl
def mayB (x : It) : Bool := decide (0 ≤ x.d ∧ x.d < 8 ∧ 36 ≤ x.a ∧ x.a < 52 ∧ x.b.length = 32)
def meetsB (x y : It) : Bool := decide (x.d = y.d ∧ x.a = y.a)
theorem mayB_iff (x : It) : mayB x = true ↔ (0 ≤ x.d ∧ x.d < 8 ∧ 36 ≤ x.a ∧ x.a < 52 ∧ x.b.length = 32) := by simp [mayB]
theorem meetsB_iff (x y : It) : meetsB x y = true ↔ (x.d = y.d ∧ x.a = y.a) := by simp [meetsB]
def itN (l : List It) (k : Nat) : It := l.getD k itZ
/-- The first n of them may be beside one another. -/
def fineN (l : List It) (n : Nat) : Bool := decide (∀ k, k < n → mayB (itN l k) = true ∧ ∀ j, j < k → meetsB (itN l k) (itN l j) = false)
theorem fineN_iff (l : List It) (n : Nat) : fineN l n = true ↔ ∀ k, k < n → mayB (itN l k) = true ∧ ∀ j, j < k → meetsB (itN l k) (itN l j) = false := by simp [fineN]
def recOk (s : Int) (l : List It) : Bool := decide (1 ≤ s ∧ s ≤ 2147483647 ∧ l.length ≤ 3) && fineN l l.length
theorem recOk_iff (s : Int) (l : List It) : recOk s l = true ↔ (1 ≤ s ∧ s ≤ 2147483647 ∧ l.length ≤ 3) ∧ fineN l l.length = true := by simp [recOk]
def recErr (s : Int) (l : List It) : Int := if recOk s l = true then 0 else 1
theorem recErr_yes {s : Int} {l : List It} (h : recOk s l = true) : recErr s l = 0 := if_pos h
theorem recErr_no {s : Int} {l : List It} (h : recOk s l = false) : recErr s l = 1 := if_neg (by rw [h]; decide)
theorem recOk_no {s : Int} {l : List It} (h : ¬ (1 ≤ s ∧ s ≤ 2147483647 ∧ l.length ≤ 3)) : recOk s l = false := by
  rw [← Bool.not_eq_true]; exact fun h' => h ((recOk_iff s l).1 h').1
theorem recOk_at {s : Int} {l : List It} (k : Nat) (hk : k < l.length) (h : mayB (itN l k) = false) : recOk s l = false := by
  rw [← Bool.not_eq_true]; intro h'
  have := ((fineN_iff _ _).1 ((recOk_iff s l).1 h').2 k hk).1
  rw [h] at this; cases this
theorem recOk_two {s : Int} {l : List It} (k j : Nat) (hk : k < l.length) (hj : j < k) (h : meetsB (itN l k) (itN l j) = true) : recOk s l = false := by
  rw [← Bool.not_eq_true]; intro h'
  have := ((fineN_iff _ _).1 ((recOk_iff s l).1 h').2 k hk).2 j hj
  rw [h] at this; cases this
theorem itN_mem {l : List It} {k : Nat} (hk : k < l.length) : itN l k ∈ l := by
  unfold itN
  rw [List.getD_eq_getElem?_getD, List.getElem?_eq_getElem hk]
  exact List.getElem_mem hk
theorem recOk_may {s : Int} {l : List It} (h : recOk s l = true) (x : It) (hx : x ∈ l) : 0 ≤ x.d ∧ x.d < 8 ∧ 36 ≤ x.a ∧ x.a < 52 ∧ x.b.length = 32 := by
  obtain ⟨k, hk, rfl⟩ := List.getElem_of_mem hx
  have := ((fineN_iff _ _).1 ((recOk_iff s l).1 h).2 k hk).1
  rw [show itN l k = l[k] from by simp [itN, List.getD_eq_getElem?_getD, hk]] at this
  exact (mayB_iff _).1 this
theorem byX_one {n : Int} (h : 0 ≤ n ∧ n ≤ 255) : (((byN n 0).toNat : Nat) : Int) = n := by
  simp only [byN, UInt8.toNat_ofNat']; omega
/-- What the first sector says of the Items. -/
def plcB (l : List It) : List UInt8 := l.flatMap fun x => [byN x.d 0, byN x.a 0]
theorem plcB_len (l : List It) : (plcB l).length = 2 * l.length := by
  induction l with
  | nil => rfl
  | cons x l ih => show (plcB l).length + 2 = _; rw [ih, List.length_cons]; omega
theorem plcB_snoc (l : List It) (x : It) : plcB (l ++ [x]) = plcB l ++ [byN x.d 0, byN x.a 0] := by simp [plcB]
def hdB (s : Int) (l : List It) : List UInt8 := [87, 82, 69, 67, byN s 3, byN s 2, byN s 1, byN s 0, UInt8.ofNat l.length] ++ plcB l
theorem hdB_len (s : Int) (l : List It) : (hdB s l).length = 9 + 2 * l.length := by
  show (plcB l).length + 9 = _; rw [plcB_len]; omega
def z32 : List UInt8 := List.replicate 32 0
/-- The first sector, ahead of its seal. -/
def fullB (s : Int) (l : List It) : List UInt8 := hdB s l ++ List.replicate (32 - (hdB s l).length) 0
theorem fullB_len {s : Int} {l : List It} (h : l.length ≤ 3) : (fullB s l).length = 32 := by
  simp only [fullB, List.length_append, hdB_len, List.length_replicate]; omega
def partsB (l : List It) : List (List UInt8) := l.map (·.b) ++ List.replicate (3 - l.length) z32
theorem partsB_len {l : List It} (h : l.length ≤ 3) : (partsB l).length = 3 := by simp [partsB]; omega
/-- A Record's sectors. -/
def recB (s : Int) (l : List It) : List (List UInt8) := stamped (fullB s l) (partsB l) :: partsB l
theorem recB_len {s : Int} {l : List It} (h : l.length ≤ 3) : (recB s l).length = 4 := by
  show (partsB l).length + 1 = 4; rw [partsB_len h]
/-- What the sectors say. -/
def sqO (rs : List (List UInt8)) : Int := numB [(rs.getD 0 []).getD 4 0, (rs.getD 0 []).getD 5 0, (rs.getD 0 []).getD 6 0, (rs.getD 0 []).getD 7 0]
def cnO (rs : List (List UInt8)) : Nat := ((rs.getD 0 []).getD 8 0).toNat
def itO (rs : List (List UInt8)) (i : Nat) : It := ⟨((rs.getD 0 []).getD (9 + 2 * i) 0).toNat, ((rs.getD 0 []).getD (10 + 2 * i) 0).toNat, rs.getD (1 + i) []⟩
def itsN (rs : List (List UInt8)) (n : Nat) : List It := (List.range n).map (itO rs)
def itsO (rs : List (List UInt8)) : List It := itsN rs (min (cnO rs) 3)
theorem itsN_len (rs : List (List UInt8)) (n : Nat) : (itsN rs n).length = n := by simp [itsN]
theorem itsN_succ (rs : List (List UInt8)) (n : Nat) : itsN rs (n + 1) = itsN rs n ++ [itO rs n] := by simp [itsN, List.range_succ]
theorem itsN_at (rs : List (List UInt8)) (n k : Nat) (hk : k < n) : itN (itsN rs n) k = itO rs k := by
  simp [itN, itsN, List.getD_eq_getElem?_getD, hk]
/-- They are four sectors. -/
def sect (rs : List (List UInt8)) : Bool := decide (rs.length = 4) && rs.all fun x => decide (x.length = 32)
theorem sect_iff (rs : List (List UInt8)) : sect rs = true ↔ rs.length = 4 ∧ ∀ x ∈ rs, x.length = 32 := by simp [sect]
theorem sect_get {rs : List (List UInt8)} (h : sect rs = true) (k : Nat) (hk : k < 4) : (rs.getD k []).length = 32 := by
  obtain ⟨h1, h2⟩ := (sect_iff rs).1 h
  rw [List.getD_eq_getElem?_getD, List.getElem?_eq_getElem (by omega)]
  exact h2 _ (List.getElem_mem _)
def rcO (rs : List (List UInt8)) : Bool := sect rs && recOk (sqO rs) (itsO rs) && decide (recB (sqO rs) (itsO rs) = rs)
theorem rcO_iff (rs : List (List UInt8)) : rcO rs = true ↔ sect rs = true ∧ recOk (sqO rs) (itsO rs) = true ∧ recB (sqO rs) (itsO rs) = rs := by simp [rcO, and_assoc]
theorem rcO_not {rs : List (List UInt8)} (h : ¬ (sect rs = true ∧ recOk (sqO rs) (itsO rs) = true ∧ recB (sqO rs) (itsO rs) = rs)) : rcO rs = false := by
  rw [← Bool.not_eq_true]; exact fun h' => h ((rcO_iff rs).1 h')
def rcS (rs : List (List UInt8)) : Int := if rcO rs = true then sqO rs else 0
def rcL (rs : List (List UInt8)) : List It := if rcO rs = true then itsO rs else []
def rcE (rs : List (List UInt8)) : Int := if rcO rs = true then 0 else 2
/-! The sectors of a Record say it. -/
theorem partsB_get {l : List It} (k : Nat) (hk : k < l.length) : (partsB l).getD k [] = (itN l k).b := by
  simp [partsB, itN, List.getD_eq_getElem?_getD, hk, List.getElem?_append_left]
theorem recB_get0 (s : Int) (l : List It) : (recB s l).getD 0 [] = stamped (fullB s l) (partsB l) := rfl
theorem recB_getS (s : Int) (l : List It) (k : Nat) : (recB s l).getD (1 + k) [] = (partsB l).getD k [] := by
  rw [Nat.add_comm]; simp [recB, List.getD_eq_getElem?_getD]
theorem stamped_get {bs : List UInt8} {rs : List (List UInt8)} (hl : bs.length = 32) (k : Nat) (hk : k < 28) : (stamped bs rs).getD k 0 = bs.getD k 0 := by
  unfold stamped
  rw [List.getD_eq_getElem?_getD, List.getElem?_append_left (by simp; omega), List.getElem?_take, if_pos hk, List.getD_eq_getElem?_getD]
theorem fullB_get {s : Int} {l : List It} (k : Nat) (hk : k < 9 + 2 * l.length) : (fullB s l).getD k 0 = (hdB s l).getD k 0 := by
  unfold fullB
  rw [List.getD_eq_getElem?_getD, List.getElem?_append_left (by rw [hdB_len]; exact hk), List.getD_eq_getElem?_getD]
theorem plcB_get (l : List It) (k : Nat) (hk : k < l.length) : (plcB l).getD (2 * k) 0 = byN (itN l k).d 0 ∧ (plcB l).getD (2 * k + 1) 0 = byN (itN l k).a 0 := by
  induction l generalizing k with
  | nil => simp at hk
  | cons x l ih =>
    match k with
    | 0 => exact ⟨rfl, rfl⟩
    | k + 1 =>
      have := ih k (by simp at hk; omega)
      refine ⟨?_, ?_⟩
      · exact this.1
      · exact this.2
theorem hdB_get9 (s : Int) (l : List It) (j : Nat) : (hdB s l).getD (9 + j) 0 = (plcB l).getD j 0 := by
  unfold hdB
  rw [List.getD_eq_getElem?_getD, List.getElem?_append_right (by simp), List.getD_eq_getElem?_getD]
  congr 2
  simp
theorem recB_by {s : Int} {l : List It} (h : l.length ≤ 3) (k : Nat) (hk : k < 9 + 2 * l.length) : ((recB s l).getD 0 []).getD k 0 = (hdB s l).getD k 0 := by
  rw [recB_get0, stamped_get (fullB_len h) k (by omega), fullB_get k hk]
theorem sqO_recB {s : Int} {l : List It} (h : recOk s l = true) : sqO (recB s l) = s := by
  obtain ⟨⟨h1, h2, h3⟩, _⟩ := (recOk_iff s l).1 h
  unfold sqO
  rw [recB_by h3 4 (by omega), recB_by h3 5 (by omega), recB_by h3 6 (by omega), recB_by h3 7 (by omega)]
  exact byN_four ⟨h1, h2⟩
theorem cnO_recB {s : Int} {l : List It} (h : l.length ≤ 3) : cnO (recB s l) = l.length := by
  unfold cnO
  rw [recB_by h 8 (by omega)]
  show (UInt8.ofNat l.length).toNat = _
  rw [UInt8.toNat_ofNat']; omega
theorem itO_recB {s : Int} {l : List It} (h : recOk s l = true) (k : Nat) (hk : k < l.length) : itO (recB s l) k = itN l k := by
  obtain ⟨⟨h1, h2, h3⟩, _⟩ := (recOk_iff s l).1 h
  have hm := recOk_may h _ (itN_mem hk)
  have e1 : ((recB s l).getD 0 []).getD (9 + 2 * k) 0 = byN (itN l k).d 0 := by
    rw [recB_by h3 _ (by omega), hdB_get9, (plcB_get l k hk).1]
  have e2 : ((recB s l).getD 0 []).getD (10 + 2 * k) 0 = byN (itN l k).a 0 := by
    rw [recB_by h3 _ (by omega), show 10 + 2 * k = 9 + (2 * k + 1) by omega, hdB_get9, (plcB_get l k hk).2]
  have e3 : (recB s l).getD (1 + k) [] = (itN l k).b := by rw [recB_getS, partsB_get k hk]
  apply It.ext'
  · show ((((recB s l).getD 0 []).getD (9 + 2 * k) 0).toNat : Int) = _
    rw [e1]; exact byX_one (by omega)
  · show ((((recB s l).getD 0 []).getD (10 + 2 * k) 0).toNat : Int) = _
    rw [e2]; exact byX_one (by omega)
  · exact e3
theorem itsO_recB {s : Int} {l : List It} (h : recOk s l = true) : itsO (recB s l) = l := by
  obtain ⟨⟨h1, h2, h3⟩, _⟩ := (recOk_iff s l).1 h
  have e : itsO (recB s l) = itsN (recB s l) l.length := by unfold itsO; rw [cnO_recB h3, Nat.min_eq_left h3]
  rw [e]
  apply List.ext_getElem (itsN_len _ _)
  intro k h1' h2'
  have := itO_recB h k h2'
  simp only [itsN, List.getElem_map, List.getElem_range]
  rw [this]
  simp [itN, List.getD_eq_getElem?_getD, h2']
theorem sect_recB {s : Int} {l : List It} (h : recOk s l = true) : sect (recB s l) = true := by
  obtain ⟨⟨h1, h2, h3⟩, _⟩ := (recOk_iff s l).1 h
  refine (sect_iff _).2 ⟨recB_len h3, fun x hx => ?_⟩
  rcases List.mem_cons.1 hx with rfl | hx
  · exact stamped_len _ _ (fullB_len h3)
  · rcases List.mem_append.1 hx with hx | hx
    · obtain ⟨y, hy, rfl⟩ := List.mem_map.1 hx
      exact (recOk_may h y hy).2.2.2.2
    · rw [(List.mem_replicate.1 hx).2]; rfl
theorem rcO_recB {s : Int} {l : List It} (h : recOk s l = true) : rcO (recB s l) = true := by
  refine (rcO_iff _).2 ⟨sect_recB h, ?_, ?_⟩
  · rw [sqO_recB h, itsO_recB h]; exact h
  · rw [sqO_recB h, itsO_recB h]
theorem rcS_recB {s : Int} {l : List It} (h : recOk s l = true) : rcS (recB s l) = s := (if_pos (rcO_recB h)).trans (sqO_recB h)
theorem rcL_recB {s : Int} {l : List It} (h : recOk s l = true) : rcL (recB s l) = l := (if_pos (rcO_recB h)).trans (itsO_recB h)
theorem rcE_recB {s : Int} {l : List It} (h : recOk s l = true) : rcE (recB s l) = 0 := if_pos (rcO_recB h)
theorem recB_inj {s t : Int} {l m : List It} (h : recOk s l = true) (g : recOk t m = true) (e : recB s l = recB t m) : s = t ∧ l = m :=
  ⟨by rw [← sqO_recB h, e, sqO_recB g], by rw [← itsO_recB h, e, itsO_recB g]⟩
theorem recB_right {s : Int} {l : List It} (h : l.length ≤ 3) : rightB (stamped (fullB s l) (partsB l)) (partsB l) = true := right_stamped _ _ (fullB_len h)
/-- What is a Record's is sealed rightly. -/
theorem rcO_right {rs : List (List UInt8)} (h : rcO rs = true) : rightB (rs.getD 0 []) (rs.drop 1) = true := by
  obtain ⟨_, h1, h2⟩ := (rcO_iff rs).1 h
  rw [← h2]
  exact recB_right ((recOk_iff _ _).1 h1).1.2.2
/-- Byte i of sector k turned. -/
def turnB (rs : List (List UInt8)) (k i : Nat) (c : UInt8) : List (List UInt8) := rs.set k ((rs.getD k []).set i ((rs.getD k []).getD i 0 ^^^ c))
theorem set_same (bs : List UInt8) (i : Nat) : bs.set i (bs.getD i 0) = bs := by
  apply List.ext_getElem (by simp)
  intro n h1 h2
  rw [List.getElem_set]
  split
  · subst_vars; simp [List.getD_eq_getElem?_getD, h2]
  · rfl
theorem set_sameR (rs : List (List UInt8)) (k : Nat) : rs.set k (rs.getD k []) = rs := by
  apply List.ext_getElem (by simp)
  intro n h1 h2
  rw [List.getElem_set]
  split
  · subst_vars; simp [List.getD_eq_getElem?_getD, h2]
  · rfl
theorem turnB_zero (rs : List (List UInt8)) (k i : Nat) : turnB rs k i 0 = rs := by
  unfold turnB
  rw [UInt8.xor_zero, set_same, set_sameR]
/-- Three sectors, one byte turned in one of them: as one part. -/
theorem flat_set (ps : List (List UInt8)) (k i : Nat) (d : UInt8) (hk : k < ps.length) (hi : i < (ps.getD k []).length) :
    ∃ j, j < ps.flatten.length ∧ (ps.set k ((ps.getD k []).set i d)).flatten = ps.flatten.set j d ∧ ps.flatten.getD j 0 = (ps.getD k []).getD i 0 := by
  induction ps generalizing k with
  | nil => simp at hk
  | cons p ps ih =>
    match k with
    | 0 =>
      have hi' : i < p.length := hi
      refine ⟨i, by rw [List.flatten_cons, List.length_append]; omega, ?_, ?_⟩
      · show p.set i d ++ ps.flatten = (p ++ ps.flatten).set i d
        rw [List.set_append_left _ _ hi']
      · show (p ++ ps.flatten).getD i 0 = p.getD i 0
        rw [List.getD_eq_getElem?_getD, List.getElem?_append_left hi', List.getD_eq_getElem?_getD]
    | k + 1 =>
      obtain ⟨j, h1, h2, h3⟩ := ih k (by simpa using hk) hi
      refine ⟨p.length + j, by rw [List.flatten_cons, List.length_append]; omega, ?_, ?_⟩
      · show p ++ (ps.set k ((ps.getD k []).set i d)).flatten = (p ++ ps.flatten).set (p.length + j) d
        rw [h2, List.set_append_right _ _ (by omega)]
        congr 2
        omega
      · show (p ++ ps.flatten).getD (p.length + j) 0 = _
        rw [List.getD_eq_getElem?_getD, List.getElem?_append_right (by omega), ← List.getD_eq_getElem?_getD, show p.length + j - p.length = j by omega]
        exact h3
theorem right_turned {b : List UInt8} {ps : List (List UInt8)} (h : rightB b ps = true) (k i : Nat) (c : UInt8) (hk : k < ps.length) (hi : i < (ps.getD k []).length) :
    rightB b (ps.set k ((ps.getD k []).set i ((ps.getD k []).getD i 0 ^^^ c))) = ((c.toNat : Int) == 0) := by
  obtain ⟨j, h1, h2, h3⟩ := flat_set ps k i ((ps.getD k []).getD i 0 ^^^ c) hk hi
  have e1 : rightB b [ps.flatten] = true := right_parts h (by simp)
  have e2 := right_part e1 j h1 c
  rw [h3] at e2
  rw [← e2]
  rw [Bool.eq_iff_iff]
  exact ⟨fun g => right_parts g (by rw [h2]; simp), fun g => right_parts g (by rw [h2]; simp)⟩
/-- One byte turned: they are a Record's no more, unless by nothing. -/
theorem rec_turned {s : Int} {l : List It} (h : recOk s l = true) (k i : Nat) (hk : k < 4) (hi : i < 32) (c : UInt8) : rcO (turnB (recB s l) k i c) = ((c.toNat : Int) == 0) := by
  obtain ⟨⟨_, _, h3⟩, _⟩ := (recOk_iff s l).1 h
  by_cases hc : c = 0
  · subst hc
    rw [turnB_zero, rcO_recB h]; rfl
  · have h0 : ((c.toNat : Int) == 0) = false := by rw [byte_eq0]; exact decide_eq_false hc
    rw [h0, ← Bool.not_eq_true]
    intro h'
    have hr := rcO_right h'
    have hb := recB_right (s := s) h3
    have hsz := sect_get (sect_recB h) k hk
    match k, hk with
    | 0, _ =>
      have := right_set hb i hi c
      rw [h0] at this
      have e : rightB ((turnB (recB s l) 0 i c).getD 0 []) ((turnB (recB s l) 0 i c).drop 1) = false := this
      rw [e] at hr; cases hr
    | k + 1, hk =>
      have hp : k < (partsB l).length := by rw [partsB_len h3]; omega
      have hsz' : i < ((partsB l).getD k []).length := by
        have : (recB s l).getD (k + 1) [] = (partsB l).getD k [] := rfl
        rw [← this, hsz]; exact hi
      have := right_turned hb k i c hp hsz'
      rw [h0] at this
      have e : rightB ((turnB (recB s l) (k + 1) i c).getD 0 []) ((turnB (recB s l) (k + 1) i c).drop 1) = false := this
      rw [e] at hr; cases hr
end Go.Proofs.YtoomdgidpplpfaaDoor
end
