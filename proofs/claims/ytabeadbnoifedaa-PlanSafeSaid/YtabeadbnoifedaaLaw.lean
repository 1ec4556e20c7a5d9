/- From a walk to a law's row, of no program: the arguments read again, the result is true; how an argument that is a slice of bytes is opened. -/
import Derived.Test.YtabeadbnoifedaaMem
import Derived.ProofKit
import Derived.OpenShut
import Derived.Carry
import Derived.SizedLaws
import GoSem.ClaimSeven
import Derived.Deep.DeepHandedRow
import Derived.Lib.LaidTab
namespace Go.Proofs.Ytabeadbnoifedaa
open Go.ChangeShapes Go.WideShapes Go.ChangeAt Go.RowKit

section
variable {H : Type} {enc : TypeId × Value → H} {P : Program}

/-- All arguments read behind the call as they did, where nothing old has turned. -/
theorem args_again (hl : laidOutB P = true) {W W' : World} (hb : Below W.heap.size W W') :
    ∀ {ts : List TypeId} {vs : List Value} {ds : List (DataW H)} {p : List MemPlace}, (∀ t ∈ ts, P.readableRec t = true ∧ t < P.types.size) →
      DataW.TrodAll enc P W 0 (fun _ => true) true ts vs ds p → (∀ x ∈ p, x.block < W.heap.size) → DataW.TrodAll enc P W' 0 (fun b => decide (b < W.heap.size)) true ts vs ds p
  | [], _, _, _, _, h, _ => by
    obtain ⟨rfl, rfl, rfl⟩ := trodAll_nil h
    exact trodAll_mk0
  | t :: ts, _, _, _, hts, h, hlt => by
    obtain ⟨v, vs1, d, ds1, a, b, rfl, rfl, rfl, h1, h2⟩ := trodAll_cons h
    have ht := hts t (by simp)
    exact trodAll_cons_mk (Below.trod hl ht.1 ht.2 h1 hb fun x hx => hlt x (by simp [hx])) (args_again hl hb (fun t' ht' => hts t' (by simp [ht'])) h2 fun x hx => hlt x (by simp [hx]))

/-- A law's row behind the walk: true came back, and nothing old has turned. -/
theorem law_post {f : Func} {s : ChangeSpec} {W W' : World} {args : Array Value} {ds gs : List (DataW H)} {before : List MemPlace} {tb : TypeId} (hl : laidOutB P = true)
    (hts0 : (f.params.toList.all fun t => P.readableRec t && decide (t < P.types.size)) = true) (hv : s.vars = []) (hr : f.resultTypes = #[tb]) (htb : P.underlying tb = some .bool)
    (hfn : ∀ l : List (DataW H), l.length = f.params.size → (s.fn H l).results = [.lit (.bool true)] ∧ (s.fn H l).args = l ∧ (s.fn H l).vars = [])
    (hW : DataW.Whole enc P f.params.toList s.vars false W args.toList ds gs before) (hb : Below W.heap.size W W') :
    ∃ v, Ending.returned (.bool true) = .returned v ∧ s.post enc P f false true false false W args v W' := by
  have hts : ∀ t ∈ f.params.toList, P.readableRec t = true ∧ t < P.types.size := fun t ht => by simpa using List.all_eq_true.1 hts0 t ht
  have hW' := hW
  obtain ⟨p, q, hA, hV, rfl, hfz, hnd⟩ := hW
  rw [hv] at hV
  obtain ⟨rfl, rfl⟩ := trodVars_none hV
  have hlen : ds.length = f.params.size := by
    have : ∀ {ts : List TypeId} {vs : List Value} {ds : List (DataW H)} {p : List MemPlace}, DataW.TrodAll enc P W 0 (fun _ => true) true ts vs ds p → ds.length = ts.length := by
      intro ts
      induction ts with
      | nil => intro vs ds p h; obtain ⟨rfl, rfl, rfl⟩ := trodAll_nil h; rfl
      | cons t ts ih => intro vs ds p h; obtain ⟨v, vs1, d, ds1, a, b, rfl, rfl, rfl, h1, h2⟩ := trodAll_cons h; simp [ih h2]
    simpa using this hA
  obtain ⟨e1, e2, e3⟩ := hfn ds hlen
  have hlt : ∀ x ∈ p ++ [], x.block < W.heap.size := fun x hx => by simpa using hW'.lt x hx
  refine ⟨_, rfl, _, _, _, [], p, [], hW', ?_, ?_, ?_, hb.frame _, fun h => by cases h⟩
  · rw [List.append_nil, e1, hr]
    exact trodAll_mk1 (shut_bool htb _)
  · rw [List.append_nil, e2]
    exact args_again hl hb hts hA (by simpa using hlt)
  · rw [List.append_nil, e3, hv]
    rfl

theorem byte_of {z : Int} (h : 0 ≤ z ∧ z ≤ 255) : ∃ b : UInt8, z = (b.toNat : Int) := ⟨UInt8.ofNat z.toNat, by rw [UInt8.toNat_ofNat', Nat.mod_eq_of_lt (by omega)]; omega⟩
/-- No parameter wants a stand-in: what a card asks. -/
theorem plain_of {name : String} {f0 : FuncId} {fn0 : Func} (h1 : P.funcNamed name = some f0) (h2 : P.funcs[f0]? = some fn0) (h3 : P.looks [] = false) (h4 : (fn0.params.toList.all fun t => !P.wantsStandIn t) = true) (f : FuncId) (fn : Func)
    (hf : P.funcNamed name = some f) (hfn : P.funcs[f]? = some fn) : false = P.looks [] ∧ ∀ (j : Nat) t, fn.params[j]? = some t → P.wantsStandIn t = false := by
  obtain rfl : f = f0 := Option.some.inj (hf.symm.trans h1)
  obtain rfl : fn = fn0 := Option.some.inj (hfn.symm.trans h2)
  refine ⟨h3.symm, fun j t ht => ?_⟩
  have := List.all_eq_true.1 h4 t (by simpa using Array.mem_of_getElem? ht)
  simpa using this

/-- A slice of bytes that came in. -/
theorem open_bytes {t e : TypeId} (ht : P.underlying t = some (.slice e)) (he : P.underlying e = some (.int .u8)) (hc : P.cellsOf e = 1) (hby : P.bytesOf e = 1) {r : Reach} {W : World} {base : Nat} {v : Value} {d : DataW H} {p : List MemPlace}
    (hv : Value.okWide P W r base t v) (h : DataW.Trod enc P W 0 (fun _ => true) true t v d p) (hs : ∀ n ∈ d.weights P t, n ≤ reachBytes) :
    ∃ A bs cap, v = .slice A bs.length cap ∧ bs.length ≤ cap ∧ cap ≤ 140737488355328 ∧ RdB W W.heap.size A bs := by
  obtain ⟨A, len, cap, rfl⟩ := okWide_slice ht hv
  obtain ⟨fuel, hf⟩ := h
  rcases open_ints ht he hc hf with ⟨hcs, _⟩ | ⟨x, l, c, zs, hcs, _, hl, hm, hz, hd, hcell, hwz⟩
  · simp [Value.cells] at hcs
    obtain ⟨rfl, rfl, rfl⟩ := hcs
    exact ⟨none, [], 0, rfl, Nat.le_refl _, by omega, RdB.nil _ _ _⟩
  · simp [Value.cells] at hcs
    obtain ⟨rfl, rfl, rfl⟩ := hcs
    simp only [if_true] at hz
    have hcap : cap ≤ 140737488355328 := by
      injection hd with hd1 hd2
      have := hs ((((zs.take len).map fun z => (DataW.lit (.int .u8 z) : DataW H)).length + ((zs.drop len).map fun z => (DataW.lit (.int .u8 z) : DataW H)).length) * P.bytesOf e) (by rw [hd1]; simp [DataW.weights, ht, lits])
      rw [hby] at this
      simp [reachBytes] at this
      omega
    have hb : ∀ k, k < zs.length → ∃ b : UInt8, zs.getD k 0 = (b.toNat : Int) := fun k hk => by
      have hmem : zs.getD k 0 ∈ zs := by simp [hk]
      have hw := bounds_u8 (hwz _ hmem)
      refine ⟨UInt8.ofNat (zs.getD k 0).toNat, ?_⟩
      rw [UInt8.toNat_ofNat', Nat.mod_eq_of_lt (by omega)]
      omega
    refine ⟨some x, (zs.take len).map fun z => UInt8.ofNat z.toNat, cap, ?_, ?_, hcap, ?_⟩
    · simp; omega
    · simp; omega
    · refine ⟨by simp; omega, fun hn => ?_⟩
      simp at hn
      obtain ⟨b, off, spot⟩ := x
      have hc0 := hcell 0 (by omega)
      have hspot : spot = none := by simpa [Addr.add] using World.cell?_spot hc0
      subst hspot
      refine ⟨b, off, rfl, ?_, fun k hk => ?_⟩
      · have := World.block_lt_of_cell? _ _ hc0
        simpa [Addr.add] using this
      · simp at hk
        have hk1 := hcell k (by omega)
        obtain ⟨bb, hbb⟩ := hb k (by omega)
        rw [hbb] at hk1
        have e1 : ((⟨b, off, none⟩ : Addr).add k) = ⟨b, off + k, none⟩ := by unfold Addr.add; by_cases hk0 : k = 0 <;> simp [hk0]
        rw [e1] at hk1
        rw [hk1]
        have e2 : zs[k]? = some (bb.toNat : Int) := by rw [← hbb, List.getD_eq_getElem?_getD, List.getElem?_eq_getElem (by omega)]; rfl
        have e3 : ((zs.take len).map fun z => UInt8.ofNat z.toNat).getD k 0 = bb := by
          rw [List.getD_eq_getElem?_getD, List.getElem?_map, List.getElem?_take, if_pos (by omega), e2]
          simp
        rw [e3]
end
end Go.Proofs.Ytabeadbnoifedaa
