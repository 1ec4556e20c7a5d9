/- Texts put together: OpsKit, Bools, Within0, Gf, SyndMath, Law, CrcFind. -/
import Derived.Test.YtjnemopocmhfkaaDoorProg
import Derived.Test.YtjnemopocmhfkaaDoorBlaa
import Derived.Laws.BitsAllLaws
import Derived.Deep.DeepFit
import Derived.ProofKit
import Derived.OpenShut
import Derived.Carry
import Derived.SizedLaws
import GoSem.ClaimSeven
import Derived.Deep.DeepHandedRow
import Derived.Lib.LaidTab
section
namespace Go.Proofs.YtjnemopocmhfkaaDoor
open Go.RowKit

theorem info_u8 : (Tryd.prog.info? 5).map (fun i => (i.zero, i.size, i.bytes)) = some (some (.int .u8 0), 1, 1) := by kernel_rfl
theorem make_bytes (n : Nat) (hn : n ≤ 140737488355328) (w : World) :
    (Instr.makeSlice 48 (.int .i64 (n : Int)) (.int .i64 (n : Int))).run Tryd.prog w = .ok (.slice (some ⟨w.heap.size, 0, none⟩) n n) (w.alloc (.cells (zcells n) 5)) :=
  run_make_row' _ _ _ 1 Tryd.underlying48 info_u8 rfl _ _ n (by omega) (by omega) w
end Go.Proofs.YtjnemopocmhfkaaDoor
end
section
namespace Go.Proofs.YtjnemopocmhfkaaDoor
open Go.RowKit

/-- A slice that reads as yes and no. -/
def RdO (w : World) (B : Nat) (A : Option Addr) (ks : List Bool) : Prop :=
  ks.length ≤ 9223372036854775807 ∧ (0 < ks.length → ∃ b off, A = some ⟨b, off, none⟩ ∧ b < B ∧ ∀ k, k < ks.length → w.cell? ⟨b, off + k, none⟩ = some (.bool (ks.getD k false)))
theorem RdO.keep {w w' : World} {B B' : Nat} {A : Option Addr} {ks : List Bool} (h : RdO w B A ks) (hB : B ≤ B') (hk : ∀ p : Addr, p.block < B → w'.cell? p = w.cell? p) : RdO w' B' A ks :=
  ⟨h.1, fun hn => by
    obtain ⟨b, off, e, hb, hc⟩ := h.2 hn
    exact ⟨b, off, e, by omega, fun k hk' => (hk ⟨b, off + k, none⟩ hb).trans (hc k hk')⟩⟩
theorem RdO.below {w w' : World} {B B' : Nat} {A : Option Addr} {ks : List Bool} (h : RdO w B A ks) (hb : Below B' w w') (hB : B ≤ B') : RdO w' B A ks := h.keep (Nat.le_refl _) fun p hp => hb.cell (by omega)
/-- A slice that reads as these numbers. -/
def RdZ (w : World) (B : Nat) (A : Option Addr) (zs : List Int) : Prop :=
  zs.length ≤ 9223372036854775807 ∧ (∀ z ∈ zs, -9223372036854775808 ≤ z ∧ z ≤ 9223372036854775807) ∧ (0 < zs.length → ∃ b off, A = some ⟨b, off, none⟩ ∧ b < B ∧ ∀ k, k < zs.length → w.cell? ⟨b, off + k, none⟩ = some (.int .i64 (zs.getD k 0)))
theorem RdZ.nil (w : World) (B : Nat) (A : Option Addr) : RdZ w B A [] := ⟨by simp, fun z hz => by simp at hz, fun h => by simp at h⟩
theorem RdZ.keep {w w' : World} {B B' : Nat} {A : Option Addr} {zs : List Int} (h : RdZ w B A zs) (hB : B ≤ B') (hk : ∀ p : Addr, p.block < B → w'.cell? p = w.cell? p) : RdZ w' B' A zs :=
  ⟨h.1, h.2.1, fun hn => by
    obtain ⟨b, off, e, hb, hc⟩ := h.2.2 hn
    exact ⟨b, off, e, by omega, fun k hk' => (hk ⟨b, off + k, none⟩ hb).trans (hc k hk')⟩⟩
theorem RdZ.below {w w' : World} {B B' : Nat} {A : Option Addr} {zs : List Int} (h : RdZ w B A zs) (hb : Below B' w w') (hB : B ≤ B') : RdZ w' B A zs := h.keep (Nat.le_refl _) fun p hp => hb.cell (by omega)
theorem RdZ.bd {w : World} {B : Nat} {A : Option Addr} {zs : List Int} (h : RdZ w B A zs) (k : Nat) : -9223372036854775808 ≤ zs.getD k 0 ∧ zs.getD k 0 ≤ 9223372036854775807 := by
  by_cases hk : k < zs.length
  · exact h.2.1 _ (by simp [hk])
  · rw [List.getD_eq_getElem?_getD, List.getElem?_eq_none (by omega)]; simp
end Go.Proofs.YtjnemopocmhfkaaDoor
end
section
namespace Go.Proofs.YtjnemopocmhfkaaDoor
open Go.RowKit

def withinI (v n : Int) : Int := if n < 1 then 0 else v % n
theorem withinI_bd (v n : Int) (hn : 1 ≤ n) : 0 ≤ withinI v n ∧ withinI v n < n := by
  unfold withinI
  rw [if_neg (by omega)]
  exact ⟨Int.emod_nonneg _ (by omega), Int.emod_lt_of_pos _ (by omega)⟩
theorem tmod_within (v n : Int) (hn : 1 ≤ n) : withinI v n = if v.tmod n < 0 then v.tmod n + n else v.tmod n := by
  have h0 := Int.emod_nonneg v (show n ≠ 0 by omega)
  have h1 := Int.emod_lt_of_pos v (show 0 < n by omega)
  unfold withinI
  rw [if_neg (by omega), Int.tmod_eq_emod]
  split <;> split <;> omega
theorem within_any (v n : Int) (w : World) (hv : -9223372036854775808 ≤ v ∧ v ≤ 9223372036854775807) (hn : 1 ≤ n ∧ n ≤ 140737488355329) :
    Calls Tryd.prog 14 #[.int .i64 v, .int .i64 n] w fun e w' => e = .returned (.int .i64 (withinI v n)) ∧ w' = w := by
  obtain ⟨h1, h2⟩ := hn
  obtain ⟨h3, h4⟩ := hv
  have Ht := Lib.hid (tmod_within v n h1)
  have hlo : -n < v.tmod n := Int.lt_tmod_of_pos _ (by omega)
  have hhi : v.tmod n < n := Int.tmod_lt_of_pos _ (by omega)
  by_cases hneg : v.tmod n < 0
  · go_enter Tryd.func14, Tryd.ntmps14
    go_wp2
    go_ret
    exact ⟨by rw [Ht.out, if_pos hneg]; rfl, rfl⟩
  · go_enter Tryd.func14, Tryd.ntmps14
    go_wp2
    go_ret
    exact ⟨by rw [Ht.out, if_neg (by omega)]; rfl, rfl⟩
end Go.Proofs.YtjnemopocmhfkaaDoor
end
section
namespace Go.Proofs.YtjnemopocmhfkaaDoor
open Go.RowKit

end Go.Proofs.YtjnemopocmhfkaaDoor
end
section
namespace Go.Proofs.YtjnemopocmhfkaaDoor

end Go.Proofs.YtjnemopocmhfkaaDoor
end
section
namespace Go.Proofs.YtjnemopocmhfkaaDoor
open Go.ChangeShapes Go.WideShapes Go.ChangeAt Go.RowKit

section
variable {H : Type} {enc : TypeId × Value → H} {P : Program}

/-- All arguments read behind the call as they did, where nothing old has turned. -/
theorem args_again (hl : laidOutB P = true) {W W' : World} (hb : Below W.heap.size W W') :
    ∀ {ts : List TypeId} {vs : List Value} {ds : List (DataW H)} {p : List MemPlace}, (∀ t ∈ ts, P.readableRec t = true ∧ t < P.types.size) →
      DataW.TrodAll enc P W 0 (fun _ => true) true ts vs ds p → (∀ x ∈ p, x.block < W.heap.size) → DataW.TrodAll enc P W' 0 (fun b => decide (b < W.heap.size)) true ts vs ds p
  | [], _, _, _, _, h, _ => by
    obtain ⟨rfl, rfl, rfl⟩ := trodAll_nil h
    exact trodAll_mk0
  | t :: ts, _, _, _, hts, h, hlt => by
    obtain ⟨v, vs1, d, ds1, a, b, rfl, rfl, rfl, h1, h2⟩ := trodAll_cons h
    have ht := hts t (by simp)
    exact trodAll_cons_mk (Below.trod hl ht.1 ht.2 h1 hb fun x hx => hlt x (by simp [hx])) (args_again hl hb (fun t' ht' => hts t' (by simp [ht'])) h2 fun x hx => hlt x (by simp [hx]))

/-- A law's row behind the walk: true came back, and nothing old has turned. -/
theorem law_post {f : Func} {s : ChangeSpec} {W W' : World} {args : Array Value} {ds gs : List (DataW H)} {before : List MemPlace} {tb : TypeId} (hl : laidOutB P = true)
    (hts0 : (f.params.toList.all fun t => P.readableRec t && decide (t < P.types.size)) = true) (hv : s.vars = []) (hr : f.resultTypes = #[tb]) (htb : P.underlying tb = some .bool)
    (hfn : ∀ l : List (DataW H), l.length = f.params.size → (s.fn H l).results = [.lit (.bool true)] ∧ (s.fn H l).args = l ∧ (s.fn H l).vars = [])
    (hW : DataW.Whole enc P f.params.toList s.vars false W args.toList ds gs before) (hb : Below W.heap.size W W') :
    ∃ v, Ending.returned (.bool true) = .returned v ∧ s.post enc P f false true false false W args v W' := by
  have hts : ∀ t ∈ f.params.toList, P.readableRec t = true ∧ t < P.types.size := fun t ht => by simpa using List.all_eq_true.1 hts0 t ht
  have hW' := hW
  obtain ⟨p, q, hA, hV, rfl, hfz, hnd⟩ := hW
  rw [hv] at hV
  obtain ⟨rfl, rfl⟩ := trodVars_none hV
  have hlen : ds.length = f.params.size := by
    have : ∀ {ts : List TypeId} {vs : List Value} {ds : List (DataW H)} {p : List MemPlace}, DataW.TrodAll enc P W 0 (fun _ => true) true ts vs ds p → ds.length = ts.length := by
      intro ts
      induction ts with
      | nil => intro vs ds p h; obtain ⟨rfl, rfl, rfl⟩ := trodAll_nil h; rfl
      | cons t ts ih => intro vs ds p h; obtain ⟨v, vs1, d, ds1, a, b, rfl, rfl, rfl, h1, h2⟩ := trodAll_cons h; simp [ih h2]
    simpa using this hA
  obtain ⟨e1, e2, e3⟩ := hfn ds hlen
  have hlt : ∀ x ∈ p ++ [], x.block < W.heap.size := fun x hx => by simpa using hW'.lt x hx
  refine ⟨_, rfl, _, _, _, [], p, [], hW', ?_, ?_, ?_, hb.frame _, fun h => by cases h⟩
  · rw [List.append_nil, e1, hr]
    exact trodAll_mk1 (shut_bool htb _)
  · rw [List.append_nil, e2]
    exact args_again hl hb hts hA (by simpa using hlt)
  · rw [List.append_nil, e3, hv]
    rfl

/-- No parameter wants a stand-in: what a card asks. -/
theorem plain_of {name : String} {f0 : FuncId} {fn0 : Func} (h1 : P.funcNamed name = some f0) (h2 : P.funcs[f0]? = some fn0) (h3 : P.looks [] = false) (h4 : (fn0.params.toList.all fun t => !P.wantsStandIn t) = true) (f : FuncId) (fn : Func)
    (hf : P.funcNamed name = some f) (hfn : P.funcs[f]? = some fn) : false = P.looks [] ∧ ∀ (j : Nat) t, fn.params[j]? = some t → P.wantsStandIn t = false := by
  obtain rfl : f = f0 := Option.some.inj (hf.symm.trans h1)
  obtain rfl : fn = fn0 := Option.some.inj (hfn.symm.trans h2)
  refine ⟨h3.symm, fun j t ht => ?_⟩
  have := List.all_eq_true.1 h4 t (by simpa using Array.mem_of_getElem? ht)
  simpa using this

end
end Go.Proofs.YtjnemopocmhfkaaDoor
end
section
namespace Go.Proofs.YtjnemopocmhfkaaDoor

end Go.Proofs.YtjnemopocmhfkaaDoor
end
