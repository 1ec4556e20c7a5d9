/- Texts put together: MapKey, SetInt, StpLost, StpCan, RefGeoCap, RefOf, RefNums. -/
import Derived.Test.YtadfimimkkimmaaSaaaa
import Derived.Test.YtadfimimkkimmaaProg
import Derived.Test.YtadfimimkkimmaaSaaai
import Derived.Maps.OwnSet
import Derived.Test.YtadfimimkkimmaaSaaaq
import Derived.Test.YtadfimimkkimmaaSaaao
import Derived.Test.YtadfimimkkimmaaSaaah
import Derived.Test.YtadfimimkkimmaaSaaan
import Derived.Test.YtadfimimkkimmaaSaaad
section
namespace Go.Proofs.Ytadfimimkkimmaa
open Go.RowKit

theorem keyI : Maps.Keyed Try.prog 3 := Maps.int_keyed Try.underlying3
theorem keyI_of (x : Int) (hx : (Lit.int .i64 x).wf = true) : keyOf Try.prog 3 (.int .i64 x) = some (.int .i64 x) := Maps.keyOf_int_mk Try.underlying3 hx
theorem zeroInt (w : World) : (zeroValue 3).run Try.prog w = .ok (.int .i64 0) w := by kernel_rfl
theorem lit_int_inj {a b : Int} (h : Lit.int .i64 a = .int .i64 b) : a = b := by injection h
theorem keyLitI (x : Int) : WideAt.IsKeyLit (.int .i64 x) := trivial
def putF {α : Type} (F : Int → Option α) (k : Int) (v : α) : Int → Option α := fun x => if x = k then some v else F x
end Go.Proofs.Ytadfimimkkimmaa
end
section
set_option maxRecDepth 20000
namespace Go.Proofs.Ytadfimimkkimmaa
open Go.RowKit

theorem zeroBoolM (w : World) : (zeroValue 4).run Try.prog w = .ok (.bool false) w := by kernel_rfl
theorem plainElem_bool_inv {v : Value} {b : Bool} {ps : List MemPlace} (h : plainElem (H := Unit) Try.prog 4 v = some (.lit (.bool b), ps)) : v = .bool b := by
  unfold plainElem at h
  rw [Try.underlying4] at h
  cases v <;> simp at h
  simp [h]
/-- Block B is a set that holds just these numbers. -/
def SetI (w : World) (B : Nat) (xs : List Int) : Prop :=
  ∃ D : DataW Unit, w.ownsMap Try.prog 3 (plainElem Try.prog 4) B xs.length D ∧ Maps.size D = xs.length ∧ ∀ x : Int, Maps.has D (.int .i64 x) = decide (x ∈ xs) ∧ D.atKey (.int .i64 x) (.lit (.bool false)) = .lit (.bool (decide (x ∈ xs)))
theorem setI_new (w : World) : SetI (w.alloc (.map #[] 0)) w.heap.size [] := ⟨.map [], World.ownsMap_made _ _ _ _, rfl, fun _ => ⟨rfl, rfl⟩⟩
section
variable {w w' : World} {B : Nat} {xs : List Int}
theorem SetI.lt (h : SetI w B xs) : B < w.heap.size := by obtain ⟨D, ho, _⟩ := h; exact ho.lt
theorem SetI.kept {row : Option Nat} (h : SetI w B xs) (hg : w.grownBy w' row) (hne : some B ≠ row) : SetI w' B xs := by obtain ⟨D, ho, hr⟩ := h; exact ⟨D, ho.kept hg hne, hr⟩
theorem SetI.below (h : SetI w B xs) (hb : Below w.heap.size w w') : SetI w' B xs := h.kept (grown_none hb) (by simp)
theorem SetI.look (h : SetI w B xs) (x : Int) (hx : -9223372036854775808 ≤ x ∧ x ≤ 9223372036854775807) : (Instr.lookup 58 (.map (some B)) (.int .i64 x) false).run Try.prog w = .ok (.bool (decide (x ∈ xs))) w := by
  obtain ⟨D, ho, _, hr⟩ := h
  have hw : (Lit.int .i64 x).wf = true := WalkArith.wf_i64 hx
  obtain ⟨v, ps, hrun, hv⟩ := ho.lookup keyI Try.underlying58 (zeroBoolM w) (plainElem_bool Try.underlying4 false) (keyI_of x hw)
  rw [(hr x).2] at hv
  rw [hrun, plainElem_bool_inv hv]
theorem SetI.store (h : SetI w B xs) (hn : xs.length < 1000000) (x : Int) (hx : -9223372036854775808 ≤ x ∧ x ≤ 9223372036854775807) (hnew : x ∉ xs) :
    ∃ w', (Instr.mapUpdate 58 (.map (some B)) (.int .i64 x) (.bool true)).run Try.prog w = .ok () w' ∧ SetI w' B (x :: xs) ∧ w.grownBy w' (some B) := by
  obtain ⟨D, ho, hs, hr⟩ := h
  obtain ⟨w', hrun, ho', hg⟩ := ho.update keyI Try.underlying58 (by unfold maxLen; omega) (keyI_of x (WalkArith.wf_i64 hx)) (plainElem_bool Try.underlying4 true)
  refine ⟨w', hrun, ⟨_, ho', ?_, fun z => ?_⟩, hg⟩
  · rw [Maps.size_put (ho.tidy keyI), (hr x).1, decide_eq_false hnew]; simp [hs]
  · by_cases e : z = x
    · subst e
      have hz : z ∈ z :: xs := List.mem_cons_self
      rw [decide_eq_true hz]
      exact ⟨Maps.has_put_same ho.isMap (keyLitI z) _, Maps.atKey_put_same ho.isMap (keyLitI z) _ _⟩
    · have hne : Lit.int .i64 z ≠ Lit.int .i64 x := fun h => e (lit_int_inj h)
      have hd : decide (z ∈ x :: xs) = decide (z ∈ xs) := by simp [e]
      rw [hd]
      exact ⟨(Maps.has_put_other hne _).trans (hr z).1, (Maps.atKey_put_other hne _ _).trans (hr z).2⟩
theorem SetI.len (h : SetI w B xs) (ty : TypeId) : (Builtin.len_ #[58] ty #[.map (some B)]).run Try.prog w = .ok (.int .i64 (xs.length : Int)) w := by
  obtain ⟨D, ho, hs, _⟩ := h
  rw [ho.len Try.underlying58 ty, hs]
end
end Go.Proofs.Ytadfimimkkimmaa
end
section
set_option maxRecDepth 20000
set_option linter.unusedVariables false
set_option linter.unusedSimpArgs false
namespace Go.Proofs.Ytadfimimkkimmaa
open Go.RowKit

/-- The numbers of the first k disks that do not serve. -/
def gonL (N : Bch) (lv : List Bool) : Nat → List Int
  | 0 => []
  | k + 1 => if srvD N lv k = false then (k : Int) :: gonL N lv k else gonL N lv k
theorem gonL_mem {N : Bch} {lv : List Bool} {x : Int} : ∀ {k : Nat}, x ∈ gonL N lv k ↔ ∃ j : Nat, j < k ∧ x = (j : Int) ∧ srvD N lv j = false
  | 0 => by simp [gonL]
  | k + 1 => by
    have ih := gonL_mem (N := N) (lv := lv) (x := x) (k := k)
    unfold gonL
    by_cases h : srvD N lv k = false
    · rw [if_pos h, List.mem_cons, ih]
      constructor
      · rintro (rfl | ⟨j, h1, h2⟩)
        · exact ⟨k, by omega, rfl, h⟩
        · exact ⟨j, by omega, h2⟩
      · rintro ⟨j, h1, h2, h3⟩
        by_cases e : j = k
        · subst e; exact .inl h2
        · exact .inr ⟨j, by omega, h2, h3⟩
    · rw [if_neg h, ih]
      constructor
      · rintro ⟨j, h1, h2⟩
        exact ⟨j, by omega, h2⟩
      · rintro ⟨j, h1, h2, h3⟩
        by_cases e : j = k
        · subst e; exact absurd h3 h
        · exact ⟨j, by omega, h2, h3⟩
theorem gonL_len (N : Bch) (lv : List Bool) : ∀ k, (gonL N lv k).length ≤ k
  | 0 => Nat.le_refl _
  | k + 1 => by
    have ih := gonL_len N lv k
    unfold gonL
    split
    · simp; omega
    · omega
theorem gonL_has {N : Bch} {lv : List Bool} {k d : Nat} (h : d < k) : decide ((d : Int) ∈ gonL N lv k) = !srvD N lv d := by
  cases hs : srvD N lv d with
  | false => exact decide_eq_true (gonL_mem.2 ⟨d, h, rfl, hs⟩)
  | true =>
    refine decide_eq_false fun e => ?_
    obtain ⟨j, _, h2, h3⟩ := gonL_mem.1 e
    obtain rfl : d = j := by omega
    rw [hs] at h3; cases h3
set_option maxHeartbeats 1600000 in
theorem lost_any (B b : Nat) (H : BH) (N : Bch) (w : World) (h : BAt w B b H N) (lv : List Bool) (A : Option Addr) (n cp : Nat) (hn : n = lv.length) (hv : RdO w w.heap.size A lv) (l c : Int) (D : Nat) (hD : D ≤ N.n) (hDl : D ≤ lv.length) :
    Calls Try.prog 26 #[.pointer (some ⟨b, 0, none⟩), .slice A n cp, .agg #[.int .i64 l, .int .i64 (D : Int), .int .i64 c]] w fun e w' => ∃ mb, e = .returned (.map (some mb)) ∧ SetI w' mb (gonL N lv D) ∧ Below w.heap.size w w' := by
  subst hn
  have hmm := @run_makeMap Try.prog
  have G := gat_new w l D c 24 (0, 0)
  have hn8 := h.ok.n
  have B1 := below1 w (.cells #[.int .i64 l, .int .i64 (D : Int), .int .i64 c] 24)
  have CF := Lib.hid (fun W (hb : Below w.heap.size w W) (j : Nat) (hj : j ≤ 8) => bch_failed_any B b H N W (h.below hb) (j : Int) ⟨by omega, by omega⟩)
  have CL := Lib.hid (fun W (hb : Below w.heap.size w W) => bch_len_any B b H N W (h.below hb))
  have Hv := Lib.hid hv
  have Hfd := Lib.hid (fun (j : Nat) (hj : j < N.n) => failed_D hj)
  have Hsy := Lib.hid (fun (j : Nat) (h1 : j < N.n) (h2 : lv.getD j false = true) (h3 : (N.D j).f = false) => srvD_mk h1 h2 h3)
  have Hsn := Lib.hid (fun (j : Nat) (hj : ¬ (j < N.n ∧ lv.getD j false = true ∧ (N.D j).f = false)) => srvD_no hj)
  have Hgy := Lib.hid (fun (k : Nat) (hk : srvD N lv k = true) => show gonL N lv (k + 1) = gonL N lv k from if_neg (by simp [hk]))
  have Hgn := Lib.hid (fun (k : Nat) (hk : srvD N lv k = false) => show gonL N lv (k + 1) = (k : Int) :: gonL N lv k from if_pos hk)
  have Hnew := Lib.hid (fun (k : Nat) => show (k : Int) ∉ gonL N lv k from fun e => by obtain ⟨j, h1, h2, _⟩ := gonL_mem.1 e; omega)
  have Hle := Lib.hid (gonL_len N lv)
  have M0 := setI_new (w.alloc (.cells #[.int .i64 l, .int .i64 (D : Int), .int .i64 c] 24))
  have e1 : (w.alloc (.cells #[.int .i64 l, .int .i64 (D : Int), .int .i64 c] 24)).heap.size = w.heap.size + 1 := by simp
  have G1 := G.below (below1 (w.alloc (.cells #[.int .i64 l, .int .i64 (D : Int), .int .i64 c] 24)) (.map #[] 0)) (by rw [e1]; omega)
  have B2 := B1.alloc B1.size (.map #[] 0)
  rw [e1] at M0
  obtain ⟨nN, hnN⟩ : ∃ nN, N.n = nN := ⟨_, rfl⟩
  have hlvl := hv.1
  unfold ptr at CF CL
  rw [hnN] at CL hn8 hD
  have HnN := Lib.hid hnN
  clear h hv G B1 hnN
  go_enter Try.func26, Try.ntmps26
  go_wp2_with fail
  generalize (w.alloc (.cells #[.int .i64 l, .int .i64 (D : Int), .int .i64 c] 24)).alloc (.map #[] 0) = w0 at M0 G1 B2
  clear hmm
  go_loopw [8] (fun i wr => ∃ k : Nat, k ≤ D ∧ i = .int .i64 k ∧ SetI wr (w.heap.size + 1) (gonL N lv k) ∧ GAt wr w.heap.size l D c ∧ Below w.heap.size w wr) (fun i _ => D - (intOf i).toNat)
  case atStart => exact ⟨0, Nat.zero_le _, rfl, M0, G1, B2⟩
  case round =>
    obtain ⟨k, hk, rfl, hS, hG, hB⟩ := hrel
    obtain ⟨g1, g2, g3⟩ := hG
    by_cases hlt : k < D
    · have i0 : (0 : Int) ≤ (k : Int) := by omega
      have i1 : (k : Int) < (D : Int) := by omega
      have i2 : (k : Int) < (lv.length : Int) := by omega
      have i3 : (k : Int) < (nN : Int) := by omega
      obtain ⟨lb, off, rfl, hlb, hcv⟩ := Hv.out.2 (by omega)
      have hcl := (hB.cell (p := ⟨lb, off + k, none⟩) hlb).trans (hcv k (by omega))
      have hkn : k < N.n := by rw [HnN.out]; omega
      have CF1 := Lib.hid (CF.out _ hB k (by omega))
      rw [Hfd.out k hkn] at CF1
      have CL1 := Lib.hid (CL.out _ hB)
      have hHs := Lib.hid hS
      have hle := Hle.out k
      obtain ⟨W3, hrun, hS3, hg3⟩ := hS.store (by omega) (k : Int) (by omega) (Hnew.out k)
      have HS3 := Lib.hid hS3
      have hg3' := Lib.hid hg3
      have hsz := World.block_lt_of_cell? _ _ g1
      have hmlt := hS.lt
      clear hS hS3 hg3 CF CL hcv M0 G1 B2
      cases hlx : lv.getD k false with
      | false =>
        rw [hlx] at hcl
        have Hk := Lib.hid (Hgn.out k (Hsn.out k (fun h => by rw [hlx] at h; cases h.2.1)))
        clear hlx
        go_wp2
        go_roundw
        case rel =>
          refine ⟨k + 1, by omega, by go_num, by rw [Hk.out]; exact HS3.out, GAt.grown ⟨g1, g2, g3⟩ hg3'.out hsz (by intro e; injection e with e; omega), hB.grown hg3'.out hB.size (fun j e => by injection e with e; omega)⟩
        case measure => simp [intOf]; omega
      | true =>
        rw [hlx] at hcl
        cases hfx : (N.D k).f with
        | true =>
          rw [hfx] at CF1
          have Hk := Lib.hid (Hgn.out k (Hsn.out k (fun h => by rw [hfx] at h; cases h.2.2)))
          clear hlx hfx
          go_wp2_with fail
          (with_reducible refine CF1.out.mono ?_); rintro e w5 ⟨rfl, rfl⟩
          go_wp2
          go_roundw
          case rel =>
            refine ⟨k + 1, by omega, by go_num, by rw [Hk.out]; exact HS3.out, GAt.grown ⟨g1, g2, g3⟩ hg3'.out hsz (by intro e; injection e with e; omega), hB.grown hg3'.out hB.size (fun j e => by injection e with e; omega)⟩
          case measure => simp [intOf]; omega
        | false =>
          rw [hfx] at CF1
          have Hk := Lib.hid (Hgy.out k (Hsy.out k hkn hlx hfx))
          clear hlx hfx hrun
          go_wp2_with fail
          (with_reducible refine CF1.out.mono ?_); rintro e w5 ⟨rfl, rfl⟩
          go_wp2_with fail
          (with_reducible refine CL1.out.mono ?_); rintro e w6 ⟨rfl, rfl⟩
          go_wp2
          go_roundw
          case rel => exact ⟨k + 1, by omega, by go_num, by rw [Hk.out]; exact hHs.out, ⟨g1, g2, g3⟩, hB⟩
          case measure => simp [intOf]; omega
    · obtain rfl : k = D := by omega
      go_wp2
      go_ret
      exact ⟨_, rfl, hS, hB⟩
/-- A disk of parity. -/
def parB (l d c r : Int) (i : Nat) : Bool := ((i : Int) == plP l d c r) || ((i : Int) == plQ l d c r)
def canN (l d c r : Int) (D : Nat) (g : Nat → Bool) : Bool := decide (cntB D (fun i => g i && !parB l d c r i) ≤ cntB D (fun i => parB l d c r i && !g i))
set_option maxHeartbeats 1600000 in
theorem can_any (l c r : Int) (D mb : Nat) (xs : List Int) (w : World) (hS : SetI w mb xs) (hD : D ≤ 8) (hl : -9223372036854775808 ≤ l ∧ l ≤ 9223372036854775807) (hc : -9223372036854775808 ≤ c ∧ c ≤ 9223372036854775807) (hr : -9223372036854775808 ≤ r ∧ r ≤ 9223372036854775807) :
    Calls Try.prog 27 #[.agg #[.int .i64 l, .int .i64 (D : Int), .int .i64 c], .int .i64 r, .map (some mb)] w fun e w' => e = .returned (.bool (canN l (D : Int) c r D (fun i => decide ((i : Int) ∈ xs)))) ∧ Below w.heap.size w w' := by
  have G := gat_new w l D c 24 (0, 0)
  have CP := Lib.hid (fun V => refParity_any l (D : Int) c r V hl (by omega) hc hr)
  have B1 := below1 w (.cells #[.int .i64 l, .int .i64 (D : Int), .int .i64 c] 24)
  have S1 := hS.below B1
  have Hres : Hid (canN l (D : Int) c r D (fun i => decide ((i : Int) ∈ xs)) = decide (cntB D (fun i => decide ((i : Int) ∈ xs) && !parB l (D : Int) c r i) ≤ cntB D (fun i => parB l (D : Int) c r i && !decide ((i : Int) ∈ xs)))) := rfl
  have Hpar : Hid (∀ i : Nat, parB l (D : Int) c r i = (((i : Int) == plP l (D : Int) c r) || ((i : Int) == plQ l (D : Int) c r))) := fun i => rfl
  generalize canN l (D : Int) c r D (fun i => decide ((i : Int) ∈ xs)) = res at Hres ⊢
  generalize plP l (D : Int) c r = p at CP Hpar
  generalize plQ l (D : Int) c r = q at CP Hpar
  generalize parB l (D : Int) c r = pb at Hres Hpar
  have Hd := Lib.hid (fun k => cntB_succ k (fun i => decide ((i : Int) ∈ xs) && !pb i))
  have Ht := Lib.hid (fun k => cntB_succ k (fun i => pb i && !decide ((i : Int) ∈ xs)))
  have Hd0 := Lib.hid (cntB_zero (fun i => decide ((i : Int) ∈ xs) && !pb i))
  have Ht0 := Lib.hid (cntB_zero (fun i => pb i && !decide ((i : Int) ∈ xs)))
  have Hdl := Lib.hid (fun k => cntB_le k (fun i => decide ((i : Int) ∈ xs) && !pb i))
  have Htl := Lib.hid (fun k => cntB_le k (fun i => pb i && !decide ((i : Int) ∈ xs)))
  obtain ⟨cd, hcd⟩ : ∃ cd : Nat → Nat, ∀ k, cntB k (fun i => decide ((i : Int) ∈ xs) && !pb i) = cd k := ⟨_, fun _ => rfl⟩
  obtain ⟨ct, hct⟩ : ∃ ct : Nat → Nat, ∀ k, cntB k (fun i => pb i && !decide ((i : Int) ∈ xs)) = ct k := ⟨_, fun _ => rfl⟩
  have Hcd := Lib.hid hcd
  have Hct := Lib.hid hct
  clear hcd hct hS
  go_enter Try.func27, Try.ntmps27
  go_wp2_with fail
  (with_reducible refine (CP.out _).mono ?_); rintro e w1 ⟨rfl, hb⟩
  have F := B1.trans (hb.mono B1.size)
  have G1 := G.below hb (by simp)
  have S2 := S1.below hb
  clear hb B1 S1 G
  obtain ⟨g1, g2, g3⟩ := G1
  go_wp2_with fail
  go_loopw [9, 10, 11] (fun dv tv i wr => ∃ k : Nat, k ≤ D ∧ i = .int .i64 k ∧ dv = .int .i64 ((cd k : Nat) : Int) ∧ tv = .int .i64 ((ct k : Nat) : Int) ∧ wr = w1) (fun _ _ i _ => D - (intOf i).toNat)
  case atStart =>
    refine ⟨0, Nat.zero_le _, rfl, ?_, ?_, rfl⟩
    · rw [← Hcd.out 0, Hd0.out]; rfl
    · rw [← Hct.out 0, Ht0.out]; rfl
  case round =>
    obtain ⟨k, hk, rfl, rfl, rfl, rfl⟩ := hrel
    by_cases hlt : k < D
    · have i0 : (0 : Int) ≤ (k : Int) := by omega
      have i1 : (k : Int) < (D : Int) := by omega
      have hlook := S2.look (k : Int) (by omega)
      have hd1 := Hd.out k
      have ht1 := Ht.out k
      have hdl := Hdl.out k
      have htl := Htl.out k
      rw [Hcd.out, Hcd.out] at hd1
      rw [Hct.out, Hct.out] at ht1
      rw [Hcd.out] at hdl
      rw [Hct.out] at htl
      have hpk := Hpar.out k
      have d0 : (0 : Int) ≤ ((cd k : Nat) : Int) := by omega
      have t0 : (0 : Int) ≤ ((ct k : Nat) : Int) := by omega
      generalize cd k = dk at hd1 hdl d0
      generalize ct k = tk at ht1 htl t0
      have Hcase : Hid (((((k : Int) == p) = true) ∨ (((k : Int) == p) = false ∧ ((k : Int) == q) = true)) ∨ (((k : Int) == p) = false ∧ ((k : Int) == q) = false)) := Lib.hid (by
        cases (k : Int) == p <;> cases (k : Int) == q <;> simp)
      generalize decide ((k : Int) ∈ xs) = gk at hlook hd1 ht1
      rcases Hcase.out with (e1 | ⟨e1, e2⟩) | ⟨e1, e2⟩
      · rw [e1, Bool.true_or] at hpk
        rw [hpk] at hd1 ht1
        clear hpk
        cases gk
        · have hd2 : cd (k + 1) = dk := by simpa using hd1
          have ht2 : ct (k + 1) = tk + 1 := by simpa using ht1
          have HD2 := Lib.hid hd2
          have HT2 := Lib.hid ht2
          clear hd1 ht1 hd2 ht2
          go_wp2
          go_roundw
          case rel => exact ⟨k + 1, by omega, by go_num, by rw [HD2.out], by rw [HT2.out]; go_num, trivial⟩
          case measure => simp [intOf]; omega
        · have hd2 : cd (k + 1) = dk := by simpa using hd1
          have ht2 : ct (k + 1) = tk := by simpa using ht1
          have HD2 := Lib.hid hd2
          have HT2 := Lib.hid ht2
          clear hd1 ht1 hd2 ht2
          go_wp2
          go_roundw
          case rel => exact ⟨k + 1, by omega, by go_num, by rw [HD2.out], by rw [HT2.out], trivial⟩
          case measure => simp [intOf]; omega
      · rw [e2, Bool.or_true] at hpk
        rw [hpk] at hd1 ht1
        clear hpk
        cases gk
        · have hd2 : cd (k + 1) = dk := by simpa using hd1
          have ht2 : ct (k + 1) = tk + 1 := by simpa using ht1
          have HD2 := Lib.hid hd2
          have HT2 := Lib.hid ht2
          clear hd1 ht1 hd2 ht2
          go_wp2
          go_roundw
          case rel => exact ⟨k + 1, by omega, by go_num, by rw [HD2.out], by rw [HT2.out]; go_num, trivial⟩
          case measure => simp [intOf]; omega
        · have hd2 : cd (k + 1) = dk := by simpa using hd1
          have ht2 : ct (k + 1) = tk := by simpa using ht1
          have HD2 := Lib.hid hd2
          have HT2 := Lib.hid ht2
          clear hd1 ht1 hd2 ht2
          go_wp2
          go_roundw
          case rel => exact ⟨k + 1, by omega, by go_num, by rw [HD2.out], by rw [HT2.out], trivial⟩
          case measure => simp [intOf]; omega
      · rw [e1, e2, Bool.or_false] at hpk
        rw [hpk] at hd1 ht1
        clear hpk
        cases gk
        · have hd2 : cd (k + 1) = dk := by simpa using hd1
          have ht2 : ct (k + 1) = tk := by simpa using ht1
          have HD2 := Lib.hid hd2
          have HT2 := Lib.hid ht2
          clear hd1 ht1 hd2 ht2
          go_wp2
          go_roundw
          case rel => exact ⟨k + 1, by omega, by go_num, by rw [HD2.out], by rw [HT2.out], trivial⟩
          case measure => simp [intOf]; omega
        · have hd2 : cd (k + 1) = dk + 1 := by simpa using hd1
          have ht2 : ct (k + 1) = tk := by simpa using ht1
          have HD2 := Lib.hid hd2
          have HT2 := Lib.hid ht2
          clear hd1 ht1 hd2 ht2
          go_wp2
          go_roundw
          case rel => exact ⟨k + 1, by omega, by go_num, by rw [HD2.out]; go_num, by rw [HT2.out], trivial⟩
          case measure => simp [intOf]; omega
    · obtain rfl : k = D := by omega
      have HR := Hres.out
      rw [Hcd.out, Hct.out] at HR
      have HR2 := Lib.hid HR
      clear HR
      generalize cd k = dk at HR2
      generalize ct k = tk at HR2
      go_wp2
      go_ret
      exact ⟨by rw [HR2.out]; rfl, F⟩
end Go.Proofs.Ytadfimimkkimmaa
end
section
set_option linter.unusedVariables false
set_option linter.unusedSimpArgs false
namespace Go.Proofs.Ytadfimimkkimmaa

theorem cntB_disj (n : Nat) (b c : Nat → Bool) (h : ∀ i, i < n → (b i && c i) = false) : cntB n (fun i => b i || c i) = cntB n b + cntB n c := by
  induction n with
  | zero => rfl
  | succ n ih =>
    have ih := ih fun i hi => h i (by omega)
    have hn := h n (by omega)
    rw [cntB_succ, cntB_succ, cntB_succ]
    cases hb : b n <;> cases hc : c n <;> simp_all <;> omega
theorem cnt_pick {D p : Nat} (hp : p < D) (ok : Nat → Bool) : cntB D (fun i => decide (i = p) && ok i) = if ok p = true then 1 else 0 := by
  cases h : ok p with
  | true =>
    rw [if_pos rfl, ← cntB_one hp]
    refine cntB_congr fun i hi => ?_
    by_cases e : i = p
    · subst e; rw [h, Bool.and_true]
    · rw [decide_eq_false e]; rfl
  | false =>
    rw [if_neg (by decide)]
    refine cntB_none fun i hi => ?_
    by_cases e : i = p
    · subst e; rw [h, Bool.and_false]
    · rw [decide_eq_false e]; rfl
theorem cnt_pair {D p q : Nat} (hp : p < D) (hq : q < D) (hne : p ≠ q) (ok : Nat → Bool) : cntB D (fun i => (decide (i = p) || decide (i = q)) && ok i) = (if ok p = true then 1 else 0) + (if ok q = true then 1 else 0) := by
  rw [← cnt_pick hp ok, ← cnt_pick hq ok, ← cntB_disj]
  · exact cntB_congr fun i hi => by rw [Bool.and_or_distrib_right]
  · intro i hi
    by_cases e : i = p
    · have : i ≠ q := fun h => hne (e.symm.trans h)
      rw [decide_eq_false this]; simp
    · rw [decide_eq_false e]; simp
theorem beq_nat (i p : Nat) : (((i : Int)) == ((p : Nat) : Int)) = decide (i = p) := by
  by_cases e : i = p
  · subst e; simp
  · rw [decide_eq_false e, beq_eq_false_iff_ne]; omega
theorem can_some {N : Bch} {lv : List Bool} {n l c : Int} {ρ m D F W : Nat} {fl : Nat → List (List UInt8)} {rs : List (List UInt8)} (h : Std N m D fl) (gr : Gr n l c (ρ : Int) D F W) (hrs : rs.length = W) (ha : ∀ x ∈ rs, x.length = 32) (hfl : fl ρ = fillL D F rs) :
    canN l (D : Int) c (ρ : Int) D (fun i => decide ((i : Int) ∈ gonL N lv D)) = (roTake l (D : Int) c (ρ : Int) (ssL N lv (36 + ρ) D)).isSome := by
  have hρ : ρ < 16 := by have := gr.r0; omega
  have h32 : ∀ i, i < D → ((fl ρ).getD i []).length = 32 := fun i hi => by rw [hfl]; exact gr.fills hrs ha hi
  obtain ⟨h1, h2⟩ := h.read (lv := lv) hρ h32
  have hW := gr.hW; have hF := gr.hF
  have hp := gr.R.pP
  have hq := gr.R.pQ
  rw [gr.eD, gr.eF, gr.eW] at hp hq
  rw [lose_end gr (ssL_len _ _ _ _) (fun i hi => by
    rcases h1 i hi with e | e
    · exact .inl e
    · rw [e]; exact .inr (h32 i hi))]
  have hpl := roS_lt hF hW
  have hok : ∀ i, i < D → (0 < ((ssL N lv (36 + ρ) D).getD i []).length ↔ srvD N lv i = true) := fun i hi => by
    have := h2 i hi
    unfold emptyB at this
    cases hs : srvD N lv i with
    | true =>
      rw [hs] at this
      constructor
      · intro _; rfl
      · intro _
        rcases Nat.eq_zero_or_pos ((ssL N lv (36 + ρ) D).getD i []).length with e | e
        · rw [e] at this; cases this
        · exact e
    | false =>
      rw [hs] at this
      constructor
      · intro h
        have : ((ssL N lv (36 + ρ) D).getD i []).length = 0 := by simpa using this
        omega
      · intro h; cases h
  have eg : ∀ i, i < D → decide ((i : Int) ∈ gonL N lv D) = !srvD N lv i := fun i hi => gonL_has hi
  have eL : cntB D (fun i => decide ((i : Int) ∈ gonL N lv D) && !parB l (D : Int) c (ρ : Int) i) = cntB D (fun k : Nat => emptyB (ssL N lv (36 + ρ) D) k && (!decide (k = roS D F W) && !decide ((k : Int) = if l = 6 then ((roS D F (W + 1) : Nat) : Int) else -1))) := cntB_congr fun i hi => by
    rw [eg i hi, h2 i hi]
    congr 1
    unfold parB
    rw [hp, hq, beq_nat, Bool.not_or]
    congr 2
  have eR : cntB D (fun i => parB l (D : Int) c (ρ : Int) i && !decide ((i : Int) ∈ gonL N lv D)) = thereN l ((ssL N lv (36 + ρ) D).getD (roS D F W) []).length ((ssL N lv (36 + ρ) D).getD (roS D F (W + 1)) []).length := by
    unfold thereN
    rcases gr.lv with ⟨h5, hD⟩ | ⟨h6, hD⟩
    · rw [if_neg (by omega : ¬ (l = 6 ∧ _)), Nat.add_zero]
      rw [cntB_congr (b' := fun i => decide (i = roS D F W) && srvD N lv i) fun i hi => by
        rw [eg i hi, Bool.not_not]
        unfold parB
        rw [hp, hq, if_neg (by omega), beq_nat, show ((i : Int) == -1) = false from by rw [beq_eq_false_iff_ne]; omega, Bool.or_false]]
      rw [cnt_pick hpl]
      by_cases hs : srvD N lv (roS D F W) = true
      · rw [if_pos hs, if_pos ((hok _ hpl).2 hs)]
      · rw [if_neg hs, if_neg (fun e => hs ((hok _ hpl).1 e))]
    · have hql := roS_lt hF (show W + 1 < D by omega)
      have hne : roS D F W ≠ roS D F (W + 1) := fun e => by have := roS_inj hF hW (by omega) e; omega
      rw [cntB_congr (b' := fun i => (decide (i = roS D F W) || decide (i = roS D F (W + 1))) && srvD N lv i) fun i hi => by
        rw [eg i hi, Bool.not_not]
        unfold parB
        rw [hp, hq, if_pos h6, beq_nat, beq_nat]]
      rw [cnt_pair hpl hql hne]
      congr 1
      · by_cases hs : srvD N lv (roS D F W) = true
        · rw [if_pos hs, if_pos ((hok _ hpl).2 hs)]
        · rw [if_neg hs, if_neg (fun e => hs ((hok _ hpl).1 e))]
      · by_cases hs : srvD N lv (roS D F (W + 1)) = true
        · rw [if_pos hs, if_pos ⟨h6, (hok _ hql).2 hs⟩]
        · rw [if_neg hs, if_neg (fun e => hs ((hok _ hql).1 e.2))]
  unfold canN
  rw [eL, eR]
end Go.Proofs.Ytadfimimkkimmaa
end
section
set_option linter.unusedVariables false
set_option linter.unusedSimpArgs false
namespace Go.Proofs.Ytadfimimkkimmaa
open Go.RowKit

theorem refCapacity_any (l d c : Int) (w : World) (hl : -9223372036854775808 ≤ l ∧ l ≤ 9223372036854775807) (hd : -9223372036854775808 ≤ d ∧ d ≤ 9223372036854775807) (hc : -9223372036854775808 ≤ c ∧ c ≤ 9223372036854775807) :
    Calls Try.prog 28 #[.agg #[.int .i64 l, .int .i64 d, .int .i64 c]] w fun e w' => e = .returned (.int .i64 (gCap l d c)) ∧ Below w.heap.size w w' := by
  have hB := gWid_bd l d c
  have HC : Hid (gCap l d c = gWid l d c * 16) := rfl
  go_enter Try.func28, Try.ntmps28
  go_wp2_with fail
  (with_reducible refine (refWidth_any l d c _ hl hd hc).mono ?_); rintro e w1 ⟨rfl, hb⟩
  have F := (below1 w _).trans (hb.mono (by simp))
  clear hb
  generalize gWid l d c = wd at hB HC
  go_wp2_with fail
  go_ret
  exact ⟨by rw [HC.out]; rfl, F⟩

end Go.Proofs.Ytadfimimkkimmaa
end
section
set_option linter.unusedVariables false
set_option linter.unusedSimpArgs false
namespace Go.Proofs.Ytadfimimkkimmaa
open Go.RowKit

theorem refOf_any (l d c n : Int) (w : World) (hl : (-9223372036854775808 ≤ l ∧ l ≤ 9223372036854775807)) (hd : (-9223372036854775808 ≤ d ∧ d ≤ 9223372036854775807)) (hc : (-9223372036854775808 ≤ c ∧ c ≤ 9223372036854775807)) (hn : (-9223372036854775808 ≤ n ∧ n ≤ 9223372036854775807)) :
    Calls Try.prog 29 #[.agg #[.int .i64 l, .int .i64 d, .int .i64 c], .int .i64 n] w fun e w' => e = .returned (.tuple #[.int .i64 (plOfD l d c n), .int .i64 (plOfR l d c n), .bool (plOfOk l d c n)]) ∧ Below w.heap.size w w' := by
  have G := gat_new w l d c 24 (0, 0)
  have HD : Hid (∀ b, plOfOk l d c n = b → plOfD l d c n = if b = true then plD l d c (plRow l d c n) (n / c % (d - (l - 4))) else 0) := Lib.hid (fun b h => by subst h; rfl)
  have HR : Hid (∀ b, plOfOk l d c n = b → plOfR l d c n = if b = true then plRow l d c n else 0) := Lib.hid (fun b h => by subst h; rfl)
  have HC := Lib.hid (fun W => refCapacity_any l d c W hl hd hc)
  have hb7 := gCap_bd l d c
  cases hG : gOk l d c
  · have H := Lib.hid (plOfOk_no (l := l) (d := d) (c := c) (n := n) (by rw [gCap_no hG]; omega))
    have H1 := Lib.hid ((HD.out false H.out).trans (if_neg (by decide)))
    have H2 := Lib.hid ((HR.out false H.out).trans (if_neg (by decide)))
    have HG := Lib.hid hG
    clear hG
    go_enter Try.func29, Try.ntmps29
    go_wp2_with fail
    (with_reducible refine (refCheck_no l d c _ HG hl hd hc).mono ?_); rintro e w1 ⟨rfl, hb⟩
    have F := (below1 w _).trans (hb.mono (by simp))
    clear hb
    go_wp2_with fail
    go_ret3
    exact ⟨by rw [H.out, H1.out, H2.out]; rfl, F⟩
  · have HG := Lib.hid hG
    clear hG
    by_cases h0 : n < 0
    · have H := Lib.hid (plOfOk_no (l := l) (d := d) (c := c) (n := n) (by omega))
      have H1 := Lib.hid ((HD.out false H.out).trans (if_neg (by decide)))
      have H2 := Lib.hid ((HR.out false H.out).trans (if_neg (by decide)))
      have e0 : decide (n < 0) = true := decide_eq_true h0
      go_enter Try.func29, Try.ntmps29
      go_wp2_with fail
      (with_reducible refine (refCheck_yes l d c _ HG hl hd hc).mono ?_); rintro e w1 ⟨rfl, hb⟩
      have F := (below1 w _).trans (hb.mono (by simp))
      clear hb
      go_wp2_with fail
      go_ret3
      exact ⟨by rw [H.out, H1.out, H2.out]; rfl, F⟩
    · have e0 : decide (n < 0) = false := decide_eq_false h0
      by_cases h1 : gCap l d c ≤ n
      · have H := Lib.hid (plOfOk_no (l := l) (d := d) (c := c) (n := n) (by omega))
        have H1 := Lib.hid ((HD.out false H.out).trans (if_neg (by decide)))
        have H2 := Lib.hid ((HR.out false H.out).trans (if_neg (by decide)))
        clear HD HR
        generalize gCap l d c = cp at HC h1 hb7
        have e1 : decide (cp ≤ n) = true := decide_eq_true h1
        go_enter Try.func29, Try.ntmps29
        go_wp2_with fail
        (with_reducible refine (refCheck_yes l d c _ HG hl hd hc).mono ?_); rintro e w1 ⟨rfl, hb⟩
        have S1 := GS.later (w0 := w) (B := w.heap.size) ⟨G.1, G.2.1, G.2.2, below1 w _⟩ hb
        clear hb G
        obtain ⟨g1, g2, g3, F⟩ := S1
        go_wp2_with fail
        (with_reducible refine (HC.out _).mono ?_); rintro e w2 ⟨rfl, hb⟩
        have S2 := GS.later (w0 := w) (B := w.heap.size) ⟨g1, g2, g3, F⟩ hb
        clear hb g1 g2 g3 F
        go_wp2_with fail
        go_ret3
        exact ⟨by rw [H.out, H1.out, H2.out]; rfl, S2.2.2.2⟩
      · have hok : plOfOk l d c n = true := decide_eq_true (by omega)
        have H := Lib.hid hok
        have hg := plOfOk_ok hok
        have hb6 := gOk_bd hg
        have hcp := gCap_yes hg
        have hgw := gWid_yes hg
        have H1 := Lib.hid ((HD.out true hok).trans (if_pos rfl))
        have H2 := Lib.hid ((HR.out true hok).trans (if_pos rfl))
        have HW := Lib.hid (fun W => refWidth_any l d c W hl hd hc)
        have hw := gWid_bd l d c
        rw [← hgw] at H1
        have H3 : Hid (plRow l d c n = n / c / gWid l d c * c + n % c) := by rw [hgw]; rfl
        generalize plRow l d c n = row at H1 H2 H3
        have hcw : gCap l d c = gWid l d c * 16 := rfl
        generalize gWid l d c = wd at HW hw H1 H3 hgw hcw
        rw [hcw] at HC h1 hb7
        have hch := quo_bd 112 (show 0 ≤ n by omega) (show n < 112 by omega) (show 1 ≤ c by omega)
        have e1 : decide (wd * 16 ≤ n) = false := decide_eq_false h1
        generalize hqq : n / c = ch at H1 H3 hch
        have hst := quo_bd 112 hch.1 hch.2 (show 1 ≤ wd by omega)
        have hk := rem_bd ch (show 1 ≤ wd by omega)
        have hm := rem_bd n (show 1 ≤ c by omega)
        have hx : 0 ≤ ch / wd * c ∧ ch / wd * c ≤ 112 * 4 := ⟨Int.mul_nonneg hst.1 (by omega), Int.mul_le_mul (by omega) (by omega) (by omega) (by omega)⟩
        have hrow : 0 ≤ row ∧ row ≤ 1000 := by rw [H3.out]; omega
        have HK := Lib.hid (fun W => refDisk_any l d c row (ch % wd) W hl hd hc (by omega) (by omega))
        have t1 : n.tdiv c = ch := by rw [Int.tdiv_eq_ediv_of_nonneg (by omega)]; exact hqq
        have t3 : n.tmod c = n % c := Int.tmod_eq_emod_of_nonneg (by omega)
        have t4 : ch.tdiv wd = ch / wd := Int.tdiv_eq_ediv_of_nonneg hch.1
        have n1 : ¬ c = 0 := by omega
        have n2 : ¬ wd = 0 := by omega
        have i0 : 0 ≤ n := by omega
        have z0 : IntKind.i64.wrap ch = ch := IntWalk.i64_in _ (by omega)
        have z1 : IntKind.i64.wrap (ch / wd) = ch / wd := IntWalk.i64_in _ (by omega)
        have z2 : IntKind.i64.wrap (ch / wd * c) = ch / wd * c := IntWalk.i64_in _ (by omega)
        have z3 : IntKind.i64.wrap (ch / wd * c + n % c) = row := by rw [← H3.out]; exact IntWalk.i64_in _ (by omega)
        have t2 : ch.tmod wd = ch % wd := Int.tmod_eq_emod_of_nonneg hch.1
        have Q1 := Lib.hid hqq
        clear HD HR hok hg hcp h0 h1 hgw hcw hqq
        go_enter Try.func29, Try.ntmps29
        go_wp2_with fail
        (with_reducible refine (refCheck_yes l d c _ HG hl hd hc).mono ?_); rintro e w1 ⟨rfl, hb⟩
        have S1 := GS.later (w0 := w) (B := w.heap.size) ⟨G.1, G.2.1, G.2.2, below1 w _⟩ hb
        clear hb G
        obtain ⟨g1, g2, g3, F⟩ := S1
        go_wp2_with fail
        (with_reducible refine (HC.out _).mono ?_); rintro e w2 ⟨rfl, hb⟩
        have S2 := GS.later (w0 := w) (B := w.heap.size) ⟨g1, g2, g3, F⟩ hb
        clear hb g1 g2 g3 F
        obtain ⟨g1, g2, g3, F⟩ := S2
        go_wp2_with fail
        try rw [Q1.out]
        have S0 : GS w w.heap.size w.heap.size l d c w2 := ⟨g1, g2, g3, F⟩
        clear g1 g2 g3 F
        go_region_held3 (GS w w.heap.size w.heap.size l d c)
          (first | assumption | exact GS.drew ‹_›)
          ((go_at_call 13; (with_reducible refine (HW.out _).mono ?_); rintro e w3 ⟨rfl, hb⟩; have S3 := (GS.drew S0).later hb))
        clear S0 hb
        obtain ⟨g1, g2, g3, F⟩ := S3
        go_wp2_with fail
        have S0 : GS w w.heap.size w.heap.size l d c w3 := ⟨g1, g2, g3, F⟩
        clear g1 g2 g3 F H3
        go_region_held3 (GS w w.heap.size w.heap.size l d c)
          (first | assumption | exact GS.drew ‹_›)
          (first
            | (go_at_call 13; (with_reducible refine (HW.out _).mono ?_); rintro e w4 ⟨rfl, hb⟩; have S4 := (GS.drew S0).later hb; clear hb)
            | (go_at_call 37; (with_reducible refine (HK.out _).mono ?_); rintro e w5 ⟨rfl, hb⟩; have S5 := S4.later hb))
        go_wp2
        go_ret3
        exact ⟨by rw [H.out, H1.out, H2.out]; rfl, S5.2.2.2⟩
end Go.Proofs.Ytadfimimkkimmaa
end
section
set_option linter.unusedVariables false
set_option linter.unusedSimpArgs false
set_option maxRecDepth 20000
namespace Go.Proofs.Ytadfimimkkimmaa
open Go.RowKit

theorem step_append_J {w : World} {ops : Array Oper} {o : Oper} {a : Act} {K : Act → World → Prop} {Q : Exit → Act → World → Prop} {E : Prop} (hgd : o.guard = none) (s x : Operand)
    (ho : o.op = .call { callee := .builtin .append, args := #[s, x], argTypes := #[22, 22] })
    (base : Nat) (v : Value) (zs : List Int) (hs : a.eval s = v) (hown : OwJ w base v zs) (hl : zs.length ≤ 1000000) (g : Nat) (z : Int) (hx : a.eval x = .slice (some ⟨g, 0, none⟩) 1 1) (hg : w.cell? ⟨g, 0, none⟩ = some (.int .i64 z))
    (hbase : base ≤ w.heap.size)
    (h : ∀ v' w', OwJ w' base v' (zs ++ [z]) → w.grownBy w' v.ownBlock → K (a.put o.dst v') w') :
    if Region.wanted o (yielded ops a.tmps) = true then Oper.wp Try.prog o a w K Q else E := by
  obtain ⟨i, hi, hzz⟩ := Option.map_eq_some_iff.1 info_z
  simp only [Prod.mk.injEq] at hzz
  obtain ⟨hz, hsz, hb⟩ := hzz
  refine step_append_lies w hgd s x 22 ho base 3 i (.int .i64 0) 1 8 Try.underlying22 hi hz hsz hb rfl (by omega) v zs.length (zs.map zv) hs hown ⟨g, 0, none⟩ 1 1 [zv z] hx rfl (fun j u hj => ?_) (fun u hu => ?_) (by omega) (by unfold maxLen; omega) (by omega) hbase _ rfl (fun g' cap w' h1 h2 _ _ => h _ w' ?_ h2)
  · rcases j with _ | j
    · simp at hj; subst hj; exact hg
    · simp at hj
  · simp at hu; subst hu; rfl
  · unfold OwJ
    rw [List.length_append, List.map_append]
    exact h1
theorem OwJ.lt {w : World} {B : Nat} {v : Value} {zs : List Int} (h : OwJ w B v zs) : ∀ k, v.ownBlock = some k → B ≤ k ∧ k < w.heap.size := World.ownsRow.lt h
theorem GS.grown {w0 W W' : World} {B b : Nat} {l d c : Int} {row : Option Nat} (h : GS w0 B b l d c W) (hg : W.grownBy W' row) (hB : B ≤ W.heap.size) (hr : ∀ k, row = some k → B ≤ k ∧ k ≠ b) : GS w0 B b l d c W' := by
  obtain ⟨h1, h2, h3, F⟩ := h
  have hb : W'.heap[b]? = W.heap[b]? := hg.block b (World.block_lt_of_cell? _ _ h1) (fun e => (hr b e.symm).2 rfl)
  have hc : ∀ o, W'.cell? ⟨b, o, none⟩ = W.cell? ⟨b, o, none⟩ := fun o => by unfold World.cell?; simp only [hb]
  exact ⟨(hc 0).trans h1, (hc 1).trans h2, (hc 2).trans h3, F.grown hg hB fun k e => (hr k e).1⟩
/-- The first k numbers of a row. -/
def plFirst (l d c r : Int) (k : Nat) : List Int := (List.range k).map (fun j : Nat => plN l d c r (j : Int))
theorem plFirst_succ (l d c r : Int) (k : Nat) : plFirst l d c r k ++ [plN l d c r (k : Int)] = plFirst l d c r (k + 1) := by simp [plFirst, List.range_succ]
theorem plFirst_len (l d c r : Int) (k : Nat) : (plFirst l d c r k).length = k := by simp [plFirst]
theorem plFirst_all {l d c r : Int} {n : Nat} (h : plOk l d c r = true) (hn : gWid l d c = n) : plFirst l d c r n = plNums l d c r := by
  have hg := (plOk_yes h).1
  rw [gWid_yes hg] at hn
  unfold plNums plFirst
  rw [if_pos h, hn]
  simp
set_option maxHeartbeats 1000000 in
theorem refNumbers_own (l d c r : Int) (w : World) (HT : Hid (plOk l d c r = true)) (hl : (-9223372036854775808 ≤ l ∧ l ≤ 9223372036854775807)) (hd : (-9223372036854775808 ≤ d ∧ d ≤ 9223372036854775807)) (hc : (-9223372036854775808 ≤ c ∧ c ≤ 9223372036854775807)) (hr : (-9223372036854775808 ≤ r ∧ r ≤ 9223372036854775807)) :
    Calls Try.prog 30 #[.agg #[.int .i64 l, .int .i64 d, .int .i64 c], .int .i64 r] w fun e w' => ∃ v, e = .returned v ∧ OwJ w' w.heap.size v (plNums l d c r) ∧ Below w.heap.size w w' := by
  have G := gat_new w l d c 24 (0, 0)
  obtain ⟨hg, h0, h1⟩ := plOk_yes HT.out
  have hb6 := gOk_bd hg
  have HW := Lib.hid (fun W => refWidth_any l d c W hl hd hc)
  have hw := gWid_bd l d c
  obtain ⟨n, hn⟩ : ∃ n : Nat, gWid l d c = n := ⟨(gWid l d c).toNat, by omega⟩
  have Hall := Lib.hid (plFirst_all HT.out hn)
  have HN : Hid (∀ k : Nat, plN l d c r (k : Int) = (r / c * (n : Int) + k) * c + r % c) := Lib.hid fun k => by rw [← hn, gWid_yes hg]; rfl
  rw [hn] at HW hw
  have hq := quo_bd 16 h0 h1 (show 1 ≤ c by omega)
  have hm := rem_bd r (show 1 ≤ c by omega)
  have z3 : r.tdiv c = r / c := Int.tdiv_eq_ediv_of_nonneg h0
  have z4 : r.tmod c = r % c := Int.tmod_eq_emod_of_nonneg h0
  have n2 : ¬ c = 0 := by omega
  have z5 : IntKind.i64.wrap (r / c) = r / c := IntWalk.i64_in _ (by omega)
  have hx : 0 ≤ r / c * (n : Int) ∧ r / c * (n : Int) ≤ 112 := ⟨Int.mul_nonneg hq.1 hw.1, by
    have := Int.mul_le_mul (show r / c ≤ 16 by omega) hw.2 hw.1 (by omega)
    omega⟩
  have z1 : IntKind.i64.wrap (r / c * (n : Int)) = r / c * (n : Int) := IntWalk.i64_in _ (by omega)
  clear hn hg h0 h1
  go_enter Try.func30, Try.ntmps30
  go_wp2_with fail
  (with_reducible refine (refFine_yes l d c r _ HT hl hd hc hr).mono ?_); rintro e w1 ⟨rfl, hb⟩
  have S1 := GS.later (w0 := w) (B := w.heap.size) ⟨G.1, G.2.1, G.2.2, below1 w _⟩ hb
  have q0 : w.heap.size < w1.heap.size := World.block_lt_of_cell? _ _ S1.1
  clear hb G
  go_wp2_with fail
  have H0 : OwJ w1 (w.heap.size + 1) (.slice none 0 0) (plFirst l d c r 0) := World.ownsRow_nil _ _ _ _
  go_loopw [5, 6] (fun v i wr => ∃ k : Nat, k ≤ n ∧ i = .int .i64 k ∧ OwJ wr (w.heap.size + 1) v (plFirst l d c r k) ∧ GS w w.heap.size w.heap.size l d c wr) (fun _ i _ => n - (intOf i).toNat)
  case atStart => exact ⟨0, Nat.zero_le _, rfl, H0, S1⟩
  case round =>
    obtain ⟨k, hk, rfl, hown, hS⟩ := hrel
    obtain ⟨g1, g2, g3, F⟩ := hS
    go_wp2_with fail
    (with_reducible refine (HW.out _).mono ?_); rintro e w2 ⟨rfl, hb⟩
    have S2 := GS.later (w0 := w) (B := w.heap.size) ⟨g1, g2, g3, F⟩ hb
    have hown2 := hown.below hb
    clear hb g1 g2 g3 F hown
    by_cases hlt : k < n
    · have i0 : (0 : Int) ≤ (k : Int) := by omega
      have i1 : (k : Int) < (n : Int) := by omega
      have Hk := Lib.hid (HN.out k)
      have hy : 0 ≤ (r / c * (n : Int) + (k : Int)) * c ∧ (r / c * (n : Int) + (k : Int)) * c ≤ 120 * 4 := ⟨Int.mul_nonneg (by omega) (by omega), Int.mul_le_mul (by omega) (by omega) (by omega) (by omega)⟩
      have y1 : IntKind.i64.wrap (r / c * (n : Int) + (k : Int)) = r / c * (n : Int) + (k : Int) := IntWalk.i64_in _ (by omega)
      have y2 : IntKind.i64.wrap ((r / c * (n : Int) + (k : Int)) * c) = (r / c * (n : Int) + (k : Int)) * c := IntWalk.i64_in _ (by omega)
      have y3 : IntKind.i64.wrap ((r / c * (n : Int) + (k : Int)) * c + r % c) = plN l d c r (k : Int) := by rw [Hk.out]; exact IntWalk.i64_in _ (by omega)
      have hlen := plFirst_len l d c r k
      have Hs := Lib.hid (plFirst_succ l d c r k)
      generalize plN l d c r (k : Int) = z at y3 Hs
      obtain ⟨g1, g2, g3, F⟩ := S2
      go_wp2_with fail
      have S2 : GS w w.heap.size w.heap.size l d c w2 := ⟨g1, g2, g3, F⟩
      clear g1 g2 g3 F
      have zb := S2.2.2.2.size
      have q2 : w.heap.size < w2.heap.size := World.block_lt_of_cell? _ _ S2.1
      go_region_held3 (GS w w.heap.size w.heap.size l d c)
        (first | assumption | exact GS.drew ‹_› | exact GS.later S3 (below1 _ _) | exact S9)
        (first
          | (go_at_call 13; (with_reducible refine (HW.out _).mono ?_); rintro e w3 ⟨rfl, hb⟩; have S3 := (GS.drew S2).later hb; have hown3 := OwJ.below (w := w2.drew) hown2 hb; have q3 : w.heap.size + 1 ≤ w3.heap.size := Nat.le_trans q2 hb.size; clear hb)
          | (refine step_append_J (by rfl) _ _ (by rfl) (w.heap.size + 1) u5 (plFirst l d c r k) (by rfl) (hown3.below (below1 _ _)) (by omega) _ z (by rfl) (cell_of_row _ _ 0 _ _ _ (hp_new _ _ _ rfl)) (Nat.le_trans q3 (below1 _ _).size) ?_
             intro v2 w9 hown9 hg9
             have S9 := GS.grown (GS.later S3 (below1 w3 (.cells #[.int .i64 z] 3))) hg9 (Nat.le_trans (Nat.le_of_lt q3) (below1 _ _).size) (fun j hj => by have := (hown3.lt j hj).1; omega)))
      rw [Hs.out] at hown9
      go_wp2
      go_roundw
      case rel => exact ⟨k + 1, by omega, by go_num, hown9, S9⟩
      case measure => simp [intOf]; omega
    · obtain rfl : k = n := by omega
      rw [Hall.out] at hown2
      go_wp2
      go_ret
      exact ⟨_, rfl, hown2.le (by omega), S2.2.2.2⟩
theorem refNumbers_any (l d c r : Int) (w : World) (hl : (-9223372036854775808 ≤ l ∧ l ≤ 9223372036854775807)) (hd : (-9223372036854775808 ≤ d ∧ d ≤ 9223372036854775807)) (hc : (-9223372036854775808 ≤ c ∧ c ≤ 9223372036854775807)) (hr : (-9223372036854775808 ≤ r ∧ r ≤ 9223372036854775807)) :
    Calls Try.prog 30 #[.agg #[.int .i64 l, .int .i64 d, .int .i64 c], .int .i64 r] w fun e w' => ∃ A cp, e = .returned (.slice A (plNums l d c r).length cp) ∧ RdJ w' w'.heap.size A (plNums l d c r) ∧ Below w.heap.size w w' := by
  cases hT : plOk l d c r
  · have H := Lib.hid (plNums_no hT)
    have HT := Lib.hid hT
    clear hT
    go_enter Try.func30, Try.ntmps30
    go_wp2_with fail
    (with_reducible refine (refFine_no l d c r _ HT hl hd hc hr).mono ?_); rintro e w1 ⟨rfl, hb⟩
    have F := (below1 w _).trans (hb.mono (by simp))
    clear hb
    go_wp2_with fail
    go_ret
    exact ⟨none, 0, by rw [H.out]; rfl, by rw [H.out]; exact RdJ.nil _ _ _, F⟩
  · refine (refNumbers_own l d c r w (Lib.hid hT) hl hd hc hr).mono ?_
    rintro e w' ⟨v, rfl, ho, hb⟩
    have hw := gWid_bd l d c
    obtain ⟨A, cp, rfl, hr⟩ := ho.rd (by rw [plNums_len hT]; omega)
    exact ⟨A, cp, rfl, hr, hb⟩
end Go.Proofs.Ytadfimimkkimmaa
end
