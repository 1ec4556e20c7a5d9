/- Texts put together: RbdCut, ScrWant. -/
import Derived.Test.YtadmofpipfdedaaSabf
import Derived.Test.YtadmofpipfdedaaSaau
import Derived.Test.YtadmofpipfdedaaSaar
section
set_option maxRecDepth 20000
set_option linter.unusedVariables false
set_option linter.unusedSimpArgs false
namespace Go.Proofs.Ytadmofpipfdedaa
open Go.RowKit

section
variable {W w : World} {b : Nat} {H : BH} {N : Bch} {K : List (Nat × Obj)} {R : List (Option Addr × List (List UInt8))} {S : List (Option Addr × List UInt8)}
end
section
variable {N M : Bch} {m k : Nat} {G : RG} {zs : List Int} {lv : List Bool}
end
end Go.Proofs.Ytadmofpipfdedaa
end
section
set_option maxRecDepth 20000
set_option linter.unusedVariables false
set_option linter.unusedSimpArgs false
namespace Go.Proofs.Ytadmofpipfdedaa
open Go.RowKit

structure WI (w : World) (b : Nat) (H : BH) (n : Nat) (K : List (Nat × Obj)) (W : World) (v : Value) (ks : List Nat) : Prop where
  ow : OwI w W.heap.size v ks
  ne : ∀ g, v.ownBlock = some g → ¬ BF b H n g ∧ ∀ q ∈ K, q.1 ≠ g
theorem WI.nil (w : World) (b : Nat) (H : BH) (n : Nat) (K : List (Nat × Obj)) (W : World) : WI w b H n K W (.slice none 0 0) [] := ⟨owi_nil _ _, fun g e => by cases e⟩
section
variable {W w w' : World} {b : Nat} {H : BH} {N : Bch} {K : List (Nat × Obj)} {R : List (Option Addr × List (List UInt8))} {S : List (Option Addr × List UInt8)} {v : Value} {ks : List Nat} {n : Nat}
theorem WI.below (h : WI w b H n K W v ks) (hb : Below w.heap.size w w') : WI w' b H n K W v ks := ⟨h.ow.below hb, h.ne⟩
theorem KS.bcH (h : KS W w b H N K R S) {H' : BH} {N' : Bch} (a : BP W w' b H' N') (c : Chg (BF b H N.n) w w') (m : BNew w b H H' N.n) (hn : N'.n = N.n) : KS W w' b H' N' K R S := by
  have hx : KX W w' b H' N' K := by
    refine ⟨a, fun p hp => ?_⟩
    obtain ⟨h1, h2, h3⟩ := h.kx.kp p hp
    have hl := (Array.getElem?_eq_some_iff.1 h1).1
    exact ⟨(c.block _ hl h2).trans h1, by rw [hn]; exact BC.off m hl h2, h3⟩
  exact ⟨hx, fun p hp => by rw [hn]; exact (h.rx p hp).chg c (bnew_weak m), fun p hp => by rw [hn]; exact (h.sx p hp).chg c (bnew_weak m)⟩
theorem WI.bc (h : WI w b H n K W v ks) {H' : BH} (c : Chg (BF b H n) w w') (m : BNew w b H H' n) : WI w' b H' n K W v ks :=
  ⟨own_chg h.ow c fun k e => (h.ne k e).1, fun g e => ⟨fun q => (h.ne g e).1 (bnew_weak m g (h.ow.lt g e).2 q), (h.ne g e).2⟩⟩
theorem ks_damage_wi (h : KS W w b H N K R S) (hw : WI w b H N.n K W v ks) (d k : Int) (x : List UInt8) (A : Option Addr) (m c : Nat) (hm : m = x.length) (hd : i64B d) (hk : i64B k) (hr : RdB w w.heap.size A x) (hps : ∀ i, i < N.n → (N.D i).ps.length ≤ 2000000) :
    Calls Try.prog 33 #[.pointer (some ⟨b, 0, none⟩), .int .i64 d, .int .i64 k, .slice A m c] w fun e w' => e = .returned (.int .i64 (N.damageE d k m)) ∧ ∃ H', KS W w' b H' (N.damage d k x) K R S ∧ WI w' b H' (N.damage d k x).n K W v ks := by
  refine (bch_damage_any _ b H N w h.bp.at' d k x A m c hm hd hk hr hps).mono ?_
  rintro e w' ⟨rfl, ht⟩
  obtain ⟨H', a, c, m⟩ := h.bp.to ht
  exact ⟨rfl, H', h.bcH a c m (damage_n _ _ _ _), by rw [damage_n]; exact hw.bc c m⟩
theorem WI.push (h : WI w b H N.n K W v ks) (k : KS W w b H N K [] []) {o : Obj} {w9 : World} {v9 : Value} {j : Nat} (ho : w9.ownsRow W.heap.size 3 1 v9 (ks.length + 1) (ks.map iv ++ [.int .i64 (j : Int)])) (hg : (w.alloc o).grownBy w9 v.ownBlock) (hat : v9.ownBlock = v.ownBlock ∨ v9.ownBlock = some (w.alloc o).heap.size) :
    KS W w9 b H N K [] [] ∧ WI w9 b H N.n K W v9 (ks ++ [j]) := by
  refine ⟨(k.below (below1 w o)).far hg fun p e => ⟨(h.ow.lt p e).1, (h.ne p e).1, (h.ne p e).2⟩, ?_, fun g e => ?_⟩
  · unfold OwI
    rw [List.length_append, List.map_append]
    exact ho
  · rcases hat with e2 | e2
    · exact h.ne g (e2.symm.trans e)
    · rw [e2] at e
      injection e with e
      have hz : w.heap.size < g := by rw [← e]; simp
      refine ⟨fun q => by have := k.flt g q; omega, fun q hq e3 => ?_⟩
      have := (Array.getElem?_eq_some_iff.1 (k.kx.kp q hq).1).1
      omega
end
/-- A byte of a sector turned. -/
def tb (q : UInt8) (r : Nat) (x : List UInt8) : List UInt8 := x.set r (x.getD r 0 ^^^ q)
theorem tb_len (q : UInt8) (r : Nat) (x : List UInt8) : (tb q r x).length = x.length := List.length_set
theorem tb_get {q : UInt8} {r : Nat} {x : List UInt8} (hr : r < x.length) : (tb q r x).getD r 0 = x.getD r 0 ^^^ q := by
  simp [tb, List.getD_eq_getElem?_getD, hr]
theorem tb_tb {q : UInt8} {r : Nat} {x : List UInt8} (hr : r < x.length) : tb q r (tb q r x) = x := by
  have h := tb_get (q := q) hr
  unfold tb at h ⊢
  rw [h, List.set_set, UInt8.xor_assoc, UInt8.xor_self, UInt8.xor_zero]
  apply List.ext_getElem (by simp)
  intro j h1 h2
  rw [List.getElem_set]
  split
  · next e => subst e; simp [List.getD_eq_getElem?_getD, h2]
  · rfl
theorem tb_ne {q : UInt8} {r : Nat} {x : List UInt8} (hq : q ≠ 0) (hr : r < x.length) : tb q r x ≠ x := fun e => hq (by
  have h := tb_get (q := q) hr
  rw [e] at h
  have h2 : x.getD r 0 ^^^ x.getD r 0 = x.getD r 0 ^^^ (x.getD r 0 ^^^ q) := by rw [← h]
  rw [UInt8.xor_self, ← UInt8.xor_assoc, UInt8.xor_self, UInt8.zero_xor] at h2
  exact h2.symm)
/-- Of disk d the rows of P are turned. -/
structure Tw (N M : Bch) (m d : Nat) (q : UInt8) (P : Nat → Bool) : Prop where
  gd : Gd M m
  at' : ∀ i, i < m → ∀ t, t < 16 → secAt (M.D i).now (36 + t) = if i = d ∧ P t = true then tb q t (secAt (N.D i).now (36 + t)) else secAt (N.D i).now (36 + t)
theorem Tw.start {N : Bch} {m d : Nat} {q : UInt8} {P : Nat → Bool} (h : Gd N m) (hP : ∀ t, t < 16 → P t = false) : Tw N N m d q P := ⟨h, fun i _ t ht => by rw [if_neg (by rw [hP t ht]; simp)]⟩
theorem Tw.congr {N M : Bch} {m d : Nat} {q : UInt8} {P Q : Nat → Bool} (h : Tw N M m d q P) (hP : ∀ t, t < 16 → P t = Q t) : Tw N M m d q Q := ⟨h.gd, fun i hi t ht => by rw [h.at' i hi t ht, hP t ht]⟩
theorem Tw.step {N M : Bch} {m d r : Nat} {q : UInt8} {P Q : Nat → Bool} (h : Tw N M m d q P) (hd : d < m) (hr : r < 16) (h32 : (secAt (N.D d).now (36 + r)).length = 32) (hQ : ∀ t, t < 16 → Q t = if t = r then !P t else P t) : Tw N (M.damage (d : Int) ((36 + r : Nat) : Int) (tb q r (secAt (M.D d).now (36 + r)))) m d q Q := by
  have hx : (tb q r (secAt (M.D d).now (36 + r))).length = 32 := by
    rw [tb_len, h.at' d hd r hr]
    split
    · rw [tb_len]; exact h32
    · exact h32
  refine ⟨gd_damage h.gd hd (by omega) hx, fun i hi t ht => ?_⟩
  rw [sec_damage h.gd hd (by omega) hx]
  by_cases e : i = d ∧ 36 + t = 36 + r
  · rw [if_pos e]
    obtain ⟨rfl, e2⟩ := e
    obtain rfl : t = r := by omega
    rw [h.at' i hi t ht]
    have hq := hQ t ht
    rw [if_pos rfl] at hq
    cases hp : P t with
    | true =>
      rw [hp] at hq
      rw [if_pos ⟨rfl, rfl⟩, if_neg (by rw [hq]; simp), tb_tb (by omega)]
    | false =>
      rw [hp] at hq
      rw [if_neg (by simp), if_pos ⟨rfl, hq⟩]
  · rw [if_neg e, h.at' i hi t ht]
    have hq := hQ t ht
    by_cases e2 : t = r
    · have hi' : i ≠ d := fun q => e ⟨q, by rw [e2]⟩
      rw [if_neg (fun q => hi' q.1), if_neg (fun q => hi' q.1)]
    · rw [if_neg e2] at hq
      rw [hq]
theorem Tw.spo {N M : Bch} {m d : Nat} {q : UInt8} {P : Nat → Bool} {G : RG} {zs : List Int} (h : Tw N M m d q P) (hf : Fb N m (rowG G zs) 16 0) (hle : ∀ t, t < 16 → G.D t ≤ (m : Int)) (hG : G.ok = true) (hq : q ≠ 0) {r : Nat} (hr : r < 16) : Spo M G (rsZ G zs) r (P r && decide (d < (G.D r).toNat)) := by
  have hm := hle r hr
  have hw : ∀ i, i < (G.D r).toNat → secAt (M.D i).now (36 + r) = if i = d ∧ P r = true then tb q r ((flR G (rsZ G zs) r).getD i []) else (flR G (rsZ G zs) r).getD i [] := fun i hi => by
    rw [h.at' i (by omega) r hr, hf.st hle hG hr (by omega)]
  cases hp : P r with
  | false =>
    refine Spo.good hG (rows_dat G zs) hr fun i hi => ?_
    rw [hw i hi, if_neg (by rw [hp]; simp)]
  | true =>
    rw [hp] at hw
    by_cases hd : d < (G.D r).toNat
    · have h32 := flR_32 hG (rows_dat G zs) hr hd
      rw [Bool.true_and, decide_eq_true hd]
      refine Spo.bad hd (y := tb q r ((flR G (rsZ G zs) r).getD d [])) (by rw [tb_len]; exact h32) (tb_ne hq (by have : ((flR G (rsZ G zs) r).getD d []).length = 32 := h32; omega)) fun i hi => ?_
      rw [hw i hi]
      by_cases e : i = d
      · subst e; rw [if_pos ⟨rfl, rfl⟩, if_pos rfl]
      · rw [if_neg (fun q => e q.1), if_neg e]
    · rw [Bool.true_and, decide_eq_false hd]
      refine Spo.good hG (rows_dat G zs) hr fun i hi => ?_
      rw [hw i hi, if_neg (fun q => hd (by rw [← q.1]; exact hi))]
end Go.Proofs.Ytadmofpipfdedaa
end
