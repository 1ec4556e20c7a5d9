/- Texts put together: StpKeep, StpFilledLoops. -/
import Derived.Test.YtadmofpipfdedaaSfax
import Derived.Test.YtadmofpipfdedaaSfaq
import Derived.Test.YtadmofpipfdedaaSfaw
import Derived.Test.YtadmofpipfdedaaSfan
import Derived.Test.YtadmofpipfdedaaSfaf
import Derived.Test.YtadmofpipfdedaaSfaa
section
set_option maxRecDepth 20000
set_option linter.unusedVariables false
set_option linter.unusedSimpArgs false
namespace Go.Proofs.Ytadmofpipfdedaa
open Go.RowKit

structure KS (W w : World) (b : Nat) (H : BH) (N : Bch) (K : List (Nat × Obj)) (R : List (Option Addr × List (List UInt8))) (S : List (Option Addr × List UInt8)) : Prop where
  kx : KX W w b H N K
  rx : ∀ p ∈ R, RdRX (BF b H N.n) w p.1 p.2
  sx : ∀ p ∈ S, RdBX (BF b H N.n) w p.1 p.2
section
variable {W w w' : World} {b : Nat} {H : BH} {N : Bch} {K : List (Nat × Obj)} {R : List (Option Addr × List (List UInt8))} {S : List (Option Addr × List UInt8)}
theorem KX.ks (h : KX W w b H N K) : KS W w b H N K [] [] := ⟨h, fun _ hp => absurd hp (by simp), fun _ hp => absurd hp (by simp)⟩
theorem KS.bp (h : KS W w b H N K R S) : BP W w b H N := h.kx.bp
theorem KS.below (h : KS W w b H N K R S) (hb : Below w.heap.size w w') : KS W w' b H N K R S := ⟨h.kx.below hb, fun p hp => (h.rx p hp).below hb, fun p hp => (h.sx p hp).below hb⟩
theorem KS.bc (h : KS W w b H N K R S) {N' : Bch} (hc : BC W w w' b H N.n N') (hn : N'.n = N.n) : ∃ H', KS W w' b H' N' K R S := by
  obtain ⟨H', a, c, m⟩ := hc
  have hx : KX W w' b H' N' K := by
    refine ⟨a, fun p hp => ?_⟩
    obtain ⟨h1, h2, h3⟩ := h.kx.kp p hp
    have hl := (Array.getElem?_eq_some_iff.1 h1).1
    exact ⟨(c.block _ hl h2).trans h1, by rw [hn]; exact BC.off m hl h2, h3⟩
  exact ⟨H', hx, fun p hp => by rw [hn]; exact (h.rx p hp).chg c (bnew_weak m), fun p hp => by rw [hn]; exact (h.sx p hp).chg c (bnew_weak m)⟩
theorem KS.add (h : KS W w b H N K R S) (o : Obj) : KS W (w.alloc o) b H N ((w.heap.size, o) :: K) R S := ⟨h.kx.add o, fun p hp => (h.rx p hp).below (below1 w o), fun p hp => (h.sx p hp).below (below1 w o)⟩
theorem KS.flt (h : KS W w b H N K R S) : ∀ k, BF b H N.n k → k < w.heap.size := fun k hk => (h.bp.at'.flt hk).2
theorem KS.off (h : KS W w b H N K R S) {lo : Nat} (hlo : w.heap.size ≤ lo) : ∀ k, k < w'.heap.size → lo ≤ k → ¬ BF b H N.n k := fun k _ hk e => by have := h.flt k e; omega
/-- With rows that were made since. -/
theorem KS.rows (h : KS W w b H N K R S) (hb : Below w.heap.size w w') {A : Option Addr} {rs : List (List UInt8)} (hr : RdF w.heap.size w' A rs) : KS W w' b H N K ((A, rs) :: R) S := by
  have h' := h.below hb
  refine ⟨h'.kx, fun p hp => ?_, h'.sx⟩
  rcases List.mem_cons.1 hp with rfl | hp
  · exact hr.rdrx (h.off (Nat.le_refl _))
  · exact h'.rx p hp
theorem KS.less (h : KS W w b H N K R S) {K' : List (Nat × Obj)} {R' : List (Option Addr × List (List UInt8))} {S' : List (Option Addr × List UInt8)} (hK : ∀ p ∈ K', p ∈ K) (hR : ∀ p ∈ R', p ∈ R) (hS : ∀ p ∈ S', p ∈ S) : KS W w b H N K' R' S' :=
  ⟨⟨h.kx.bp, fun p hp => h.kx.kp p (hK p hp)⟩, fun p hp => h.rx p (hR p hp), fun p hp => h.sx p (hS p hp)⟩
theorem KS.lv (h : KS W w b H N K R S) {g : Nat} {cs : Array Value} {t : TypeId} {f : Nat × Nat} {lv : List Bool} (hm : (g, Obj.cells cs t f) ∈ K) (hcs : cs = (lv.map Value.bool).toArray) (hl : lv.length ≤ 1000000) : RdOX (BF b H N.n) w (some ⟨g, 0, none⟩) lv := by
  subst hcs
  obtain ⟨h1, h2, _⟩ := h.kx.kp _ hm
  refine ⟨by omega, fun _ => ⟨g, 0, rfl, (Array.getElem?_eq_some_iff.1 h1).1, h2, fun k hk => ?_⟩⟩
  rw [Nat.zero_add, cell_of_row w g k _ t f h1, List.getElem?_toArray, List.getElem?_map, List.getElem?_eq_getElem hk]
  simp [List.getD_eq_getElem?_getD, hk]
theorem KS.gat (h : KS W w b H N K R S) {g : Nat} {l d c : Int} {t : TypeId} {f : Nat × Nat} (hm : (g, Obj.cells #[.int .i64 l, .int .i64 d, .int .i64 c] t f) ∈ K) : GAt w g l d c := by
  have h1 := (h.kx.kp _ hm).1
  exact ⟨cell_of_row w g 0 _ t f h1, cell_of_row w g 1 _ t f h1, cell_of_row w g 2 _ t f h1⟩
/-- A box, made and written. -/
theorem KS.box (h : KS W w b H N K R S) (o : Obj) {o' : Obj} (hg : (w.alloc o).grownBy w' (some w.heap.size)) (hb : w'.heap[w.heap.size]? = some o') : KS W w' b H N ((w.heap.size, o') :: K) R S := by
  have hB : Below w.heap.size w w' := (below1 w o).grown hg (by simp) (fun j e => by injection e with e; omega)
  have h' := h.below hB
  exact ⟨h.kx.box o hg hb, h'.rx, h'.sx⟩
end
section
variable {W w : World} {b : Nat} {H : BH} {N : Bch} {K : List (Nat × Obj)} {R : List (Option Addr × List (List UInt8))} {S : List (Option Addr × List UInt8)} (h : KS W w b H N K R S)
include h
theorem ks_damage (d k : Int) (x : List UInt8) (A : Option Addr) (n c : Nat) (hn : n = x.length) (hd : i64B d) (hk : i64B k) (hr : RdB w w.heap.size A x) (hps : ∀ i, i < N.n → (N.D i).ps.length ≤ 2000000) :
    Calls Try.prog 33 #[.pointer (some ⟨b, 0, none⟩), .int .i64 d, .int .i64 k, .slice A n c] w fun e w' => e = .returned (.int .i64 (N.damageE d k n)) ∧ ∃ H', KS W w' b H' (N.damage d k x) K R S := by
  refine (bch_damage_any _ b H N w h.bp.at' d k x A n c hn hd hk hr hps).mono ?_
  rintro e w' ⟨rfl, ht⟩
  obtain ⟨H', k'⟩ := h.bc (h.bp.to ht) (damage_n _ _ _ _)
  exact ⟨rfl, H', k'⟩
end
end Go.Proofs.Ytadmofpipfdedaa
end
section
set_option linter.unusedVariables false
set_option linter.unusedSimpArgs false
namespace Go.Proofs.Ytadmofpipfdedaa
open Go.RowKit

/-- The document's Fill of what may be filled. -/
theorem refFill_good {A : Option Addr} {rs : List (List UInt8)} {n cp D F : Nat} {l d c r : Int} {w : World} (hrd : RdR w w.heap.size A rs) (hn : rs.length = n) (hT : fillOk l d c r rs = true) (hD : roD d = D) (hF : roF l d c r = F)
    (hl : -9223372036854775808 ≤ l ∧ l ≤ 9223372036854775807) (hd : -9223372036854775808 ≤ d ∧ d ≤ 9223372036854775807) (hc : -9223372036854775808 ≤ c ∧ c ≤ 9223372036854775807) (hr : -9223372036854775808 ≤ r ∧ r ≤ 9223372036854775807) :
    Calls Try.prog 36 #[.agg #[.int .i64 l, .int .i64 d, .int .i64 c], .int .i64 r, .slice A n cp] w fun e w' => ∃ g xs, e = .returned (.tuple #[.slice (some ⟨g, 0, none⟩) D D, .bool true]) ∧ Rq w.heap.size w' g D D xs (fillL D F rs) ∧ Below w.heap.size w w' := by
  subst hD hF
  refine (refFill_yes A rs n cp l d c r w hn hrd hT hl hd hc hr).mono ?_
  rintro e w' ⟨g, xs, he, hq, hb⟩
  rw [fillL_len] at he hq
  exact ⟨g, xs, he, hq, hb⟩
end Go.Proofs.Ytadmofpipfdedaa
end
