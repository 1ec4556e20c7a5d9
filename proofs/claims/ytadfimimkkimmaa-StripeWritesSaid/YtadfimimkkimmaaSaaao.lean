/- Texts put together: Kx, StpKeep, OnGood, StpFld, RefPlace, RefFill. -/
import Derived.Test.YtadfimimkkimmaaSaaam
import Derived.Test.YtadfimimkkimmaaSaaan
import Derived.Test.YtadfimimkkimmaaSaaaf
import Derived.Test.YtadfimimkkimmaaSaaak
import Derived.Test.YtadfimimkkimmaaSaaah
import Derived.Test.YtadfimimkkimmaaSaaad
import Derived.Test.YtadfimimkkimmaaSaaag
section
set_option maxRecDepth 8000
set_option linter.unusedVariables false
set_option linter.unusedSimpArgs false
namespace Go.Proofs.Ytadfimimkkimmaa
open Go.RowKit

structure KX (W w : World) (b : Nat) (H : BH) (N : Bch) (K : List (Nat × Obj)) : Prop where
  bp : BP W w b H N
  kp : ∀ p ∈ K, w.heap[p.1]? = some p.2 ∧ ¬ BF b H N.n p.1 ∧ W.heap.size ≤ p.1
section
variable {W w w' : World} {b : Nat} {H : BH} {N : Bch} {K : List (Nat × Obj)}
theorem KX.below (h : KX W w b H N K) (hb : Below w.heap.size w w') : KX W w' b H N K :=
  ⟨h.bp.grow hb, fun p hp => ⟨(hb.block _ (Array.getElem?_eq_some_iff.1 (h.kp p hp).1).1).trans (h.kp p hp).1, (h.kp p hp).2⟩⟩
theorem KX.bc (h : KX W w b H N K) {N' : Bch} (hc : BC W w w' b H N.n N') (hn : N'.n = N.n) : ∃ H', KX W w' b H' N' K := by
  obtain ⟨H', a, c, m⟩ := hc
  refine ⟨H', a, fun p hp => ?_⟩
  obtain ⟨h1, h2, h3⟩ := h.kp p hp
  have hl := (Array.getElem?_eq_some_iff.1 h1).1
  exact ⟨(c.block _ hl h2).trans h1, by rw [hn]; exact BC.off m hl h2, h3⟩
theorem KX.add (h : KX W w b H N K) (o : Obj) : KX W (w.alloc o) b H N ((w.heap.size, o) :: K) := by
  refine ⟨h.bp.alloc o, fun p hp => ?_⟩
  rcases List.mem_cons.1 hp with rfl | hp
  · exact ⟨heap_alloc_new _ _, (fun e => by have h9 : w.heap.size < w.heap.size := (h.bp.at'.flt e).2; omega), h.bp.bel.size⟩
  · exact (h.below (below1 w o)).kp p hp
theorem KX.box (h : KX W w b H N K) (o : Obj) {o' : Obj} (hg : (w.alloc o).grownBy w' (some w.heap.size)) (hb : w'.heap[w.heap.size]? = some o') : KX W w' b H N ((w.heap.size, o') :: K) := by
  have hB : Below w.heap.size w w' := (below1 w o).grown hg (by simp) (fun j e => by injection e with e; omega)
  refine ⟨h.bp.grow hB, fun p hp => ?_⟩
  rcases List.mem_cons.1 hp with rfl | hp
  · exact ⟨hb, (fun e => by have h9 : w.heap.size < w.heap.size := (h.bp.at'.flt e).2; omega), h.bp.bel.size⟩
  · exact (h.below hB).kp p hp
/-- A kept block is written. -/
theorem KX.put (h : KX W w b H N K) {p : Nat} {o o' : Obj} {K1 K2 : List (Nat × Obj)} (hK : K = K1 ++ (p, o) :: K2) (hg : w.grownBy w' (some p)) (hb : w'.heap[p]? = some o') (hne : ∀ r ∈ K1 ++ K2, r.1 ≠ p) : KX W w' b H N (K1 ++ (p, o') :: K2) := by
  subst hK
  have hp := h.kp (p, o) (by simp)
  have hch := chg_grown hg
  refine ⟨h.bp.chg hch (fun k e => by injection e with e; subst e; exact hp.2.2) (fun k hk e => by injection e with e; subst e; exact hp.2.1 hk), fun r hr => ?_⟩
  rcases List.mem_append.1 hr with h1 | h1
  · have h2 := h.kp r (by simp [h1])
    exact ⟨(hg.block _ (Array.getElem?_eq_some_iff.1 h2.1).1 (fun e => by injection e with e; exact hne r (by simp [h1]) e)).trans h2.1, h2.2⟩
  · rcases List.mem_cons.1 h1 with rfl | h1
    · exact ⟨hb, hp.2⟩
    · have h2 := h.kp r (by simp [h1])
      exact ⟨(hg.block _ (Array.getElem?_eq_some_iff.1 h2.1).1 (fun e => by injection e with e; exact hne r (by simp [h1]) e)).trans h2.1, h2.2⟩
end
theorem rdo_row {w : World} {g : Nat} {l : List Bool} {cs : Array Value} {t : TypeId} {f : Nat × Nat} (h : w.heap[g]? = some (.cells cs t f)) (hcs : cs = (l.map Value.bool).toArray) (hl : l.length ≤ 1000000) : RdO w w.heap.size (some ⟨g, 0, none⟩) l := by
  subst hcs
  refine ⟨by omega, fun hn => ⟨g, 0, rfl, (Array.getElem?_eq_some_iff.1 h).1, fun k hk => ?_⟩⟩
  rw [Nat.zero_add, cell_of_row w g k _ t f h, List.getElem?_toArray, List.getElem?_map, List.getElem?_eq_getElem hk]
  simp [List.getD_eq_getElem?_getD, hk]
theorem damage_n (N : Bch) (d k : Int) (x : List UInt8) : (N.damage d k x).n = N.n := by unfold Bch.damage; split <;> rfl
theorem fail_n (N : Bch) (d : Int) : (N.fail d).n = N.n := by unfold Bch.fail; split <;> rfl
theorem limit_n (N : Bch) (v : Int) : (N.limit v).n = N.n := by unfold Bch.limit; split <;> rfl
/-- Three of yes and no. -/
theorem KX.old {W w : World} {b : Nat} {H : BH} {N : Bch} {K : List (Nat × Obj)} (h : KX W w b H N K) {g : Nat} {o : Obj} (hg : w.heap[g]? = some o) (off : ¬ BF b H N.n g) (hW : W.heap.size ≤ g) : KX W w b H N ((g, o) :: K) :=
  ⟨h.bp, fun p hp => by
    rcases List.mem_cons.1 hp with rfl | hp
    · exact ⟨hg, off, hW⟩
    · exact h.kp p hp⟩
theorem KX.off {W w : World} {b : Nat} {H : BH} {N : Bch} {K : List (Nat × Obj)} (h : KX W w b H N K) {g : Nat} (hg : w.heap.size ≤ g) : ¬ BF b H N.n g := fun e => by have := (h.bp.at'.flt e).2; omega
section
variable {W w : World} {b : Nat} {H : BH} {N : Bch} {K : List (Nat × Obj)} (h : KX W w b H N K)
include h
theorem kx_damage (d k : Int) (x : List UInt8) (A : Option Addr) (n c : Nat) (hn : n = x.length) (hd : i64B d) (hk : i64B k) (hr : RdB w w.heap.size A x) (hps : ∀ i, i < N.n → (N.D i).ps.length ≤ 1999990) :
    Calls Try.prog 36 #[.pointer (some ⟨b, 0, none⟩), .int .i64 d, .int .i64 k, .slice A n c] w fun e w' => e = .returned (.int .i64 (N.damageE d k n)) ∧ ∃ H', KX W w' b H' (N.damage d k x) K := by
  refine (bch_damage_any _ b H N w h.bp.at' d k x A n c hn hd hk hr (fun i hi => Nat.le_trans (hps i hi) (by omega))).mono ?_
  rintro e w' ⟨rfl, ht⟩
  obtain ⟨H', k'⟩ := h.bc (h.bp.to ht) (damage_n _ _ _ _)
  exact ⟨rfl, H', k'⟩
end
end Go.Proofs.Ytadfimimkkimmaa
end
section
set_option maxRecDepth 20000
set_option linter.unusedVariables false
set_option linter.unusedSimpArgs false
namespace Go.Proofs.Ytadfimimkkimmaa
open Go.RowKit

structure KS (W w : World) (b : Nat) (H : BH) (N : Bch) (K : List (Nat × Obj)) (R : List (Option Addr × List (List UInt8))) (S : List (Option Addr × List UInt8)) : Prop where
  kx : KX W w b H N K
  rx : ∀ p ∈ R, RdRX (BF b H N.n) w p.1 p.2
  sx : ∀ p ∈ S, RdBX (BF b H N.n) w p.1 p.2
section
variable {W w w' : World} {b : Nat} {H : BH} {N : Bch} {K : List (Nat × Obj)} {R : List (Option Addr × List (List UInt8))} {S : List (Option Addr × List UInt8)}
theorem KX.ks (h : KX W w b H N K) : KS W w b H N K [] [] := ⟨h, fun _ hp => absurd hp (by simp), fun _ hp => absurd hp (by simp)⟩
theorem KS.bp (h : KS W w b H N K R S) : BP W w b H N := h.kx.bp
theorem KS.below (h : KS W w b H N K R S) (hb : Below w.heap.size w w') : KS W w' b H N K R S := ⟨h.kx.below hb, fun p hp => (h.rx p hp).below hb, fun p hp => (h.sx p hp).below hb⟩
theorem KS.bc (h : KS W w b H N K R S) {N' : Bch} (hc : BC W w w' b H N.n N') (hn : N'.n = N.n) : ∃ H', KS W w' b H' N' K R S := by
  obtain ⟨H', a, c, m⟩ := hc
  have hx : KX W w' b H' N' K := by
    refine ⟨a, fun p hp => ?_⟩
    obtain ⟨h1, h2, h3⟩ := h.kx.kp p hp
    have hl := (Array.getElem?_eq_some_iff.1 h1).1
    exact ⟨(c.block _ hl h2).trans h1, by rw [hn]; exact BC.off m hl h2, h3⟩
  exact ⟨H', hx, fun p hp => by rw [hn]; exact (h.rx p hp).chg c (bnew_weak m), fun p hp => by rw [hn]; exact (h.sx p hp).chg c (bnew_weak m)⟩
theorem KS.add (h : KS W w b H N K R S) (o : Obj) : KS W (w.alloc o) b H N ((w.heap.size, o) :: K) R S := ⟨h.kx.add o, fun p hp => (h.rx p hp).below (below1 w o), fun p hp => (h.sx p hp).below (below1 w o)⟩
theorem KS.flt (h : KS W w b H N K R S) : ∀ k, BF b H N.n k → k < w.heap.size := fun k hk => (h.bp.at'.flt hk).2
theorem KS.off (h : KS W w b H N K R S) {lo : Nat} (hlo : w.heap.size ≤ lo) : ∀ k, k < w'.heap.size → lo ≤ k → ¬ BF b H N.n k := fun k _ hk e => by have := h.flt k e; omega
/-- With rows that were made since. -/
theorem KS.rows (h : KS W w b H N K R S) (hb : Below w.heap.size w w') {A : Option Addr} {rs : List (List UInt8)} (hr : RdF w.heap.size w' A rs) : KS W w' b H N K ((A, rs) :: R) S := by
  have h' := h.below hb
  refine ⟨h'.kx, fun p hp => ?_, h'.sx⟩
  rcases List.mem_cons.1 hp with rfl | hp
  · exact hr.rdrx (h.off (Nat.le_refl _))
  · exact h'.rx p hp
theorem KS.slice (h : KS W w b H N K R S) (hb : Below w.heap.size w w') {A : Option Addr} {bs : List UInt8} (hr : RdBF w.heap.size w' A bs) : KS W w' b H N K R ((A, bs) :: S) := by
  have h' := h.below hb
  refine ⟨h'.kx, h'.rx, fun p hp => ?_⟩
  rcases List.mem_cons.1 hp with rfl | hp
  · exact hr.rdbx (h.off (Nat.le_refl _))
  · exact h'.sx p hp
theorem KS.less (h : KS W w b H N K R S) {K' : List (Nat × Obj)} {R' : List (Option Addr × List (List UInt8))} {S' : List (Option Addr × List UInt8)} (hK : ∀ p ∈ K', p ∈ K) (hR : ∀ p ∈ R', p ∈ R) (hS : ∀ p ∈ S', p ∈ S) : KS W w b H N K' R' S' :=
  ⟨⟨h.kx.bp, fun p hp => h.kx.kp p (hK p hp)⟩, fun p hp => h.rx p (hR p hp), fun p hp => h.sx p (hS p hp)⟩
theorem KS.rd (h : KS W w b H N K R S) {A : Option Addr} {rs : List (List UInt8)} (hm : (A, rs) ∈ R) : RdR w w.heap.size A rs := (h.rx _ hm).rdr
theorem KS.sl (h : KS W w b H N K R S) {A : Option Addr} {bs : List UInt8} (hm : (A, bs) ∈ S) : RdB w w.heap.size A bs := (h.sx _ hm).rdb
theorem KS.lv (h : KS W w b H N K R S) {g : Nat} {cs : Array Value} {t : TypeId} {f : Nat × Nat} {lv : List Bool} (hm : (g, Obj.cells cs t f) ∈ K) (hcs : cs = (lv.map Value.bool).toArray) (hl : lv.length ≤ 1000000) : RdOX (BF b H N.n) w (some ⟨g, 0, none⟩) lv := by
  subst hcs
  obtain ⟨h1, h2, _⟩ := h.kx.kp _ hm
  refine ⟨by omega, fun _ => ⟨g, 0, rfl, (Array.getElem?_eq_some_iff.1 h1).1, h2, fun k hk => ?_⟩⟩
  rw [Nat.zero_add, cell_of_row w g k _ t f h1, List.getElem?_toArray, List.getElem?_map, List.getElem?_eq_getElem hk]
  simp [List.getD_eq_getElem?_getD, hk]
theorem KS.gat (h : KS W w b H N K R S) {g : Nat} {l d c : Int} {t : TypeId} {f : Nat × Nat} (hm : (g, Obj.cells #[.int .i64 l, .int .i64 d, .int .i64 c] t f) ∈ K) : GAt w g l d c := by
  have h1 := (h.kx.kp _ hm).1
  exact ⟨cell_of_row w g 0 _ t f h1, cell_of_row w g 1 _ t f h1, cell_of_row w g 2 _ t f h1⟩
/-- A box, made and written. -/
theorem KS.box (h : KS W w b H N K R S) (o : Obj) {o' : Obj} (hg : (w.alloc o).grownBy w' (some w.heap.size)) (hb : w'.heap[w.heap.size]? = some o') : KS W w' b H N ((w.heap.size, o') :: K) R S := by
  have hB : Below w.heap.size w w' := (below1 w o).grown hg (by simp) (fun j e => by injection e with e; omega)
  have h' := h.below hB
  exact ⟨h.kx.box o hg hb, h'.rx, h'.sx⟩
theorem swrS_n (N : Bch) (lv : List Bool) (l d c r : Int) (rs : List (List UInt8)) : (swrS N lv l d c r rs).2.n = N.n := by
  unfold swrS; split
  · rfl
  · exact swTo_n _
theorem sflS_n (N : Bch) (lv : List Bool) : (sflS N lv).2.n = N.n := flushed_n _
end
section
variable {W w : World} {b : Nat} {H : BH} {N : Bch} {K : List (Nat × Obj)} {R : List (Option Addr × List (List UInt8))} {S : List (Option Addr × List UInt8)} (h : KS W w b H N K R S)
include h
theorem ks_damage (d k : Int) (x : List UInt8) (A : Option Addr) (n c : Nat) (hn : n = x.length) (hd : i64B d) (hk : i64B k) (hr : RdB w w.heap.size A x) (hps : ∀ i, i < N.n → (N.D i).ps.length ≤ 2000000) :
    Calls Try.prog 36 #[.pointer (some ⟨b, 0, none⟩), .int .i64 d, .int .i64 k, .slice A n c] w fun e w' => e = .returned (.int .i64 (N.damageE d k n)) ∧ ∃ H', KS W w' b H' (N.damage d k x) K R S := by
  refine (bch_damage_any _ b H N w h.bp.at' d k x A n c hn hd hk hr hps).mono ?_
  rintro e w' ⟨rfl, ht⟩
  obtain ⟨H', k'⟩ := h.bc (h.bp.to ht) (damage_n _ _ _ _)
  exact ⟨rfl, H', k'⟩
theorem ks_fail (d : Int) (hd : i64B d) : Calls Try.prog 16 #[.pointer (some ⟨b, 0, none⟩), .int .i64 d] w fun e w' => e = .returned (.int .i64 (N.pickE d)) ∧ ∃ H', KS W w' b H' (N.fail d) K R S := by
  refine (bp_fail W w b H N h.bp d hd).mono ?_
  rintro e w' ⟨rfl, ht⟩
  obtain ⟨H', k'⟩ := h.bc ht (fail_n _ _)
  exact ⟨rfl, H', k'⟩
theorem ks_limit (v : Int) (hv : i64B v) : Calls Try.prog 25 #[.pointer (some ⟨b, 0, none⟩), .int .i64 v] w fun e w' => e = .returned (.tuple #[]) ∧ ∃ H', KS W w' b H' (N.limit v) K R S := by
  refine (bp_limit W w b H N h.bp v hv).mono ?_
  rintro e w' ⟨rfl, ht⟩
  obtain ⟨H', k'⟩ := h.bc ht (limit_n _ _)
  exact ⟨rfl, H', k'⟩
theorem ks_write (lv : List Bool) (A : Option Addr) (m cp : Nat) (hm : m = lv.length) (hv : RdOX (BF b H N.n) w A lv) (A2 : Option Addr) (rs : List (List UInt8)) (n2 cp2 : Nat) (hn2 : rs.length = n2) (h28 : n2 ≤ 1000000) (hrd : RdR w w.heap.size A2 rs) (l d c r : Int)
    (hl : -9223372036854775808 ≤ l ∧ l ≤ 9223372036854775807) (hd : -9223372036854775808 ≤ d ∧ d ≤ 9223372036854775807) (hc : -9223372036854775808 ≤ c ∧ c ≤ 9223372036854775807) (hr : -9223372036854775808 ≤ r ∧ r ≤ 9223372036854775807)
    (hps : ∀ i, i < N.n → (N.D i).ps.length ≤ 1999990) (hdn : N.done ≤ 1999990) :
    Calls Try.prog 14 #[.pointer (some ⟨b, 0, none⟩), .slice A m cp, .agg #[.int .i64 l, .int .i64 d, .int .i64 c], .int .i64 r, .slice A2 n2 cp2] w fun e w' => e = .returned (.int .i64 (swrS N lv l d c r rs).1) ∧ ∃ H', KS W w' b H' (swrS N lv l d c r rs).2 K R S := by
  refine (stpWrite_any W w b H N h.bp lv A m cp hm hv A2 rs n2 cp2 hn2 h28 hrd l d c r hl hd hc hr hps hdn).mono ?_
  rintro e w' ⟨rfl, ht⟩
  obtain ⟨H', k'⟩ := h.bc ht (swrS_n _ _ _ _ _ _ _)
  exact ⟨rfl, H', k'⟩
theorem ks_flush (lv : List Bool) (A : Option Addr) (m cp : Nat) (hm : m = lv.length) (hv : RdOX (BF b H N.n) w A lv) :
    Calls Try.prog 15 #[.pointer (some ⟨b, 0, none⟩), .slice A m cp] w fun e w' => e = .returned (.int .i64 (sflS N lv).1) ∧ ∃ H', KS W w' b H' (sflS N lv).2 K R S := by
  refine (stpFlush_any W w b H N h.bp lv A m cp hm hv).mono ?_
  rintro e w' ⟨rfl, ht⟩
  obtain ⟨H', k'⟩ := h.bc ht (sflS_n _ _)
  exact ⟨rfl, H', k'⟩
theorem ks_read (lv : List Bool) (A : Option Addr) (n cp : Nat) (hn : n = lv.length) (hv : RdOX (BF b H N.n) w A lv) (l d c r : Int)
    (hl : -9223372036854775808 ≤ l ∧ l ≤ 9223372036854775807) (hd : -9223372036854775808 ≤ d ∧ d ≤ 9223372036854775807) (hc : -9223372036854775808 ≤ c ∧ c ≤ 9223372036854775807) (hr : -9223372036854775808 ≤ r ∧ r ≤ 9223372036854775807) :
    Calls Try.prog 18 #[.pointer (some ⟨b, 0, none⟩), .slice A n cp, .agg #[.int .i64 l, .int .i64 d, .int .i64 c], .int .i64 r] w fun e w' => ∃ A' c', e = .returned (.tuple #[.slice A' (srdL N lv l d c r).length c', .int .i64 (srdE N lv l d c r)]) ∧ KS W w' b H N K ((A', srdL N lv l d c r) :: R) S ∧ Below w.heap.size w w' := by
  refine (stpRead_any W.heap.size b H N w h.bp.at' lv A n cp hn hv.rdo l d c r hl hd hc hr).mono ?_
  rintro e w' ⟨v, rfl, ho, hb⟩
  have hlen : (srdL N lv l d c r).length ≤ 8 := by
    by_cases h0 : srdE N lv l d c r = 0
    · unfold srdL
      rw [if_pos h0]
      cases ht : roTake l d c r (ssL N lv (36 + r.toNat) (roD d)) with
      | none => simp
      | some L =>
        unfold roTake at ht
        split at ht
        · exact solveB_8 ht
        · cases ht
    · unfold srdL; rw [if_neg h0]; simp
  obtain ⟨xs, h1, h2⟩ := ho
  obtain ⟨A', c', rfl, _, hr'⟩ := rdf_own h1 (by omega) h2
  exact ⟨A', c', rfl, h.rows hb hr', hb⟩
theorem ks_one (lv : List Bool) (A : Option Addr) (m cp : Nat) (hm : m = lv.length) (hv : RdOX (BF b H N.n) w A lv) (l d c n : Int)
    (hl : -9223372036854775808 ≤ l ∧ l ≤ 9223372036854775807) (hd : -9223372036854775808 ≤ d ∧ d ≤ 9223372036854775807) (hc : -9223372036854775808 ≤ c ∧ c ≤ 9223372036854775807) (hn : -9223372036854775808 ≤ n ∧ n ≤ 9223372036854775807) :
    Calls Try.prog 23 #[.pointer (some ⟨b, 0, none⟩), .slice A m cp, .agg #[.int .i64 l, .int .i64 d, .int .i64 c], .int .i64 n] w fun e w' => ∃ A' c', e = .returned (.tuple #[.slice A' (soneB N lv l d c n).length c', .int .i64 (soneE N lv l d c n)]) ∧ KS W w' b H N K R ((A', soneB N lv l d c n) :: S) ∧ Below w.heap.size w w' := by
  refine (stpOne_any W.heap.size b H N w h.bp.at' lv A m cp hm hv.rdo l d c n hl hd hc hn).mono ?_
  rintro e w' ⟨A', c', rfl, ho, hb⟩
  exact ⟨A', c', rfl, h.slice hb ho, hb⟩
end
end Go.Proofs.Ytadfimimkkimmaa
end
section
set_option linter.unusedVariables false
set_option linter.unusedSimpArgs false
namespace Go.Proofs.Ytadfimimkkimmaa

theorem no1 {b : Bool} {p : Prop} (hb : b = false) : ¬ (b = true ∧ p) := fun h => by rw [hb] at h; exact absurd h.1 (by decide)
theorem no0 {b : Bool} (hb : b = false) : ¬ b = true := by rw [hb]; decide
theorem no2 {b c : Bool} (hc : c = true) : ¬ (b = true ∧ c = false) := fun h => by rw [hc] at h; exact absurd h.2 (by decide)
theorem no3 {a : Prop} {b c : Bool} (hc : c = true) : ¬ (a ∧ b = true ∧ c = false) := fun h => by rw [hc] at h; exact absurd h.2.2 (by decide)
/-- The live disks that have not failed, among the first. -/
def cntTo (N : Bch) (lv : List Bool) : Nat → Nat
  | 0 => 0
  | i + 1 => cntTo N lv i + if lv.getD i false = true ∧ (N.D i).f = false then 1 else 0
theorem cntTo_le (N : Bch) (lv : List Bool) : ∀ i, cntTo N lv i ≤ i
  | 0 => Nat.le_refl _
  | i + 1 => by
    have := cntTo_le N lv i
    unfold cntTo
    split <;> omega
def wrD (lv : List Bool) (k : Nat) (x : List UInt8) (D : Dsk) (i j : Nat) : Dsk := if j < i ∧ lv.getD j false = true ∧ D.f = false then D.write k x else D
def flD (lv : List Bool) (D : Dsk) (i j : Nat) : Dsk := if j < i ∧ lv.getD j false = true then D.flushE else D
theorem wrD_same {lv : List Bool} {k : Nat} {x : List UInt8} {D : Dsk} {i j : Nat} (h : j ≠ i) : wrD lv k x D (i + 1) j = wrD lv k x D i j := by
  unfold wrD
  by_cases c : j < i
  · simp only [c, show j < i + 1 by omega]
  · rw [if_neg (by omega), if_neg (by omega)]
theorem wrD_at {lv : List Bool} {k : Nat} {x : List UInt8} {D : Dsk} {i : Nat} : wrD lv k x D i i = D := if_neg (by omega)
theorem wrD_next {lv : List Bool} {k : Nat} {x : List UInt8} {D : Dsk} {i : Nat} : wrD lv k x D (i + 1) i = if lv.getD i false = true ∧ D.f = false then D.write k x else D := by
  unfold wrD; simp only [show i < i + 1 by omega, true_and]
theorem flD_same {lv : List Bool} {D : Dsk} {i j : Nat} (h : j ≠ i) : flD lv D (i + 1) j = flD lv D i j := by
  unfold flD
  by_cases c : j < i
  · simp only [c, show j < i + 1 by omega]
  · rw [if_neg (by omega), if_neg (by omega)]
theorem flD_at {lv : List Bool} {D : Dsk} {i : Nat} : flD lv D i i = D := if_neg (by omega)
theorem flD_next {lv : List Bool} {D : Dsk} {i : Nat} : flD lv D (i + 1) i = if lv.getD i false = true then D.flushE else D := by
  unfold flD; simp only [show i < i + 1 by omega, true_and]
structure WrG (N M : Bch) (lv : List Bool) (k : Nat) (x : List UInt8) (i : Nat) : Prop where
  n : M.n = N.n
  dn : M.down = false
  lf : M.left = -1
  D : ∀ j, M.D j = wrD lv k x (N.D j) i j
  done : M.done = N.done + cntTo N lv i
theorem wrote_good {N : Bch} {lv : List Bool} {k : Nat} {x : List UInt8} (hk : k < 52) (hx : x.length = 32) (hd : N.down = false) (hl : N.left = -1) : ∀ i, i ≤ N.n → (onTo (wrF k x) lv N i).1 = 0 ∧ WrG N (onTo (wrF k x) lv N i).2 lv k x i
  | 0, _ => ⟨rfl, rfl, hd, hl, fun j => (if_neg (by omega)).symm, rfl⟩
  | i + 1, hi => by
    obtain ⟨h0, g⟩ := wrote_good (lv := lv) hk hx hd hl i (by omega)
    have hDi : (onTo (wrF k x) lv N i).2.D i = N.D i := by rw [g.D i, wrD_at]
    cases hb : lv.getD i false with
    | false =>
      rw [onTo_skip h0 hb]
      refine ⟨h0, g.n, g.dn, g.lf, fun j => ?_, ?_⟩
      · by_cases e : j = i
        · subst e; rw [hDi, wrD_next, if_neg (no1 hb)]
        · rw [wrD_same e]; exact g.D j
      · rw [g.done]; show _ = N.done + (cntTo N lv i + _); rw [if_neg (no1 hb)]; omega
    | true =>
      have hpw : (onTo (wrF k x) lv N i).2.powE (i : Int) = 0 := Bch.powE_ok (Bch.pickE_ok (by omega) (by rw [g.n]; omega)) g.dn
      cases hf : (N.D i).f with
      | true =>
        have ht : takeE ((onTo (wrF k x) lv N i).2.at_ (i : Int)).f (k : Int) x.length = 5 := by
          rw [show ((onTo (wrF k x) lv N i).2.at_ (i : Int)) = (onTo (wrF k x) lv N i).2.D i from rfl, hDi, hf]; exact takeE_fail _ _
        have e1 : (wrF k x (onTo (wrF k x) lv N i).2 i).1 = 5 := by
          show (onTo (wrF k x) lv N i).2.writeE _ _ _ = 5
          unfold Bch.writeE; rw [if_neg (by simp [hpw]), if_pos (by rw [ht]; decide), ht]
        have e2 : (wrF k x (onTo (wrF k x) lv N i).2 i).2 = (onTo (wrF k x) lv N i).2 := by
          show (onTo (wrF k x) lv N i).2.write _ _ _ = _
          unfold Bch.write; rw [if_neg (by simp [hpw]), if_pos (by rw [ht]; decide)]
        rw [onTo_pass h0 hb e1, e2]
        refine ⟨rfl, g.n, g.dn, g.lf, fun j => ?_, ?_⟩
        · by_cases e : j = i
          · subst e; show (onTo (wrF k x) lv N j).2.D j = _; rw [hDi, wrD_next, if_neg (no2 hf)]
          · rw [wrD_same e]; exact g.D j
        · show (onTo (wrF k x) lv N i).2.done = N.done + (cntTo N lv i + _)
          rw [g.done, if_neg (no2 hf)]; omega
      | false =>
        have hw := Bch.write_ok (N := (onTo (wrF k x) lv N i).2) (d := i) (k := k) (x := x) (by rw [g.n]; omega) hk hx (by rw [hDi, hf]) g.dn (by rw [g.lf]; decide)
        rw [Bch.count_free (by exact g.lf), hDi] at hw
        have e1 : (wrF k x (onTo (wrF k x) lv N i).2 i).1 = 0 := hw.1
        rw [onTo_goes h0 hb (by rw [e1]; decide)]
        refine ⟨e1, ?_⟩
        show WrG N ((onTo (wrF k x) lv N i).2.write (i : Int) (k : Int) x) lv k x (i + 1)
        rw [hw.2]
        refine ⟨g.n, g.dn, g.lf, fun j => ?_, ?_⟩
        · show upd (onTo (wrF k x) lv N i).2.D i _ j = _
          by_cases e : j = i
          · subst e; rw [upd_same, wrD_next, if_pos ⟨hb, hf⟩]
          · rw [upd_other _ _ e, wrD_same e]; exact g.D j
        · show (onTo (wrF k x) lv N i).2.done + 1 = N.done + (cntTo N lv i + _)
          rw [g.done, if_pos ⟨hb, hf⟩]; omega
structure FlG (N M : Bch) (lv : List Bool) (i : Nat) : Prop where
  n : M.n = N.n
  dn : M.down = false
  lf : M.left = N.left
  D : ∀ j, M.D j = flD lv (N.D j) i j
  done : M.done = N.done
theorem flushed_good {N : Bch} {lv : List Bool} (hd : N.down = false) : ∀ i, i ≤ N.n → (onTo flF lv N i).1 = 0 ∧ FlG N (onTo flF lv N i).2 lv i
  | 0, _ => ⟨rfl, rfl, hd, rfl, fun j => (if_neg (by omega)).symm, rfl⟩
  | i + 1, hi => by
    obtain ⟨h0, g⟩ := flushed_good (lv := lv) hd i (by omega)
    have hDi : (onTo flF lv N i).2.D i = N.D i := by rw [g.D i, flD_at]
    cases hb : lv.getD i false with
    | false =>
      rw [onTo_skip h0 hb]
      refine ⟨h0, g.n, g.dn, g.lf, fun j => ?_, g.done⟩
      by_cases e : j = i
      · subst e; rw [hDi, flD_next, if_neg (no0 hb)]
      · rw [flD_same e]; exact g.D j
    | true =>
      have hpw : (onTo flF lv N i).2.powE (i : Int) = 0 := Bch.powE_ok (Bch.pickE_ok (by omega) (by rw [g.n]; omega)) g.dn
      have e2 : (flF (onTo flF lv N i).2 i).2 = (onTo flF lv N i).2.set i (N.D i).flushE := by
        show (onTo flF lv N i).2.flush _ = _
        unfold Bch.flush; rw [if_neg (by simp [hpw])]
        show (onTo flF lv N i).2.set i ((onTo flF lv N i).2.D i).flushE = _
        rw [hDi]
      have hg : FlG N ((onTo flF lv N i).2.set i (N.D i).flushE) lv (i + 1) := by
        refine ⟨g.n, g.dn, g.lf, fun j => ?_, g.done⟩
        show upd (onTo flF lv N i).2.D i _ j = _
        by_cases e : j = i
        · subst e; rw [upd_same, flD_next, if_pos hb]
        · rw [upd_other _ _ e, flD_same e]; exact g.D j
      cases hf : (N.D i).f with
      | true =>
        have e1 : (flF (onTo flF lv N i).2 i).1 = 5 := by
          show (onTo flF lv N i).2.flushE _ = 5
          unfold Bch.flushE; rw [if_neg (by simp [hpw]), if_pos]
          show ((onTo flF lv N i).2.D i).f = true
          rw [hDi]; exact hf
        rw [onTo_pass h0 hb e1, e2]
        exact ⟨rfl, hg⟩
      | false =>
        have e1 : (flF (onTo flF lv N i).2 i).1 = 0 := by
          show (onTo flF lv N i).2.flushE _ = 0
          unfold Bch.flushE; rw [if_neg (by simp [hpw]), if_neg]
          show ¬ ((onTo flF lv N i).2.D i).f = true
          rw [hDi, hf]; decide
        rw [onTo_goes h0 hb (by rw [e1]; decide)]
        exact ⟨e1, by rw [e2]; exact hg⟩
end Go.Proofs.Ytadfimimkkimmaa
end
section
set_option linter.unusedVariables false
set_option linter.unusedSimpArgs false
namespace Go.Proofs.Ytadfimimkkimmaa

/-- A bench with power, without a limit, on which nothing is pending. -/
structure Gd (N : Bch) (m : Nat) : Prop where
  n : N.n = m
  dn : N.down = false
  lf : N.left = -1
  done : N.done = 0
  ps : ∀ i, i < m → (N.D i).ps = []
  ok : ∀ i, i < m → (N.D i).Ok
  f : ∀ i, i < m → (N.D i).f = false
/-- The rows below s stand on it, and of row s what is on disks below j. -/
structure Fld (N : Bch) (m D : Nat) (fl : Nat → List (List UInt8)) (s j : Nat) : Prop where
  gd : Gd N m
  at' : ∀ t i, i < D → t < 16 → t < s ∨ (t = s ∧ i < j) → secAt (N.D i).now (36 + t) = (fl t).getD i []
theorem gd_new (m : Nat) : Gd (Bch.new m) m := ⟨rfl, rfl, rfl, rfl, fun _ _ => rfl, fun _ _ => Dsk.new_ok, fun _ _ => rfl⟩
theorem fld_new (m D : Nat) (fl : Nat → List (List UInt8)) : Fld (Bch.new m) m D fl 0 0 := ⟨gd_new m, fun t i _ _ h => by omega⟩
theorem damage_do {N : Bch} {d k : Nat} {x : List UInt8} (hd : d < N.n) (hk : k < 52) (hx : x.length = 32) (hf : (N.D d).f = false) : N.damage (d : Int) (k : Int) x = N.set d ((N.D d).damage k x) := by
  unfold Bch.damage
  rw [if_neg (by rw [Bch.pickE_ok (by omega) (by omega)]; simp)]
  show N.set d ((N.D d).damageE (k : Int) x) = _
  unfold Dsk.damageE
  rw [if_pos (by rw [hx, hf]; exact takeE_ok (by omega) (by omega))]
  rfl
theorem gd_damage {N : Bch} {m d k : Nat} {x : List UInt8} (h : Gd N m) (hd : d < m) (hk : k < 52) (hx : x.length = 32) : Gd (N.damage (d : Int) (k : Int) x) m := by
  rw [damage_do (by rw [h.n]; exact hd) hk hx (h.f d hd)]
  refine ⟨h.n, h.dn, h.lf, h.done, fun i hi => ?_, fun i hi => ?_, fun i hi => ?_⟩ <;> show _
  · show (upd N.D d _ i).ps = []
    by_cases e : i = d
    · subst e; rw [upd_same]; show List.filter _ (N.D i).ps = []; rw [h.ps i hi]; rfl
    · rw [upd_other _ _ e]; exact h.ps i hi
  · show (upd N.D d _ i).Ok
    by_cases e : i = d
    · subst e; rw [upd_same]; exact (h.ok i hi).damage hk hx
    · rw [upd_other _ _ e]; exact h.ok i hi
  · show (upd N.D d _ i).f = false
    by_cases e : i = d
    · subst e; rw [upd_same]; exact h.f i hi
    · rw [upd_other _ _ e]; exact h.f i hi
theorem sec_damage {N : Bch} {m d k : Nat} {x : List UInt8} (h : Gd N m) (hd : d < m) (hk : k < 52) (hx : x.length = 32) (i j : Nat) : secAt ((N.damage (d : Int) (k : Int) x).D i).now j = if i = d ∧ j = k then x else secAt (N.D i).now j := by
  rw [damage_do (by rw [h.n]; exact hd) hk hx (h.f d hd)]
  show secAt (upd N.D d _ i).now j = _
  by_cases e : i = d
  · subst e
    rw [upd_same, Dsk.damage_now (h.ok i hd) hk hx]
    by_cases e2 : j = k
    · subst e2; rw [if_pos ⟨rfl, rfl⟩]; exact sec_put_same (h.ok i hd).now hk hx
    · rw [if_neg (fun q => e2 q.2)]; exact sec_put_other (h.ok i hd).now hk hx e2
  · rw [upd_other _ _ e, if_neg (fun q => e q.1)]
theorem fld_damage {N : Bch} {m D : Nat} {fl : Nat → List (List UInt8)} {s j : Nat} (h : Fld N m D fl s j) (hj : j < m) (hs : s < 16) (hx : ((fl s).getD j []).length = 32) : Fld (N.damage (j : Int) ((36 + s : Nat) : Int) ((fl s).getD j [])) m D fl s (j + 1) := by
  refine ⟨gd_damage h.gd hj (by omega) hx, fun t i hi ht h2 => ?_⟩
  rw [sec_damage h.gd hj (by omega) hx]
  by_cases e : i = j ∧ 36 + t = 36 + s
  · rw [if_pos e]
    obtain ⟨rfl, e2⟩ := e
    obtain rfl : t = s := by omega
    rfl
  · rw [if_neg e]
    exact h.at' t i hi ht (by omega)
theorem fld_next {N : Bch} {m D : Nat} {fl : Nat → List (List UInt8)} {s : Nat} (h : Fld N m D fl s D) : Fld N m D fl (s + 1) 0 := ⟨h.gd, fun t i hi ht h2 => h.at' t i hi ht (by omega)⟩
/-- Filled. -/
theorem Fld.all {N : Bch} {m D : Nat} {fl : Nat → List (List UInt8)} (h : Fld N m D fl 16 0) {t i : Nat} (hi : i < D) (ht : t < 16) : secAt (N.D i).now (36 + t) = (fl t).getD i [] := h.at' t i hi ht (by omega)
end Go.Proofs.Ytadfimimkkimmaa
end
section
set_option linter.unusedVariables false
set_option linter.unusedSimpArgs false
namespace Go.Proofs.Ytadfimimkkimmaa
open Go.RowKit

theorem refFine_any (l d c r : Int) (w : World) (hl : (-9223372036854775808 ≤ l ∧ l ≤ 9223372036854775807)) (hd : (-9223372036854775808 ≤ d ∧ d ≤ 9223372036854775807)) (hc : (-9223372036854775808 ≤ c ∧ c ≤ 9223372036854775807)) (hr : (-9223372036854775808 ≤ r ∧ r ≤ 9223372036854775807)) :
    Calls Try.prog 57 #[.agg #[.int .i64 l, .int .i64 d, .int .i64 c], .int .i64 r] w fun e w' => e = .returned (.bool (plOk l d c r)) ∧ Below w.heap.size w w' := by
  cases hG : gOk l d c
  · have H : Hid (plOk l d c r = false) := plOk_no (by rw [hG]; simp)
    have HG := Lib.hid hG
    clear hG
    go_enter Try.func57, Try.ntmps57
    go_wp2_with fail
    (with_reducible refine (refCheck_no l d c _ HG hl hd hc).mono ?_); rintro e w1 ⟨rfl, hb⟩
    have F := (below1 w _).trans (hb.mono (by simp))
    clear hb
    go_wp2_with fail
    go_ret
    exact ⟨by rw [H.out]; rfl, F⟩
  · have HG := Lib.hid hG
    by_cases h0 : 0 ≤ r
    · have e0 : decide (0 ≤ r) = true := decide_eq_true h0
      by_cases h1 : r < 16
      · have e1 : decide (r < 16) = true := decide_eq_true h1
        have H : Hid (plOk l d c r = true) := plOk_mk hG h0 h1
        clear hG
        go_enter Try.func57, Try.ntmps57
        go_wp2_with fail
        (with_reducible refine (refCheck_yes l d c _ HG hl hd hc).mono ?_); rintro e w1 ⟨rfl, hb⟩
        have F := (below1 w _).trans (hb.mono (by simp))
        clear hb
        go_wp2_with fail
        go_ret
        exact ⟨by rw [H.out]; rfl, F⟩
      · have e1 : decide (r < 16) = false := decide_eq_false h1
        have H : Hid (plOk l d c r = false) := plOk_no (by omega)
        clear hG
        go_enter Try.func57, Try.ntmps57
        go_wp2_with fail
        (with_reducible refine (refCheck_yes l d c _ HG hl hd hc).mono ?_); rintro e w1 ⟨rfl, hb⟩
        have F := (below1 w _).trans (hb.mono (by simp))
        clear hb
        go_wp2_with fail
        go_ret
        exact ⟨by rw [H.out]; rfl, F⟩
    · have e0 : decide (0 ≤ r) = false := decide_eq_false h0
      have H : Hid (plOk l d c r = false) := plOk_no (by omega)
      clear hG
      go_enter Try.func57, Try.ntmps57
      go_wp2_with fail
      (with_reducible refine (refCheck_yes l d c _ HG hl hd hc).mono ?_); rintro e w1 ⟨rfl, hb⟩
      have F := (below1 w _).trans (hb.mono (by simp))
      clear hb
      go_wp2_with fail
      go_ret
      exact ⟨by rw [H.out]; rfl, F⟩
theorem refFine_yes (l d c r : Int) (w : World) (h : Hid (plOk l d c r = true)) (hl : (-9223372036854775808 ≤ l ∧ l ≤ 9223372036854775807)) (hd : (-9223372036854775808 ≤ d ∧ d ≤ 9223372036854775807)) (hc : (-9223372036854775808 ≤ c ∧ c ≤ 9223372036854775807)) (hr : (-9223372036854775808 ≤ r ∧ r ≤ 9223372036854775807)) :
    Calls Try.prog 57 #[.agg #[.int .i64 l, .int .i64 d, .int .i64 c], .int .i64 r] w fun e w' => e = .returned (.bool true) ∧ Below w.heap.size w w' := by
  have := refFine_any l d c r w hl hd hc hr
  rwa [h.out] at this
theorem refFine_no (l d c r : Int) (w : World) (h : Hid (plOk l d c r = false)) (hl : (-9223372036854775808 ≤ l ∧ l ≤ 9223372036854775807)) (hd : (-9223372036854775808 ≤ d ∧ d ≤ 9223372036854775807)) (hc : (-9223372036854775808 ≤ c ∧ c ≤ 9223372036854775807)) (hr : (-9223372036854775808 ≤ r ∧ r ≤ 9223372036854775807)) :
    Calls Try.prog 57 #[.agg #[.int .i64 l, .int .i64 d, .int .i64 c], .int .i64 r] w fun e w' => e = .returned (.bool false) ∧ Below w.heap.size w w' := by
  have := refFine_any l d c r w hl hd hc hr
  rwa [h.out] at this
theorem refParity_any (l d c r : Int) (w : World) (hl : (-9223372036854775808 ≤ l ∧ l ≤ 9223372036854775807)) (hd : (-9223372036854775808 ≤ d ∧ d ≤ 9223372036854775807)) (hc : (-9223372036854775808 ≤ c ∧ c ≤ 9223372036854775807)) (hr : (-9223372036854775808 ≤ r ∧ r ≤ 9223372036854775807)) :
    Calls Try.prog 56 #[.agg #[.int .i64 l, .int .i64 d, .int .i64 c], .int .i64 r] w fun e w' => e = .returned (.tuple #[.int .i64 (plP l d c r), .int .i64 (plQ l d c r)]) ∧ Below w.heap.size w w' := by
  have G := gat_new w l d c 24 (0, 0)
  cases hT : plOk l d c r
  · have HP := Lib.hid (plP_no hT)
    have HQ := Lib.hid (plQ_no hT)
    have HT := Lib.hid hT
    clear hT
    go_enter Try.func56, Try.ntmps56
    go_wp2_with fail
    (with_reducible refine (refFine_no l d c r _ HT hl hd hc hr).mono ?_); rintro e w1 ⟨rfl, hb⟩
    have F := (below1 w _).trans (hb.mono (by simp))
    clear hb
    go_wp2_with fail
    go_ret2
    exact ⟨by rw [HP.out, HQ.out]; rfl, F⟩
  · have HT := Lib.hid hT
    obtain ⟨hg, h0, h1⟩ := plOk_yes hT
    have hb6 := gOk_bd hg
    have hq := quo_bd 16 h0 h1 (show 1 ≤ c by omega)
    have hm := rem_bd (r / c) (show 1 ≤ d by omega)
    have HP := Lib.hid (plP_yes hT)
    by_cases h6 : l = 6
    · subst h6
      have HQ := Lib.hid (plQ_6 hT)
      clear hT hg
      go_enter Try.func56, Try.ntmps56
      go_wp2_with fail
      (with_reducible refine (refFine_yes 6 d c r _ HT hl hd hc hr).mono ?_); rintro e w1 ⟨rfl, hb⟩
      have F := (below1 w _).trans (hb.mono (by simp))
      obtain ⟨g1, g2, g3⟩ := G.below hb (by simp)
      clear hb
      go_wp2_with fail
      go_quiet (fail)
      go_wp2_with fail
      go_quiet (fail)
      go_wp2
      go_ret2
      exact ⟨by rw [HP.out, HQ.out]; rfl, (F.trans (belowN _ _ _)).trans (belowN _ _ _)⟩
    · obtain rfl : l = 5 := by omega
      have HQ := Lib.hid (@plQ_5 d c r)
      clear hT hg h6
      go_enter Try.func56, Try.ntmps56
      go_wp2_with fail
      (with_reducible refine (refFine_yes 5 d c r _ HT hl hd hc hr).mono ?_); rintro e w1 ⟨rfl, hb⟩
      have F := (below1 w _).trans (hb.mono (by simp))
      obtain ⟨g1, g2, g3⟩ := G.below hb (by simp)
      clear hb
      go_wp2_with fail
      go_quiet (fail)
      go_wp2
      go_ret2
      exact ⟨by rw [HP.out, HQ.out]; rfl, F.trans (belowN _ _ _)⟩
theorem refDisk_any (l d c r k : Int) (w : World) (hl : (-9223372036854775808 ≤ l ∧ l ≤ 9223372036854775807)) (hd : (-9223372036854775808 ≤ d ∧ d ≤ 9223372036854775807)) (hc : (-9223372036854775808 ≤ c ∧ c ≤ 9223372036854775807)) (hr : (-9223372036854775808 ≤ r ∧ r ≤ 9223372036854775807)) (hk : (-9223372036854775808 ≤ k ∧ k ≤ 9223372036854775807)) :
    Calls Try.prog 37 #[.agg #[.int .i64 l, .int .i64 d, .int .i64 c], .int .i64 r, .int .i64 k] w fun e w' => e = .returned (.int .i64 (plD l d c r k)) ∧ Below w.heap.size w w' := by
  have G := gat_new w l d c 24 (0, 0)
  have HD : Hid (∀ b, plDok l d c r k = b → plD l d c r k = if b = true then (plF l d c r + k) % d else -1) := Lib.hid (fun b h => by subst h; rfl)
  have HW := Lib.hid (fun W => refWidth_any l d c W hl hd hc)
  have HK : Hid (plDok l d c r k = (plOk l d c r && decide (0 ≤ k ∧ k < gWid l d c))) := rfl
  cases hT : plOk l d c r
  · have H := Lib.hid ((HD.out false (by rw [HK.out, hT]; rfl)).trans (if_neg (by decide)))
    have HT := Lib.hid hT
    clear hT
    go_enter Try.func37, Try.ntmps37
    go_wp2_with fail
    (with_reducible refine (refFine_no l d c r _ HT hl hd hc hr).mono ?_); rintro e w1 ⟨rfl, hb⟩
    have F := (below1 w _).trans (hb.mono (by simp))
    clear hb
    go_wp2_with fail
    go_ret
    exact ⟨by rw [H.out]; rfl, F⟩
  · have HT := Lib.hid hT
    by_cases h0 : k < 0
    · have H := Lib.hid ((HD.out false (by rw [HK.out, hT, decide_eq_false (by omega)]; rfl)).trans (if_neg (by decide)))
      have e0 : decide (k < 0) = true := decide_eq_true h0
      clear hT
      go_enter Try.func37, Try.ntmps37
      go_wp2_with fail
      (with_reducible refine (refFine_yes l d c r _ HT hl hd hc hr).mono ?_); rintro e w1 ⟨rfl, hb⟩
      have F := (below1 w _).trans (hb.mono (by simp))
      clear hb
      go_wp2_with fail
      go_ret
      exact ⟨by rw [H.out]; rfl, F⟩
    · have e0 : decide (k < 0) = false := decide_eq_false h0
      obtain ⟨hg, h00, h11⟩ := plOk_yes HT.out
      have hb6 := gOk_bd hg
      have hw := gWid_bd l d c
      by_cases h1 : gWid l d c ≤ k
      · have H := Lib.hid ((HD.out false (by rw [HK.out, hT, decide_eq_false (by omega)]; rfl)).trans (if_neg (by decide)))
        generalize gWid l d c = wd at HW hw h1
        have e1 : decide (wd ≤ k) = true := decide_eq_true h1
        clear hT hg h00 h11 HK HD
        go_enter Try.func37, Try.ntmps37
        go_wp2_with fail
        (with_reducible refine (refFine_yes l d c r _ HT hl hd hc hr).mono ?_); rintro e w1 ⟨rfl, hb⟩
        have S1 := GS.later (w0 := w) (B := w.heap.size) ⟨G.1, G.2.1, G.2.2, below1 w _⟩ hb
        clear hb G
        obtain ⟨g1, g2, g3, F⟩ := S1
        go_wp2_with fail
        (with_reducible refine (HW.out _).mono ?_); rintro e w2 ⟨rfl, hb⟩
        have S2 := GS.later (w0 := w) (B := w.heap.size) ⟨g1, g2, g3, F⟩ hb
        clear hb g1 g2 g3 F
        go_wp2_with fail
        go_ret
        exact ⟨by rw [H.out]; rfl, S2.2.2.2⟩
      · have H0 := (HD.out true (by rw [HK.out, hT, decide_eq_true (by omega)]; rfl)).trans (if_pos rfl)
        have H : Hid (plD l d c r k = (plP l d c r + gBud l d c + k) % d) := by rw [H0, plP_yes hT, gBud_yes hg]; unfold plF; exact Int.emod_add_emod _ _ _
        have hm := rem_bd (r / c) (show 1 ≤ d by omega)
        have hp : 0 ≤ plP l d c r ∧ plP l d c r < d := by rw [plP_yes hT]; omega
        have hbd := gBud_bd l d c
        have HP := Lib.hid (fun W => refParity_any l d c r W hl hd hc hr)
        have HB := Lib.hid (fun W => refBudget_any l d c W hl hd hc)
        clear H0 hm
        generalize gWid l d c = wd at HW hw h1
        generalize plP l d c r = p at HP hp H
        generalize plQ l d c r = q at HP
        generalize gBud l d c = bd at HB hbd H
        have e1 : decide (wd ≤ k) = false := decide_eq_false h1
        have n1 : ¬ d = 0 := by omega
        have z1 : IntKind.i64.wrap (p + bd) = p + bd := IntWalk.i64_in _ (by omega)
        have z2 : IntKind.i64.wrap (p + bd + k) = p + bd + k := IntWalk.i64_in _ (by omega)
        clear hT hg h00 h11 HK HD
        go_enter Try.func37, Try.ntmps37
        go_wp2_with fail
        (with_reducible refine (refFine_yes l d c r _ HT hl hd hc hr).mono ?_); rintro e w1 ⟨rfl, hb⟩
        have S1 := GS.later (w0 := w) (B := w.heap.size) ⟨G.1, G.2.1, G.2.2, below1 w _⟩ hb
        clear hb G
        obtain ⟨g1, g2, g3, F⟩ := S1
        go_wp2_with fail
        (with_reducible refine (HW.out _).mono ?_); rintro e w2 ⟨rfl, hb⟩
        have S2 := GS.later (w0 := w) (B := w.heap.size) ⟨g1, g2, g3, F⟩ hb
        clear hb g1 g2 g3 F
        obtain ⟨g1, g2, g3, F⟩ := S2
        go_wp2_with fail
        (with_reducible refine (HP.out _).mono ?_); rintro e w3 ⟨rfl, hb⟩
        have S0 := GS.later (w0 := w) (B := w.heap.size) ⟨g1, g2, g3, F⟩ hb
        clear hb g1 g2 g3 F
        obtain ⟨g1, g2, g3, F⟩ := S0
        go_wp2_with fail
        have S0 : GS w w.heap.size w.heap.size l d c w3 := ⟨g1, g2, g3, F⟩
        clear g1 g2 g3 F
        go_region_held3 (GS w w.heap.size w.heap.size l d c)
          (first | assumption | exact GS.drew ‹_›)
          ((go_at_call 40; (with_reducible refine (HB.out _).mono ?_); rintro e w4 ⟨rfl, hb⟩; have S4 := (GS.drew S0).later hb))
        go_wp2
        go_ret
        exact ⟨by rw [H.out, ← Int.tmod_eq_emod_of_nonneg (show 0 ≤ p + bd + k by omega)]; rfl, S4.2.2.2⟩
end Go.Proofs.Ytadfimimkkimmaa
end
section
set_option maxRecDepth 20000
set_option linter.unusedVariables false
set_option linter.unusedSimpArgs false
namespace Go.Proofs.Ytadfimimkkimmaa
open Go.RowKit

theorem refFill_no1 (A : Option Addr) (n cp : Nat) (l d c r : Int) (w : World) (hT : plOk l d c r = false)
    (hl : -9223372036854775808 ≤ l ∧ l ≤ 9223372036854775807) (hd : -9223372036854775808 ≤ d ∧ d ≤ 9223372036854775807) (hc : -9223372036854775808 ≤ c ∧ c ≤ 9223372036854775807) (hr : -9223372036854775808 ≤ r ∧ r ≤ 9223372036854775807) :
    Calls Try.prog 32 #[.agg #[.int .i64 l, .int .i64 d, .int .i64 c], .int .i64 r, .slice A n cp] w (SolveNo w) := by
  have G := gat_new w l d c 24 (0, 0)
  have CP := Lib.hid (fun W => refFine_no l d c r W (Lib.hid hT) hl hd hc hr)
  clear hT
  go_enter Try.func32, Try.ntmps32
  go_wp2_with fail
  (with_reducible refine (CP.out _).mono ?_); rintro e w1 ⟨rfl, hb⟩
  have F := (below1 w _).trans (hb.mono (by simp))
  clear hb
  go_wp2_with fail
  go_ret2
  exact ⟨rfl, F⟩
theorem refFill_no2 (A : Option Addr) (n cp : Nat) (l d c r : Int) (w : World) (hT : plOk l d c r = true) (hne : n ≠ roW l d) (hn8 : n ≤ 1000000)
    (hl : -9223372036854775808 ≤ l ∧ l ≤ 9223372036854775807) (hd : -9223372036854775808 ≤ d ∧ d ≤ 9223372036854775807) (hc : -9223372036854775808 ≤ c ∧ c ≤ 9223372036854775807) (hr : -9223372036854775808 ≤ r ∧ r ≤ 9223372036854775807) :
    Calls Try.prog 32 #[.agg #[.int .i64 l, .int .i64 d, .int .i64 c], .int .i64 r, .slice A n cp] w (SolveNo w) := by
  have G := gat_new w l d c 24 (0, 0)
  have CP := Lib.hid (fun W => refFine_yes l d c r W (Lib.hid hT) hl hd hc hr)
  have CW := Lib.hid (fun W => refWidth_any l d c W hl hd hc)
  have R := ro_of hT
  rw [R.wd] at CW
  have e1 : ((n : Int) != ((roW l d : Nat) : Int)) = true := by rw [bne_iff_ne]; omega
  generalize ((roW l d : Nat) : Int) = wd at CW e1
  clear hT hne R
  go_enter Try.func32, Try.ntmps32
  go_wp2_with fail
  (with_reducible refine (CP.out _).mono ?_); rintro e w1 ⟨rfl, hb⟩
  have F := (below1 w _).trans (hb.mono (by simp))
  obtain ⟨g1, g2, g3⟩ := G.below hb (by simp)
  clear hb
  go_wp2_with fail
  (with_reducible refine (CW.out _).mono ?_); rintro e w2 ⟨rfl, hb⟩
  have F2 := F.trans (hb.mono F.size)
  clear hb
  go_wp2_with fail
  go_ret2
  exact ⟨rfl, F2⟩
set_option maxHeartbeats 3200000 in
theorem refFill_yes (A : Option Addr) (rs : List (List UInt8)) (n cp : Nat) (l d c r : Int) (w : World) (hn : rs.length = n) (hrd : RdR w w.heap.size A rs) (hT : fillOk l d c r rs = true)
    (hl : -9223372036854775808 ≤ l ∧ l ≤ 9223372036854775807) (hd : -9223372036854775808 ≤ d ∧ d ≤ 9223372036854775807) (hc : -9223372036854775808 ≤ c ∧ c ≤ 9223372036854775807) (hr : -9223372036854775808 ≤ r ∧ r ≤ 9223372036854775807) :
    Calls Try.prog 32 #[.agg #[.int .i64 l, .int .i64 d, .int .i64 c], .int .i64 r, .slice A n cp] w (FillYes w (fillL (roD d) (roF l d c r) rs)) := by
  have G := gat_new w l d c 24 (0, 0)
  obtain ⟨hk, hnw, hall⟩ := fillOk_yes hT
  have CF := Lib.hid (fun W => refFine_yes l d c r W (Lib.hid hk) hl hd hc hr)
  have CP := Lib.hid (fun W => refParity_any l d c r W hl hd hc hr)
  have CW := Lib.hid (fun W => refWidth_any l d c W hl hd hc)
  have R := ro_of hk
  have HA := Lib.hid (fun k (hk : k < rs.length) => mem_getD hall hk)
  have CD : Hid (∀ (k : Nat) W, k < roW l d → Calls Try.prog 37 #[.agg #[.int .i64 l, .int .i64 d, .int .i64 c], .int .i64 r, .int .i64 (k : Int)] W fun e w' => e = .returned (.int .i64 ((roS (roD d) (roF l d c r) k : Nat) : Int)) ∧ Below W.heap.size W w') :=
    Lib.hid fun k W hk => by
      have hw7 := R.w7
      have := refDisk_any l d c r (k : Int) W hl hd hc hr (by omega)
      rwa [R.pD k hk] at this
  have CSP : Hid (∀ W, Below w.heap.size w W → Calls Try.prog 58 #[.slice A n cp] W (Gives W (pB rs))) := Lib.hid fun W hb => (refP_any A rs n cp W hn ((hrd.below hb (Nat.le_refl _)).more hb.size)).mono fun _ _ h => gives_of rfl h
  have CSQ : Hid (∀ W, Below w.heap.size w W → Calls Try.prog 59 #[.slice A n cp] W (Gives W (qB rs))) := Lib.hid fun W hb => (refQ_any A rs n cp W hn ((hrd.below hb (Nat.le_refl _)).more hb.size)).mono fun _ _ h => gives_of rfl h
  have hw1 := R.w1; have hw7 := R.w7; have hd8 := R.d8; have hWD := R.hW; have hFD := R.hF; have hlv := R.lv
  rw [R.pP, R.pQ] at CP
  rw [R.wd] at CW
  have e1 : ((n : Int) != ((roW l d : Nat) : Int)) = false := by rw [← hn, hnw]; exact bne_self_eq_false _
  have HS := Lib.hid (fun k (hk : k < roD d) => @fillTo2_succ (roD d) (roF l d c r) rs k hFD hk)
  have HSd := Lib.hid (fun k (hk : k < rs.length) => @allL_data rs k hk)
  have HSp := Lib.hid (allL_p rs)
  have HSq := Lib.hid (allL_q rs)
  have Hlt := Lib.hid (fun k (hk : k < roD d) => @roS_lt (roD d) (roF l d c r) k hFD hk)
  have Hfl := Lib.hid (show fillL (roD d) (roF l d c r) rs = fillTo2 (roD d) (roF l d c r) rs (roD d) from rfl)
  have Hf0 := Lib.hid (fillTo2_zero (roD d) (roF l d c r) rs)
  have Hfn := Lib.hid (fillL_len (roD d) (roF l d c r) rs)
  have hdd := R.dd
  obtain ⟨qv, hqv⟩ : ∃ qv, (if l = 6 then ((roS (roD d) (roF l d c r) (roW l d + 1) : Nat) : Int) else -1) = qv := ⟨_, rfl⟩
  rw [hqv] at CP
  have Hq := Lib.hid (show (qv = -1 ∧ roD d = roW l d + 1) ∨ (qv = ((roS (roD d) (roF l d c r) (roW l d + 1) : Nat) : Int) ∧ roD d = roW l d + 2) from by
    rcases hlv with ⟨rfl, h2⟩ | ⟨rfl, h2⟩
    · exact .inl ⟨by rw [← hqv]; rfl, h2⟩
    · exact .inr ⟨by rw [← hqv]; rfl, h2⟩)
  clear hqv hlv
  generalize fillL (roD d) (roF l d c r) rs = L at Hfl Hfn ⊢
  generalize roF l d c r = F0 at *
  generalize roW l d = W0 at *
  generalize roD d = D at *
  subst hdd
  have km := make_rows D (by omega)
  have Hr := Lib.hid hrd
  have hmx := hrd.1
  clear hT hk R hall hrd hw7
  subst hn
  subst hnw
  have HP0 := Hlt.out rs.length hWD
  go_enter Try.func32, Try.ntmps32
  go_wp2_with fail
  (with_reducible refine (CF.out _).mono ?_); rintro e w1 ⟨rfl, hb⟩
  have F := (below1 w _).trans (hb.mono (by simp))
  have G1 := G.below hb (by simp)
  have gs1 : w.heap.size < w1.heap.size := by have := hb.size; simp at this; omega
  obtain ⟨g1, g2, g3⟩ := G1
  clear hb
  go_wp2_with fail
  (with_reducible refine (CW.out _).mono ?_); rintro e w3 ⟨rfl, hb⟩
  have F2 := F.trans (hb.mono F.size)
  have G2 := GAt.below ⟨g1, g2, g3⟩ hb gs1
  have gs2 : w.heap.size < w3.heap.size := by have := hb.size; omega
  clear hb g1 g2 g3
  obtain ⟨g1, g2, g3⟩ := G2
  go_wp2_with fail
  have Q0 := (rq_new w3 D (by omega)).le (lo' := w.heap.size) (by omega)
  rw [← Hf0.out] at Q0
  have F3 := F2.trans ((below1 w3 (.cells (madeCells #[.slice none 0 0] D) 46)).mono F2.size)
  have G3 := GAt.below ⟨g1, g2, g3⟩ (below1 w3 (.cells (madeCells #[.slice none 0 0] D) 46)) gs2
  have hgg : w.heap.size < w3.heap.size := gs2
  generalize w3.heap.size = g at Q0 hgg
  generalize w3.alloc (.cells (madeCells #[.slice none 0 0] D) 46) = w4 at Q0 F3 G3
  clear g1 g2 g3 F F2
  go_loopw [29] (fun i wr => ∃ (k : Nat) (xs : List Value), k ≤ rs.length ∧ i = .int .i64 k ∧ Rq w.heap.size wr g D D xs (fillTo2 D F0 rs k) ∧ GAt wr w.heap.size l D c ∧ Below w.heap.size w wr) (fun i _ => rs.length - (intOf i).toNat)
  case atStart => exact ⟨0, _, Nat.zero_le _, rfl, Q0, G3, F3⟩
  case round =>
    obtain ⟨k, xs, hk, rfl, Q, G4, F4⟩ := hrel
    by_cases hlt : k < rs.length
    · obtain ⟨b, off, rfl, hbb, hc⟩ := Hr.out.2 (by omega)
      obtain ⟨A', c', h1, h2⟩ := hc k hlt
      rw [← F4.cell (p := ⟨b, off + k, none⟩) hbb] at h1
      have h2' := (h2.below F4 (Nat.le_refl _)).more F4.size
      have h32 := HA.out k hlt
      have Hs := Lib.hid (HS.out k (by omega))
      rw [HSd.out k hlt] at Hs
      have hj := Hlt.out k (by omega)
      have CD1 := Lib.hid (fun W => CD.out k W hlt)
      generalize rs.getD k [] = row at h1 h2' h32 Hs
      generalize roS D F0 k = j at hj CD1 Hs
      generalize fillTo2 D F0 rs k = ms at Q Hs
      rw [h32] at h1
      have i0 : (0 : Int) ≤ (k : Int) := by omega
      have i1 : (k : Int) < (rs.length : Int) := by omega
      have i2 : (0 : Int) ≤ (j : Int) := by omega
      have i3 : (j : Int) < (D : Int) := by omega
      have hglt := Q.glt.2
      clear hc h2 CP CW CF CSP CSQ CD HA HS HSd HSp HSq Hlt Hfl Hf0 Hfn Hq km e1 HP0 Q0 F3 G3
      obtain ⟨g1, g2, g3⟩ := G4
      have H32 := Lib.hid h32
      clear h32
      go_wp2_with fail
      (with_reducible refine (CD1.out _).mono ?_); rintro e w5 ⟨rfl, hb5⟩
      have hs5 := hb5.size
      have Hb5 := Lib.hid hb5
      have hr5 := ((h2'.below hb5 (Nat.le_refl _)).more hs5)
      clear hb5
      have Qn : ∀ w6, Below w5.heap.size w5 w6 → (∃ Ao m co, w6.cell? ⟨g, j, none⟩ = some (.slice Ao m co)) ∧ w6.frozen? ⟨g, j, none⟩ = false := fun w6 hb6 => by
        obtain ⟨Ao, co, _, h3, _⟩ := (Q.below (Hb5.out.trans (hb6.mono Hb5.out.size))).at j hj
        exact ⟨⟨Ao, _, co, h3⟩, (Q.below (Hb5.out.trans (hb6.mono Hb5.out.size))).fz j⟩
      go_wp2_with (
        at_builtin
        refine wpList_append_B _ rfl _ _ _ rfl w5.heap.size 5 Try.underlying46 info_u8 (.slice none 0 0) [] rfl (OwB.nil _ _ _) w5.heap.size A' 32 c' row rfl H32.out.symm hr5 (by rw [H32.out]; simp) (Nat.le_refl _) ?_
        intro v' w6 hown hg hat
        have hb6 : Below w5.heap.size w5 w6 := (Below.refl _ _).grown hg (Nat.le_refl _) (by simp [Value.ownBlock])
        rw [List.nil_append] at hown
        obtain ⟨⟨Ao, mo, co, h3⟩, hf3⟩ := Qn w6 hb6
        obtain ⟨A1, c1, rfl, _, _⟩ := hown.rd
        have Hown := Lib.hid hown
        have Hb6 := Lib.hid hb6
        clear hown hg hat hb6 Qn)
      have hb56 := Hb5.out.trans (Hb6.out.mono Hb5.out.size)
      obtain ⟨hset, hgr⟩ := Q.step hb56 j hj (Hown.out.le hs5)
      rw [Hs.out] at hset
      have G6 := ((GAt.below ⟨g1, g2, g3⟩ hb56 (by omega)).grown hgr (by have := hb56.size; omega) (by intro e; injection e with e; omega))
      have F6 := (F4.trans (hb56.mono F4.size)).setCell (p := ⟨g, j, none⟩) (by show w.heap.size ≤ g; omega) (.slice A1 row.length c1)
      go_roundw
      case rel => exact ⟨k + 1, _, by omega, by go_num, hset, G6, F6⟩
      case measure => simp [intOf]; omega
    · obtain rfl : k = rs.length := by omega
      have Hs := Lib.hid (HS.out rs.length hWD)
      rw [HSp.out] at Hs
      have Hqs := Lib.hid (fun h => HS.out (rs.length + 1) h)
      rw [HSq.out] at Hqs
      have hq1 := Lib.hid (fun h => Hlt.out (rs.length + 1) h)
      generalize roS D F0 rs.length = j at HP0 Hs CP
      generalize fillTo2 D F0 rs rs.length = ms at Q Hs
      have i2 : (0 : Int) ≤ (j : Int) := by omega
      have i3 : (j : Int) < (D : Int) := by omega
      have hglt := Q.glt.2
      clear CW CF CD HA HS HSd HSp HSq Hlt Hf0 km e1 Q0 F3 G3 hWD hFD
      obtain ⟨g1, g2, g3⟩ := G4
      go_wp2_with fail
      (with_reducible refine (CP.out _).mono ?_); rintro e w5' ⟨rfl, hb5'⟩
      have F4' := F4.trans (hb5'.mono F4.size)
      have Q' := Q.below hb5'
      have hglt' := Q'.glt.2
      clear hb5' Q F4 hglt CP g1 g2 g3
      go_wp2_with fail
      (with_reducible refine (CSP.out _ F4').mono ?_); rintro e w5 ⟨A1, c1, rfl, ho, hb5⟩
      have hs5 := hb5.size
      obtain ⟨Ao, co, _, h3, _⟩ := (Q'.below hb5).at j HP0
      have hf3 := (Q'.below hb5).fz j
      obtain ⟨hset, hgr⟩ := Q'.step hb5 j HP0 ho
      rw [Hs.out] at hset
      have F6 := (F4'.trans (hb5.mono F4'.size)).setCell (p := ⟨g, j, none⟩) (by show w.heap.size ≤ g; omega) (.slice A1 (pB rs).length c1)
      clear Q' Hs CSP F4'
      rcases Hq.out with ⟨rfl, hD⟩ | ⟨rfl, hD⟩
      · clear Hq Hqs hq1
        subst hD
        go_wp2
        go_ret2
        rw [Hfl.out] at Hfn ⊢
        exact ⟨g, _, by rw [Hfn.out]; rfl, by rw [Hfn.out]; exact hset, F6⟩
      · have Hs := Lib.hid (Hqs.out (by omega))
        have hj2 := hq1.out (by omega)
        clear Hq Hqs hq1
        generalize roS D F0 (rs.length + 1) = j2 at Hs hj2 ⊢
        generalize fillTo2 D F0 rs (rs.length + 1) = ms at hset Hs
        have i4 : (0 : Int) ≤ (j2 : Int) := by omega
        have i5 : (j2 : Int) < (D : Int) := by omega
        have n2 : decide ((j2 : Int) ≥ 0) = true := decide_eq_true (by omega)
        have HD := Lib.hid hD
        clear hD
        go_wp2_with fail
        generalize w5.setCell ⟨g, j, none⟩ (.slice A1 (pB rs).length c1) = w6 at hset F6 ⊢
        (with_reducible refine (CSQ.out _ F6).mono ?_); rintro e w7 ⟨A2, c2, rfl, ho7, hb7⟩
        obtain ⟨Ao2, co2, _, h4, _⟩ := (hset.below hb7).at j2 hj2
        have hf4 := (hset.below hb7).fz j2
        obtain ⟨hset2, hgr2⟩ := hset.step hb7 j2 hj2 ho7
        rw [Hs.out, show rs.length + 1 + 1 = D from HD.out.symm] at hset2
        have F8 := (F6.trans (hb7.mono F6.size)).setCell (p := ⟨g, j2, none⟩) (by show w.heap.size ≤ g; omega) (.slice A2 (qB rs).length c2)
        clear hset Hs
        go_wp2
        go_ret2
        rw [Hfl.out] at Hfn ⊢
        exact ⟨g, _, by rw [Hfn.out]; rfl, by rw [Hfn.out]; exact hset2, F8⟩
/-- Of sectors of a sector's bytes, as many as there may be. -/
theorem refFill_any (A : Option Addr) (rs : List (List UInt8)) (n cp : Nat) (l d c r : Int) (w : World) (hn : rs.length = n) (hn8 : n ≤ 1000000) (hrd : RdR w w.heap.size A rs) (h32 : ∀ x ∈ rs, x.length = 32)
    (hl : -9223372036854775808 ≤ l ∧ l ≤ 9223372036854775807) (hd : -9223372036854775808 ≤ d ∧ d ≤ 9223372036854775807) (hc : -9223372036854775808 ≤ c ∧ c ≤ 9223372036854775807) (hr : -9223372036854775808 ≤ r ∧ r ≤ 9223372036854775807) :
    Calls Try.prog 32 #[.agg #[.int .i64 l, .int .i64 d, .int .i64 c], .int .i64 r, .slice A n cp] w (FillR w (roFill l d c r rs)) := by
  by_cases h : fillOk l d c r rs = true
  · rw [roFill_yes h]
    exact refFill_yes A rs n cp l d c r w hn hrd h hl hd hc hr
  · rw [roFill_no h]
    cases hT : plOk l d c r
    · exact refFill_no1 A n cp l d c r w hT hl hd hc hr
    · by_cases h2 : n = roW l d
      · exact absurd (fillOk_mk hT (hn.trans h2) h32) h
      · exact refFill_no2 A n cp l d c r w hT h2 hn8 hl hd hc hr
end Go.Proofs.Ytadfimimkkimmaa
end
