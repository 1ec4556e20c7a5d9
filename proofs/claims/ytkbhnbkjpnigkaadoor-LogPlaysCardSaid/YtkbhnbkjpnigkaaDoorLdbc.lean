/- Texts put together: LogKeep, LogKr. -/
import Derived.Test.YtkbhnbkjpnigkaaDoorLdaz
import Derived.Test.YtkbhnbkjpnigkaaDoorLdba
import Derived.Test.YtkbhnbkjpnigkaaDoorLdbb
section
set_option maxRecDepth 8000
set_option linter.unusedVariables false
set_option linter.unusedSimpArgs false
namespace Go.Proofs.YtkbhnbkjpnigkaaDoor
open Go.RowKit

theorem its64_ok {s : Int} {l : List It} (h : recOk s l = true) : Its64 l := fun k hk => by
  have := recOk_may h _ (itN_mem hk)
  exact ⟨by omega, by omega⟩
theorem s64_ok {s : Int} {l : List It} (h : recOk s l = true) : (-9223372036854775808 ≤ s ∧ s ≤ 9223372036854775807) := by
  have := ((recOk_iff s l).1 h).1; omega
theorem GoodB.len {N : Bch} (h : GoodB N) : ∀ i, i < N.n → (N.D i).ps.length ≤ 1000000 := fun i hi => by rw [h.ps i hi]; exact Nat.zero_le _
section
variable {W w : World} {b : Nat} {H : BH} {N : Bch} {K : List (Nat × Obj)} (h : KX W w b H N K)
include h
theorem KX.rdo {g : Nat} {cs : Array Value} {t : TypeId} {f : Nat × Nat} {lv : List Bool} (hm : (g, Obj.cells cs t f) ∈ K) (hcs : cs = (lv.map Value.bool).toArray) (hl : lv.length ≤ 1000000) : RdO w w.heap.size (some ⟨g, 0, none⟩) lv := rdo_row (h.kp _ hm).1 hcs hl
theorem KX.n8 : N.n ≤ 8 := h.bp.at'.ok.n.2
theorem kx_put (ht : TabOk W) (hg : GoodB N) (hdn : N.done ≤ 1000000) (lv : List Bool) (LA : Option Addr) (ln lc : Nat) (hln : ln = lv.length) (hlv : RdO w w.heap.size LA lv)
    (s : Int) (l : List It) (A : Option Addr) (n c : Nat) (hn : n = l.length) (hnc : n ≤ c) (hrd : RdI w w.heap.size A l) (hk : recOk s l = true) :
    Calls Tryd.prog 12 #[.pointer (some ⟨b, 0, none⟩), .slice LA ln lc, .agg #[.int .i64 s, .slice A n c]] w fun e w' => e = .returned (.int .i64 0) ∧ ∃ H' M, KX W w' b H' M K ∧ PtG N M lv s l := by
  obtain ⟨h0, g⟩ := put_good (lv := lv) hg h.n8 hk
  refine (put_any W w b H N h.bp ht lv LA ln lc hln hlv s l A n c hn hnc hrd (its64_ok hk) (s64_ok hk) hg.len hdn).mono ?_
  rintro e w' ⟨rfl, hc⟩
  rw [h0]
  obtain ⟨H', k⟩ := h.bc hc (put_n _ _ _ _)
  exact ⟨rfl, H', _, k, g⟩
theorem kx_get (ht : TabOk W) (lv : List Bool) (LA : Option Addr) (ln lc : Nat) (hln : ln = lv.length) (hlv : RdO w w.heap.size LA lv) (s : Int) (l : List It) (hgs : getS N lv = (s, l)) :
    Calls Tryd.prog 13 #[.pointer (some ⟨b, 0, none⟩), .slice LA ln lc] w fun e w' => ∃ A c, e = .returned (.tuple #[.agg #[.int .i64 s, .slice A l.length c], .bool (decide (0 < s))]) ∧ l.length ≤ c ∧ OwIt 43 w' w.heap.size w.heap.size (.slice A l.length c) l ∧ KX W w' b H N K ∧ Below w.heap.size w w' := by
  refine (get_any _ b H N w h.bp.at' (ht.below h.bp.bel ht.pos) lv LA ln lc hln hlv).mono ?_
  rintro e w' ⟨v, rfl, ho, hb⟩
  rw [hgs] at ho ⊢
  obtain ⟨A, c, rfl, hc, _⟩ := ho.rd
  exact ⟨A, c, rfl, hc, ho, h.below hb, hb⟩
end
set_option maxHeartbeats 1000000 in
theorem wakesLg_any (W : World) (ht : TabOk W) : Calls Tryd.prog 11 #[] W fun e w' => e = .returned (.bool true) ∧ Below W.heap.size W w' := by
  have hpn := ptr_eq
  have CN := Lib.hid (bp_new 3 W W (Below.refl _ _) (by omega))
  have Ht := Lib.hid ht
  clear ht
  go_enter Tryd.func11, Tryd.ntmps11
  go_wp2_with fail
  refine CN.out.mono ?_
  rintro e w ⟨b, H, rfl, hp, _, _⟩
  unfold ptr
  have K1 : Hid (KX W w b H (Bch.new 3) []) := ⟨hp, fun p hp => by cases hp⟩
  have K2 := Lib.hid (K1.out.add (.cells #[.bool true, .bool true, .bool true] 4 (0, 0)))
  have R2 := Lib.hid (K2.out.rdo (List.mem_cons_self ..) (lv := [true, true, true]) rfl (by decide))
  clear hp CN
  go_wp2_with (go_at_call 13; refine (kx_get K2.out Ht.out [true, true, true] (some ⟨w.heap.size, 0, none⟩) 3 3 rfl R2.out 0 [] (getS_new 3 _ (by omega))).mono ?_; rintro e w1 ⟨A, c, rfl, _, _, k3, _⟩; have K3 := Lib.hid k3; clear k3)
  have K4 := Lib.hid ((K3.out.below (below1 w1 (.cells #[.int .i64 0, .slice A 0 c] 29 (0, 0)))).add (.cells #[.bool true] 4 (0, 0)))
  rw [show (w1.alloc (.cells #[.int .i64 0, .slice A 0 c] 29 (0, 0))).heap.size = w1.heap.size + 1 by simp] at K4
  have R4 := Lib.hid (K4.out.rdo (List.mem_cons_self ..) (lv := [true]) rfl (by decide))
  go_wp2_with (go_at_call 12; refine (kx_put K4.out Ht.out (goodB_new 3) (by show (0 : Nat) ≤ _; omega) [true] (some ⟨w1.heap.size + 1, 0, none⟩) 1 1 rfl R4.out 1 [] none 0 0 rfl (Nat.le_refl _) (RdI.nil _ _ _) (by decide)).mono ?_; rintro e w2 ⟨rfl, H5, M5, k5, _⟩; have K5 := Lib.hid k5; clear k5)
  go_ret
  exact ⟨rfl, K5.out.bp.bel⟩
end Go.Proofs.YtkbhnbkjpnigkaaDoor
end
section
set_option maxRecDepth 8000
set_option linter.unusedVariables false
set_option linter.unusedSimpArgs false
namespace Go.Proofs.YtkbhnbkjpnigkaaDoor
open Go.RowKit

/-- A bench, blocks and Items that no call on it touches; the Items lie not where X says. -/
structure KR (W w : World) (b : Nat) (H : BH) (N : Bch) (K : List (Nat × Obj)) (R : List (Option Addr × List It)) (X : Nat → Prop) : Prop where
  kx : KX W w b H N K
  it : ∀ p ∈ R, RdIF w (fun k => BF b H N.n k ∨ X k) p.1 p.2
section
variable {W w w' : World} {b : Nat} {H : BH} {N : Bch} {K : List (Nat × Obj)} {R : List (Option Addr × List It)} {X : Nat → Prop}
theorem KX.kr (h : KX W w b H N K) (X : Nat → Prop) : KR W w b H N K [] X := ⟨h, fun _ hp => by cases hp⟩
theorem KR.below (h : KR W w b H N K R X) (hb : Below w.heap.size w w') : KR W w' b H N K R X := ⟨h.kx.below hb, fun p hp => (h.it p hp).below hb⟩
theorem KR.add (h : KR W w b H N K R X) (o : Obj) : KR W (w.alloc o) b H N ((w.heap.size, o) :: K) R X := ⟨h.kx.add o, fun p hp => (h.it p hp).below (below1 w o)⟩
theorem KR.bc (h : KR W w b H N K R X) {N' : Bch} (hc : BC W w w' b H N.n N') (hn : N'.n = N.n) : ∃ H', KR W w' b H' N' K R X := by
  obtain ⟨H', a, c, m⟩ := hc
  have hx : KX W w' b H' N' K := by
    refine ⟨a, fun p hp => ?_⟩
    obtain ⟨h1, h2, h3⟩ := h.kx.kp p hp
    have hl := (Array.getElem?_eq_some_iff.1 h1).1
    exact ⟨(c.block _ hl h2).trans h1, by rw [hn]; exact BC.off m hl h2, h3⟩
  refine ⟨H', hx, fun p hp => ?_⟩
  rw [hn]
  have h0 : RdIF w (fun k => BF b H' N.n k ∨ X k) p.1 p.2 := (h.it p hp).off fun k hk e => e.imp (fun e => (m k e).elim id fun q => absurd q (by omega)) id
  have h1 : RdIF w (fun k => BF b H' N.n k ∨ X k ∨ BF b H N.n k) p.1 p.2 := (h.it p hp).off fun k hk e => by
    rcases e with e | e | e
    · exact .inl ((m k e).elim id fun q => absurd q (by omega))
    · exact .inr e
    · exact .inl e
  have h2 := h1.chg c fun k hk e => .inr (.inr e)
  exact h2.off fun k hk e => e.imp id .inl
theorem KR.own (h : KR W w b H N K R X) (hX : ∀ k, X k → k < w.heap.size) (hb : Below w.heap.size w w') {e : TypeId} {A : Option Addr} {l : List It} {c : Nat} (ho : OwIt e w' w.heap.size w.heap.size (.slice A l.length c) l) : KR W w' b H N K ((A, l) :: R) X := by
  refine ⟨h.kx.below hb, fun p hp => ?_⟩
  rcases List.mem_cons.1 hp with rfl | hp
  · have hF : ∀ k, w.heap.size ≤ k → ¬ (BF b H N.n k ∨ X k) := fun k hk e => by
      rcases e with e | e
      · have := (h.kx.bp.at'.flt e).2; omega
      · have := hX k e; omega
    obtain ⟨A', c', e', _, hr⟩ := ho.rdF (F := fun k => BF b H N.n k ∨ X k) hF hF
    injection e' with e1 _ _
    rw [e1]; exact hr
  · exact (h.it p hp).below hb
theorem KR.sub (h : KR W w b H N K R X) {K' : List (Nat × Obj)} {R' : List (Option Addr × List It)} (hK : ∀ p ∈ K', p ∈ K) (hR : ∀ p ∈ R', p ∈ R) : KR W w b H N K' R' X := ⟨⟨h.kx.bp, fun p hp => h.kx.kp p (hK p hp)⟩, fun p hp => h.it p (hR p hp)⟩
section
variable (h : KR W w b H N K R X)
include h
end
end
/-- A disk that has failed has no Record; the others are as they were. -/
structure FlS (N M : Bch) (d : Nat) : Prop where
  n : M.n = N.n
  good : GoodB M
  done : M.done = N.done
  at' : (M.D d).f = true
  f : ∀ j, j ≠ d → (M.D j).f = (N.D j).f
  has : ∀ j, j ≠ d → onS M j = onS N j ∧ onL M j = onL N j
theorem fail_good {N : Bch} {d : Nat} (hg : GoodB N) (hd : d < N.n) : FlS N (N.fail (d : Int)) d := by
  have e : N.fail (d : Int) = N.set d Dsk.failed := by unfold Bch.fail; rw [if_neg (by simp [Bch.pickE_ok (N := N) (d := (d : Int)) (by omega) (by omega)])]; rfl
  rw [e]
  have hj : ∀ j, j ≠ d → (N.set d Dsk.failed).D j = N.D j := fun j h => upd_other _ _ h
  have hdd : (N.set d Dsk.failed).D d = Dsk.failed := upd_same _ _ _
  refine ⟨rfl, ⟨hg.dn, hg.lf, fun j h => ?_, fun j h => ?_⟩, rfl, by rw [hdd]; rfl, fun j h => by rw [hj j h], fun j h => ?_⟩
  · by_cases q : j = d
    · subst q; rw [hdd]; exact Dsk.failed_ok
    · rw [hj j q]; exact hg.ok j h
  · by_cases q : j = d
    · subst q; rw [hdd]; rfl
    · rw [hj j q]; exact hg.ps j h
  · exact onS_alike hg.dn hg.dn (by rw [hj j h]) (by rw [hj j h])
end Go.Proofs.YtkbhnbkjpnigkaaDoor
end
