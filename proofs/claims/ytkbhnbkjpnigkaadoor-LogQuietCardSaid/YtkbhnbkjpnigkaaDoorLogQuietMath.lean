/- What LogQuiet looks at: sectors laid by number, what a record makes of them; Items of one's own beside a bench. -/
import Derived.Test.YtkbhnbkjpnigkaaDoorLcba
import Derived.Test.YtkbhnbkjpnigkaaDoorPlayLive
import Derived.Test.YtkbhnbkjpnigkaaDoorLcak
import Derived.Test.YtkbhnbkjpnigkaaDoorLcal
import Derived.Test.YtkbhnbkjpnigkaaDoorLcaj
set_option maxRecDepth 8000
set_option linter.unusedVariables false
set_option linter.unusedSimpArgs false
namespace Go.Proofs.YtkbhnbkjpnigkaaDoor
open Go.RowKit

def nOf (back : List Int) (i : Nat) : Int := if i < back.length then back.getD i 0 else (i : Int)
theorem nOf_in {back : List Int} {i : Nat} (h : i < back.length) : nOf back i = back.getD i 0 := if_pos h
theorem nOf_out {back : List Int} {i : Nat} (h : ¬ i < back.length) : nOf back i = (i : Int) := if_neg h
structure DmG (N : Bch) (back : List Int) (i : Nat) : Prop where
  n : N.n = 4
  good : GoodB N
  f : ∀ j, j < 4 → (N.D j).f = false
  done : N.done = 0
  sec : ∀ k, k < i → secAt (N.D (k % 4)).now (36 + k / 4) = sectorB (nOf back k)
theorem dm_new (back : List Int) : DmG (Bch.new 4) back 0 := ⟨rfl, goodB_new 4, fun _ _ => rfl, rfl, fun k hk => by omega⟩
theorem dm_step {N : Bch} {back : List Int} {i : Nat} (h : DmG N back i) (hi : i < 64) : DmG (N.damage ((i % 4 : Nat) : Int) ((36 + i / 4 : Nat) : Int) (sectorB (nOf back i))) back (i + 1) := by
  have hd : i % 4 < 4 := Nat.mod_lt _ (by omega)
  have hl := sectorB_len (nOf back i)
  have hp : N.pickE ((i % 4 : Nat) : Int) = 0 := Bch.pickE_ok (by omega) (by rw [h.n]; omega)
  have ht : takeE (N.D (i % 4)).f ((36 + i / 4 : Nat) : Int) (sectorB (nOf back i)).length = 0 := by rw [h.f _ hd, hl]; exact takeE_ok (by omega) (by omega)
  have e : N.damage ((i % 4 : Nat) : Int) ((36 + i / 4 : Nat) : Int) (sectorB (nOf back i)) = N.set (i % 4) ((N.D (i % 4)).damage (36 + i / 4) (sectorB (nOf back i))) := by
    unfold Bch.damage; rw [if_neg (fun q => q hp)]
    show N.set (i % 4) ((N.D (i % 4)).damageE _ _) = _
    unfold Dsk.damageE
    rw [if_pos ht]; rfl
  rw [e]
  have hj : ∀ j, j ≠ i % 4 → (N.set (i % 4) ((N.D (i % 4)).damage (36 + i / 4) (sectorB (nOf back i)))).D j = N.D j := fun j hj => upd_other _ _ hj
  have hdd : (N.set (i % 4) ((N.D (i % 4)).damage (36 + i / 4) (sectorB (nOf back i)))).D (i % 4) = (N.D (i % 4)).damage (36 + i / 4) (sectorB (nOf back i)) := upd_same _ _ _
  have hok := h.good.ok (i % 4) (by rw [h.n]; exact hd)
  refine ⟨h.n, ⟨h.good.dn, h.good.lf, fun j hjn => ?_, fun j hjn => ?_⟩, fun j hj4 => ?_, h.done, fun k hk => ?_⟩
  · by_cases q : j = i % 4
    · subst q; rw [hdd]; exact hok.damage (by omega) hl
    · rw [hj j q]; exact h.good.ok j hjn
  · by_cases q : j = i % 4
    · subst q; rw [hdd]; show List.filter _ (N.D (i % 4)).ps = []; rw [h.good.ps (i % 4) (by rw [h.n]; exact hd)]; rfl
    · rw [hj j q]; exact h.good.ps j hjn
  · by_cases q : j = i % 4
    · subst q; rw [hdd]; exact h.f _ hd
    · rw [hj j q]; exact h.f j hj4
  · by_cases q : k % 4 = i % 4
    · rw [q, hdd, Dsk.damage_now hok (by omega) hl]
      by_cases q2 : k / 4 = i / 4
      · have hki : k = i := by omega
        subst hki
        exact sec_put_same hok.now (by omega) hl
      · rw [sec_put_other hok.now (by omega) hl (by omega), ← q]
        exact h.sec k (by omega)
    · rw [hj _ q]; exact h.sec k (by omega)
/-- What stands at a place when the first m of these are done that are live. -/
def wnt (l : List It) (lv : List Bool) (j k : Nat) (s : List UInt8) (m : Nat) : List UInt8 := lastI ((l.take m).filter (liveI 4 lv)) j k s
theorem wnt_zero (l : List It) (lv : List Bool) (j k : Nat) (s : List UInt8) : wnt l lv j k s 0 = s := by unfold wnt; rw [List.take_zero]; rfl
theorem wnt_all (l : List It) (lv : List Bool) (j k : Nat) (s : List UInt8) : wnt l lv j k s l.length = lastI (l.filter (liveI 4 lv)) j k s := by unfold wnt; rw [List.take_length]
theorem live4 (lv : List Bool) {j : Nat} (hj : j < 4) : liveD 4 lv (j : Int) = lv.getD j false := by
  unfold liveD; rw [decide_eq_true (show (j : Int) < ((4 : Nat) : Int) by omega)]; rfl
theorem wnt_yes {l : List It} {lv : List Bool} {j k m : Nat} {s : List UInt8} (hm : m < l.length) (hj : j < 4) (h1 : (itN l m).d = (j : Int)) (h2 : (itN l m).a = (k : Int)) (h3 : lv.getD j false = true) : wnt l lv j k s (m + 1) = (itN l m).b := by
  have hf : liveI 4 lv (itN l m) = true := by unfold liveI; rw [h1, live4 lv hj]; exact h3
  unfold wnt
  rw [its_take hm, List.filter_append, List.filter_cons_of_pos hf, List.filter_nil, lastI_snoc, if_pos ⟨h1, h2⟩]
theorem wnt_no {l : List It} {lv : List Bool} {j k m : Nat} {s : List UInt8} (hm : m < l.length) (hj : j < 4) (h : ¬ ((itN l m).d = (j : Int) ∧ (itN l m).a = (k : Int) ∧ lv.getD j false = true)) : wnt l lv j k s (m + 1) = wnt l lv j k s m := by
  unfold wnt
  rw [its_take hm, List.filter_append]
  by_cases hf : liveI 4 lv (itN l m) = true
  · rw [List.filter_cons_of_pos hf, List.filter_nil, lastI_snoc, if_neg]
    rintro ⟨h1, h2⟩
    refine h ⟨h1, h2, ?_⟩
    unfold liveI at hf; rw [h1, live4 lv hj] at hf; exact hf
  · rw [List.filter_cons_of_neg hf, List.filter_nil, List.append_nil]
theorem wnt_len {l : List It} {lv : List Bool} {j k : Nat} {s : List UInt8} (hl : ∀ x ∈ l, x.b.length = 32) (hs : s.length = 32) (m : Nat) : (wnt l lv j k s m).length = 32 := by
  unfold wnt
  have : ∀ (q : List It) (s : List UInt8), (∀ x ∈ q, x.b.length = 32) → s.length = 32 → (lastI q j k s).length = 32 := fun q => by
    induction q with
    | nil => intro s _ h; exact h
    | cons x q ih =>
      intro s h1 h2
      show (lastI q j k (if x.d = (j : Int) ∧ x.a = (k : Int) then x.b else s)).length = 32
      refine ih _ (fun y hy => h1 y (List.mem_cons_of_mem _ hy)) ?_
      split
      · exact h1 x (List.mem_cons_self ..)
      · exact h2
  exact this _ _ (fun x hx => hl x (List.mem_of_mem_take (List.mem_filter.1 hx).1)) hs
section
variable {W w w' : World} {b : Nat} {H : BH} {N : Bch} {K : List (Nat × Obj)} {R : List (Option Addr × List It)} {X : Nat → Prop}
/-- A block of one's own is written, that is none of the bench's, nor kept. -/
theorem KR.far {g : Nat} (h : KR W w b H N K [] X) (hg : w.grownBy w' (some g)) (hW : W.heap.size ≤ g) (hb : ¬ BF b H N.n g) (hK : ∀ p ∈ K, p.1 ≠ g) : KR W w' b H N K [] X := by
  have hch := chg_grown hg
  refine KX.kr ⟨h.kx.bp.chg hch (fun k e => by injection e with e; subst e; exact hW) (fun k hk e => by injection e with e; subst e; exact hb hk), fun p hp => ?_⟩ X
  obtain ⟨h1, h2, h3⟩ := h.kx.kp p hp
  exact ⟨(hg.block _ (Array.getElem?_eq_some_iff.1 h1).1 (fun e => by injection e with e; exact hK p hp e)).trans h1, h2, h3⟩
theorem KR.took (h : KR W w b H N K R X) {e : TypeId} {A : Option Addr} {l : List It} {B n c : Nat} (ho : OwIt e w B B (.slice A n c) l) (hn : l.length = n) (hoff : ∀ k, B ≤ k → ¬ (BF b H N.n k ∨ X k)) : KR W w b H N K ((A, l) :: R) X := by
  subst hn
  refine ⟨h.kx, fun p hp => ?_⟩
  rcases List.mem_cons.1 hp with rfl | hp
  · obtain ⟨A', c', e', _, hr⟩ := ho.rdF (F := fun k => BF b H N.n k ∨ X k) hoff hoff
    injection e' with e1 _ _
    rw [e1]; exact hr
  · exact h.it p hp
theorem kr_damage (h : KR W w b H N K R X) (d k : Int) (x : List UInt8) (A : Option Addr) (n c : Nat) (hn : n = x.length) (hd : i64B d) (hk : i64B k) (hr : RdB w w.heap.size A x) (hg : GoodB N) :
    Calls Tryd.prog 17 #[.pointer (some ⟨b, 0, none⟩), .int .i64 d, .int .i64 k, .slice A n c] w fun e w' => e = .returned (.int .i64 (N.damageE d k n)) ∧ ∃ H', KR W w' b H' (N.damage d k x) K R X := by
  refine (bch_damage_any _ b H N w h.kx.bp.at' d k x A n c hn hd hk hr (fun i hi => Nat.le_trans (hg.len i hi) (by omega))).mono ?_
  rintro e w' ⟨rfl, ht⟩
  exact ⟨rfl, h.bc (h.kx.bp.to ht) (damage_n _ _ _ _)⟩
theorem KR.box2 (h : KR W w b H N K R X) {p : Nat} {u v : Value} {t : TypeId} {f : Nat × Nat} (hm : (p, Obj.cells #[u, v] t f) ∈ K) : w.cell? ⟨p, 0, none⟩ = some u ∧ w.cell? ⟨p, 1, none⟩ = some v :=
  ⟨cell_of_row _ _ 0 _ _ _ (h.kx.kp _ hm).1, cell_of_row _ _ 1 _ _ _ (h.kx.kp _ hm).1⟩
end
theorem pend_good {N : Bch} (h : GoodB N) : N.pend = 0 := offs_zero h.ps
end Go.Proofs.YtkbhnbkjpnigkaaDoor
