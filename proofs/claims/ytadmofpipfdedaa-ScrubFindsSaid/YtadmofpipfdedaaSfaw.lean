/- Texts put together: StpSmall, StpRead, Kx, StpFld, StpStd. -/
import Derived.Test.YtadmofpipfdedaaSfar
import Derived.Test.YtadmofpipfdedaaSfau
import Derived.Test.YtadmofpipfdedaaSfad
import Derived.Test.YtadmofpipfdedaaSfan
import Derived.Test.YtadmofpipfdedaaSfam
section
set_option maxRecDepth 20000
set_option linter.unusedVariables false
set_option linter.unusedSimpArgs false
namespace Go.Proofs.Ytadmofpipfdedaa
open Go.RowKit

theorem stpLive_any (B b : Nat) (H : BH) (N : Bch) (w : World) (h : BAt w B b H N) (lv : List Bool) (A : Option Addr) (n c : Nat) (hn : n = lv.length) (hv : RdO w w.heap.size A lv) (j : Nat) (h1 : j ≤ 1000000) :
    Calls Try.prog 45 #[.pointer (some ⟨b, 0, none⟩), .slice A n c, .int .i64 (j : Int)] w fun e w' => e = .returned (.bool (livD N lv j)) ∧ w' = w := by
  rw [show livD N lv j = alvD N.n lv (j : Int) from (alvD_nat N.n lv j).symm]
  exact alvIs_any B b H N w h lv A n c hn hv j (by omega) (by omega)
theorem alvS_nat (N : Bch) (lv : List Bool) (j : Nat) : alvS N lv (j : Int) = srvD N lv j := by
  unfold alvS srvD livD; rw [alvD_nat, Int.toNat_natCast]
theorem stpServes_any (B b : Nat) (H : BH) (N : Bch) (w : World) (h : BAt w B b H N) (lv : List Bool) (A : Option Addr) (n c : Nat) (hn : n = lv.length) (hv : RdO w w.heap.size A lv) (j : Nat) (h1 : j ≤ 1000000) :
    Calls Try.prog 76 #[.pointer (some ⟨b, 0, none⟩), .slice A n c, .int .i64 (j : Int)] w fun e w' => e = .returned (.bool (srvD N lv j)) ∧ w' = w := by
  rw [← alvS_nat]
  exact alvServes_any B b H N w h lv A n c hn hv j (by omega) (by omega)
end Go.Proofs.Ytadmofpipfdedaa
end
section
set_option maxRecDepth 20000
set_option linter.unusedVariables false
set_option linter.unusedSimpArgs false
namespace Go.Proofs.Ytadmofpipfdedaa
open Go.RowKit

end Go.Proofs.Ytadmofpipfdedaa
end
section
set_option maxRecDepth 8000
set_option linter.unusedVariables false
set_option linter.unusedSimpArgs false
namespace Go.Proofs.Ytadmofpipfdedaa
open Go.RowKit

structure KX (W w : World) (b : Nat) (H : BH) (N : Bch) (K : List (Nat × Obj)) : Prop where
  bp : BP W w b H N
  kp : ∀ p ∈ K, w.heap[p.1]? = some p.2 ∧ ¬ BF b H N.n p.1 ∧ W.heap.size ≤ p.1
section
variable {W w w' : World} {b : Nat} {H : BH} {N : Bch} {K : List (Nat × Obj)}
theorem KX.below (h : KX W w b H N K) (hb : Below w.heap.size w w') : KX W w' b H N K :=
  ⟨h.bp.grow hb, fun p hp => ⟨(hb.block _ (Array.getElem?_eq_some_iff.1 (h.kp p hp).1).1).trans (h.kp p hp).1, (h.kp p hp).2⟩⟩
theorem KX.add (h : KX W w b H N K) (o : Obj) : KX W (w.alloc o) b H N ((w.heap.size, o) :: K) := by
  refine ⟨h.bp.alloc o, fun p hp => ?_⟩
  rcases List.mem_cons.1 hp with rfl | hp
  · exact ⟨heap_alloc_new _ _, (fun e => by have h9 : w.heap.size < w.heap.size := (h.bp.at'.flt e).2; omega), h.bp.bel.size⟩
  · exact (h.below (below1 w o)).kp p hp
theorem KX.box (h : KX W w b H N K) (o : Obj) {o' : Obj} (hg : (w.alloc o).grownBy w' (some w.heap.size)) (hb : w'.heap[w.heap.size]? = some o') : KX W w' b H N ((w.heap.size, o') :: K) := by
  have hB : Below w.heap.size w w' := (below1 w o).grown hg (by simp) (fun j e => by injection e with e; omega)
  refine ⟨h.bp.grow hB, fun p hp => ?_⟩
  rcases List.mem_cons.1 hp with rfl | hp
  · exact ⟨hb, (fun e => by have h9 : w.heap.size < w.heap.size := (h.bp.at'.flt e).2; omega), h.bp.bel.size⟩
  · exact (h.below hB).kp p hp
/-- A kept block is written. -/
theorem KX.put (h : KX W w b H N K) {p : Nat} {o o' : Obj} {K1 K2 : List (Nat × Obj)} (hK : K = K1 ++ (p, o) :: K2) (hg : w.grownBy w' (some p)) (hb : w'.heap[p]? = some o') (hne : ∀ r ∈ K1 ++ K2, r.1 ≠ p) : KX W w' b H N (K1 ++ (p, o') :: K2) := by
  subst hK
  have hp := h.kp (p, o) (by simp)
  have hch := chg_grown hg
  refine ⟨h.bp.chg hch (fun k e => by injection e with e; subst e; exact hp.2.2) (fun k hk e => by injection e with e; subst e; exact hp.2.1 hk), fun r hr => ?_⟩
  rcases List.mem_append.1 hr with h1 | h1
  · have h2 := h.kp r (by simp [h1])
    exact ⟨(hg.block _ (Array.getElem?_eq_some_iff.1 h2.1).1 (fun e => by injection e with e; exact hne r (by simp [h1]) e)).trans h2.1, h2.2⟩
  · rcases List.mem_cons.1 h1 with rfl | h1
    · exact ⟨hb, hp.2⟩
    · have h2 := h.kp r (by simp [h1])
      exact ⟨(hg.block _ (Array.getElem?_eq_some_iff.1 h2.1).1 (fun e => by injection e with e; exact hne r (by simp [h1]) e)).trans h2.1, h2.2⟩
end
theorem damage_n (N : Bch) (d k : Int) (x : List UInt8) : (N.damage d k x).n = N.n := by unfold Bch.damage; split <;> rfl
theorem fail_n (N : Bch) (d : Int) : (N.fail d).n = N.n := by unfold Bch.fail; split <;> rfl
section
variable {W w : World} {b : Nat} {H : BH} {N : Bch} {K : List (Nat × Obj)} (h : KX W w b H N K)
include h
end
end Go.Proofs.Ytadmofpipfdedaa
end
section
set_option linter.unusedVariables false
set_option linter.unusedSimpArgs false
namespace Go.Proofs.Ytadmofpipfdedaa

/-- A bench with power, without a limit, on which nothing is pending. -/
structure Gd (N : Bch) (m : Nat) : Prop where
  n : N.n = m
  dn : N.down = false
  lf : N.left = -1
  done : N.done = 0
  ps : ∀ i, i < m → (N.D i).ps = []
  ok : ∀ i, i < m → (N.D i).Ok
  f : ∀ i, i < m → (N.D i).f = false
theorem gd_new (m : Nat) : Gd (Bch.new m) m := ⟨rfl, rfl, rfl, rfl, fun _ _ => rfl, fun _ _ => Dsk.new_ok, fun _ _ => rfl⟩
theorem damage_do {N : Bch} {d k : Nat} {x : List UInt8} (hd : d < N.n) (hk : k < 52) (hx : x.length = 32) (hf : (N.D d).f = false) : N.damage (d : Int) (k : Int) x = N.set d ((N.D d).damage k x) := by
  unfold Bch.damage
  rw [if_neg (by rw [Bch.pickE_ok (by omega) (by omega)]; simp)]
  show N.set d ((N.D d).damageE (k : Int) x) = _
  unfold Dsk.damageE
  rw [if_pos (by rw [hx, hf]; exact takeE_ok (by omega) (by omega))]
  rfl
theorem gd_damage {N : Bch} {m d k : Nat} {x : List UInt8} (h : Gd N m) (hd : d < m) (hk : k < 52) (hx : x.length = 32) : Gd (N.damage (d : Int) (k : Int) x) m := by
  rw [damage_do (by rw [h.n]; exact hd) hk hx (h.f d hd)]
  refine ⟨h.n, h.dn, h.lf, h.done, fun i hi => ?_, fun i hi => ?_, fun i hi => ?_⟩ <;> show _
  · show (upd N.D d _ i).ps = []
    by_cases e : i = d
    · subst e; rw [upd_same]; show List.filter _ (N.D i).ps = []; rw [h.ps i hi]; rfl
    · rw [upd_other _ _ e]; exact h.ps i hi
  · show (upd N.D d _ i).Ok
    by_cases e : i = d
    · subst e; rw [upd_same]; exact (h.ok i hi).damage hk hx
    · rw [upd_other _ _ e]; exact h.ok i hi
  · show (upd N.D d _ i).f = false
    by_cases e : i = d
    · subst e; rw [upd_same]; exact h.f i hi
    · rw [upd_other _ _ e]; exact h.f i hi
theorem sec_damage {N : Bch} {m d k : Nat} {x : List UInt8} (h : Gd N m) (hd : d < m) (hk : k < 52) (hx : x.length = 32) (i j : Nat) : secAt ((N.damage (d : Int) (k : Int) x).D i).now j = if i = d ∧ j = k then x else secAt (N.D i).now j := by
  rw [damage_do (by rw [h.n]; exact hd) hk hx (h.f d hd)]
  show secAt (upd N.D d _ i).now j = _
  by_cases e : i = d
  · subst e
    rw [upd_same, Dsk.damage_now (h.ok i hd) hk hx]
    by_cases e2 : j = k
    · subst e2; rw [if_pos ⟨rfl, rfl⟩]; exact sec_put_same (h.ok i hd).now hk hx
    · rw [if_neg (fun q => e2 q.2)]; exact sec_put_other (h.ok i hd).now hk hx e2
  · rw [upd_other _ _ e, if_neg (fun q => e q.1)]
end Go.Proofs.Ytadmofpipfdedaa
end
section
set_option linter.unusedVariables false
set_option linter.unusedSimpArgs false
namespace Go.Proofs.Ytadmofpipfdedaa

theorem fail_D {N : Bch} {d : Nat} (hd : d < N.n) (i : Nat) : (N.fail (d : Int)).D i = if i = d then Dsk.failed else N.D i := by
  unfold Bch.fail
  rw [if_neg (by rw [Bch.pickE_ok (by omega) (by omega)]; simp)]
  show upd N.D ((d : Int)).toNat Dsk.failed i = _
  rw [show ((d : Int)).toNat = d by omega]
  by_cases e : i = d
  · subst e; rw [upd_same, if_pos rfl]
  · rw [upd_other _ _ e, if_neg e]
theorem fail_up {N : Bch} {d : Int} : (N.fail d).down = N.down := by unfold Bch.fail; split <;> rfl
theorem fail_is {N : Bch} {d : Int} : (N.fail d).n = N.n := by unfold Bch.fail; split <;> rfl
section
variable {N : Bch} {m D F W : Nat} {fl : Nat → List (List UInt8)} {n l c : Int} {t : Nat} {lv : List Bool} {rs : List (List UInt8)}
end
end Go.Proofs.Ytadmofpipfdedaa
end
