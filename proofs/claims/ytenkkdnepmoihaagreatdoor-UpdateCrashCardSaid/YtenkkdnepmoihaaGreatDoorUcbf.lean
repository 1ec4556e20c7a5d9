/- Texts put together: Kx. -/
import Derived.Test.YtenkkdnepmoihaaGreatDoorUcbb
section
set_option maxRecDepth 8000
set_option linter.unusedVariables false
set_option linter.unusedSimpArgs false
namespace Go.Proofs.YtenkkdnepmoihaaGreatDoor
open Go.RowKit
structure KX (W w:World) (b:Nat) (H:BH) (N:Bch) (K:List (Nat × Obj)):Prop where
 bp:BP W w b H N
 kp:∀ p ∈ K,w.heap[p.1]?=some p.2∧¬ BF b H N.n p.1∧W.heap.size ≤ p.1
section
variable {W w w':World} {b:Nat} {H:BH} {N:Bch} {K:List (Nat × Obj)}
theorem KX.below (h:KX W w b H N K) (hb:Below w.heap.size w w'):KX W w' b H N K :=
 ⟨h.bp.grow hb,fun p hp=>⟨(hb.block _ (Array.getElem?_eq_some_iff.1 (h.kp p hp).1).1).trans (h.kp p hp).1,(h.kp p hp).2⟩⟩
theorem KX.add (h:KX W w b H N K) (o:Obj):KX W (w.alloc o) b H N ((w.heap.size,o)::K):=by
 refine ⟨h.bp.alloc o,fun p hp=>?_⟩
 rcases List.mem_cons.1 hp with rfl | hp
 ·exact ⟨heap_alloc_new _ _,(fun e=>by have h9:w.heap.size < w.heap.size:=(h.bp.at'.flt e).2;omega),h.bp.bel.size⟩
 ·exact (h.below (below1 w o)).kp p hp
theorem KX.put (h:KX W w b H N K) {p:Nat} {o o':Obj} {K1 K2:List (Nat × Obj)} (hK:K=K1 ++ (p,o)::K2) (hg:w.grownBy w' (some p)) (hb:w'.heap[p]?=some o') (hne:∀ r ∈ K1 ++ K2,r.1 ≠ p):KX W w' b H N (K1 ++ (p,o')::K2):=by
 subst hK
 have hp:=h.kp (p,o) (by simp)
 have hch:=chg_grown hg
 refine ⟨h.bp.chg hch (fun k e=>by injection e with e;subst e;exact hp.2.2) (fun k hk e=>by injection e with e;subst e;exact hp.2.1 hk),fun r hr=>?_⟩
 rcases List.mem_append.1 hr with h1 | h1
 ·have h2:=h.kp r (by simp [h1])
  exact ⟨(hg.block _ (Array.getElem?_eq_some_iff.1 h2.1).1 (fun e=>by injection e with e;exact hne r (by simp [h1]) e)).trans h2.1,h2.2⟩
 ·rcases List.mem_cons.1 h1 with rfl | h1
  ·exact ⟨hb,hp.2⟩
  ·have h2:=h.kp r (by simp [h1])
   exact ⟨(hg.block _ (Array.getElem?_eq_some_iff.1 h2.1).1 (fun e=>by injection e with e;exact hne r (by simp [h1]) e)).trans h2.1,h2.2⟩
end
theorem damage_n (N:Bch) (d k:Int) (x:List UInt8):(N.damage d k x).n=N.n:=by unfold Bch.damage;split <;> rfl
theorem fail_n (N:Bch) (d:Int):(N.fail d).n=N.n:=by unfold Bch.fail;split <;> rfl
theorem limit_n (N:Bch) (v:Int):(N.limit v).n=N.n:=by unfold Bch.limit;split <;> rfl
section
variable {W w:World} {b:Nat} {H:BH} {N:Bch} {K:List (Nat × Obj)} (h:KX W w b H N K)
include h
end
end Go.Proofs.YtenkkdnepmoihaaGreatDoor
end
