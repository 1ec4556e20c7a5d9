/- Texts put together: LogQuietMath, LogPlaysMath. -/
import Derived.Test.YtkbhnbkjpnigkaaDoorLdbc
import Derived.Test.YtkbhnbkjpnigkaaDoorLdaz
import Derived.Test.YtkbhnbkjpnigkaaDoorLdak
import Derived.Test.YtkbhnbkjpnigkaaDoorLdal
import Derived.Test.YtkbhnbkjpnigkaaDoorLdaj
import Derived.Test.YtkbhnbkjpnigkaaDoorLdan
import Derived.Test.YtkbhnbkjpnigkaaDoorLdar
section
set_option maxRecDepth 8000
set_option linter.unusedVariables false
set_option linter.unusedSimpArgs false
namespace Go.Proofs.YtkbhnbkjpnigkaaDoor
open Go.RowKit

theorem live4 (lv : List Bool) {j : Nat} (hj : j < 4) : liveD 4 lv (j : Int) = lv.getD j false := by
  unfold liveD; rw [decide_eq_true (show (j : Int) < ((4 : Nat) : Int) by omega)]; rfl
section
variable {W w w' : World} {b : Nat} {H : BH} {N : Bch} {K : List (Nat × Obj)} {R : List (Option Addr × List It)} {X : Nat → Prop}
end
theorem pend_good {N : Bch} (h : GoodB N) : N.pend = 0 := offs_zero h.ps
end Go.Proofs.YtkbhnbkjpnigkaaDoor
end
section
set_option maxRecDepth 8000
set_option linter.unusedVariables false
set_option linter.unusedSimpArgs false
namespace Go.Proofs.YtkbhnbkjpnigkaaDoor
open Go.RowKit

def hrow (S : Nat → Int) (A : Nat → Option Addr) (L : Nat → List It) (c : Nat → Nat) : List Value :=
  [.int .i64 (S 0), .slice (A 0) (L 0).length (c 0), .int .i64 (S 1), .slice (A 1) (L 1).length (c 1), .int .i64 (S 2), .slice (A 2) (L 2).length (c 2), .int .i64 (S 3), .slice (A 3) (L 3).length (c 3)]
theorem lt4 {k : Nat} (h : k < 4) : k = 0 ∨ k = 1 ∨ k = 2 ∨ k = 3 := by omega
section
variable (S : Nat → Int) (A : Nat → Option Addr) (L : Nat → List It) (c : Nat → Nat)
theorem hrow_len : (hrow S A L c).length = 8 := rfl
theorem hrow_set {k : Nat} (hk : k < 4) (s : Int) (A' : Option Addr) (l : List It) (c' : Nat) : spl (hrow S A L c) (k * 2) [.int .i64 s, .slice A' l.length c'] = hrow (upd S k s) (upd A k A') (upd L k l) (upd c k c') := by
  rcases lt4 hk with rfl | rfl | rfl | rfl <;> rfl
theorem hrow_set0 {k : Nat} (hk : k < 4) (s : Int) : spl (hrow S A L c) (k * 2) [.int .i64 s] = hrow (upd S k s) A L c := by
  rcases lt4 hk with rfl | rfl | rfl | rfl <;> rfl
theorem hrow_set1 {k : Nat} (hk : k < 4) (A' : Option Addr) (l : List It) (c' : Nat) : spl (hrow S A L c) (k * 2 + 1) [.slice A' l.length c'] = hrow S (upd A k A') (upd L k l) (upd c k c') := by
  rcases lt4 hk with rfl | rfl | rfl | rfl <;> rfl
theorem hrow_get1 {k : Nat} (hk : k < 4) : (hrow S A L c)[k * 2 + 1]? = some (.slice (A k) (L k).length (c k)) := by
  rcases lt4 hk with rfl | rfl | rfl | rfl <;> rfl
end
def hR (A : Nat → Option Addr) (L : Nat → List It) : List (Option Addr × List It) := (List.range 4).map fun j => (A j, L j)
/-- The bench, the block hv that says what each disk has, and what else is kept. -/
structure HvS (W w : World) (b : Nat) (H : BH) (N : Bch) (hv : Nat) (S : Nat → Int) (A : Nat → Option Addr) (L : Nat → List It) (c : Nat → Nat) (K : List (Nat × Obj)) (R : List (Option Addr × List It)) : Prop where
  kr : KR W w b H N ((hv, .cells (hrow S A L c).toArray 52 (0, 0)) :: K) (hR A L ++ R) (fun k => k = hv)
  ne : ∀ p ∈ K, p.1 ≠ hv
  cp : ∀ j, j < 4 → (L j).length ≤ c j
section
variable {W w w' : World} {b hv : Nat} {H : BH} {N : Bch} {S : Nat → Int} {A : Nat → Option Addr} {L : Nat → List It} {c : Nat → Nat} {K : List (Nat × Obj)} {R : List (Option Addr × List It)}
/-- Items that are read beside it, none of the bench's, nor of hv. -/
abbrev HF (b : Nat) (H : BH) (N : Bch) (hv : Nat) : Nat → Prop := fun k => BF b H N.n k ∨ (fun k => k = hv) k
end
/-- What is said of each disk is what stands there. -/
structure MI (N : Bch) (S : Nat → Int) (L : Nat → List It) (i : Nat) : Prop where
  n : N.n = 4
  good : GoodB N
  done : N.done ≤ 8 * i
  eq : ∀ j, j < 4 → S j = onS N j ∧ L j = onL N j
/-- The first k are told anew. -/
structure MX (N M : Bch) (S : Nat → Int) (L : Nat → List It) (k : Nat) : Prop where
  new : ∀ j, j < 4 → j < k → S j = onS M j ∧ L j = onL M j
  old : ∀ j, j < 4 → k ≤ j → S j = onS N j ∧ L j = onL N j
theorem MX.start {N M : Bch} {S : Nat → Int} {L : Nat → List It} {i : Nat} (h : MI N S L i) : MX N M S L 0 := ⟨fun j _ hj => by omega, fun j hj _ => h.eq j hj⟩
/-- A sector set at once: one disk's record may be another one. -/
theorem dmg_log {N : Bch} {d k : Nat} {x : List UInt8} (hg : GoodB N) (hd : d < N.n) (hk : k < 52) (hx : x.length = 32) (hf : (N.D d).f = false) :
    (N.damage (d : Int) (k : Int) x).n = N.n ∧ GoodB (N.damage (d : Int) (k : Int) x) ∧ (N.damage (d : Int) (k : Int) x).done = N.done ∧ ((N.damage (d : Int) (k : Int) x).D d).f = false ∧ ∀ j, j ≠ d → onS (N.damage (d : Int) (k : Int) x) j = onS N j ∧ onL (N.damage (d : Int) (k : Int) x) j = onL N j := by
  have hp : N.pickE (d : Int) = 0 := Bch.pickE_ok (by omega) (by omega)
  have ht : takeE (N.D d).f (k : Int) x.length = 0 := by rw [hf, hx]; exact takeE_ok (by omega) (by omega)
  have e : N.damage (d : Int) (k : Int) x = N.set d ((N.D d).damage k x) := by
    unfold Bch.damage; rw [if_neg (fun q => q hp)]
    show N.set d ((N.D d).damageE _ _) = _
    unfold Dsk.damageE
    rw [if_pos ht]; rfl
  rw [e]
  have hj : ∀ j, j ≠ d → (N.set d ((N.D d).damage k x)).D j = N.D j := fun j hj => upd_other _ _ hj
  have hdd : (N.set d ((N.D d).damage k x)).D d = (N.D d).damage k x := upd_same _ _ _
  refine ⟨rfl, ⟨hg.dn, hg.lf, fun j hjn => ?_, fun j hjn => ?_⟩, rfl, by rw [hdd]; exact hf, fun j h => onS_alike hg.dn hg.dn (by rw [hj j h]) (by rw [hj j h])⟩
  · by_cases q : j = d
    · subst q; rw [hdd]; exact (hg.ok j hjn).damage hk hx
    · rw [hj j q]; exact hg.ok j hjn
  · by_cases q : j = d
    · subst q; rw [hdd]; show List.filter _ (N.D j).ps = []; rw [hg.ps j hjn]; rfl
    · rw [hj j q]; exact hg.ps j hjn
end Go.Proofs.YtkbhnbkjpnigkaaDoor
end
