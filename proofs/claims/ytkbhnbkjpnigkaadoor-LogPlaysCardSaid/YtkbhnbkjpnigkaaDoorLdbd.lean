/- Texts put together: LogQuietMath, LogPlaysMath. -/
import Derived.Test.YtkbhnbkjpnigkaaDoorLdbc
import Derived.Test.YtkbhnbkjpnigkaaDoorLdaz
import Derived.Test.YtkbhnbkjpnigkaaDoorLdak
import Derived.Test.YtkbhnbkjpnigkaaDoorLdal
import Derived.Test.YtkbhnbkjpnigkaaDoorLdaj
import Derived.Test.YtkbhnbkjpnigkaaDoorLdan
import Derived.Test.YtkbhnbkjpnigkaaDoorLdar
section
set_option maxRecDepth 8000
set_option linter.unusedVariables false
set_option linter.unusedSimpArgs false
namespace Go.Proofs.YtkbhnbkjpnigkaaDoor
open Go.RowKit

theorem live4 (lv : List Bool) {j : Nat} (hj : j < 4) : liveD 4 lv (j : Int) = lv.getD j false := by
  unfold liveD; rw [decide_eq_true (show (j : Int) < ((4 : Nat) : Int) by omega)]; rfl
section
variable {W w w' : World} {b : Nat} {H : BH} {N : Bch} {K : List (Nat × Obj)} {R : List (Option Addr × List It)} {X : Nat → Prop}
end
theorem pend_good {N : Bch} (h : GoodB N) : N.pend = 0 := offs_zero h.ps
end Go.Proofs.YtkbhnbkjpnigkaaDoor
end
section
set_option maxRecDepth 8000
set_option linter.unusedVariables false
set_option linter.unusedSimpArgs false
namespace Go.Proofs.YtkbhnbkjpnigkaaDoor
open Go.RowKit

def hrow (S : Nat → Int) (A : Nat → Option Addr) (L : Nat → List It) (c : Nat → Nat) : List Value :=
  [.int .i64 (S 0), .slice (A 0) (L 0).length (c 0), .int .i64 (S 1), .slice (A 1) (L 1).length (c 1), .int .i64 (S 2), .slice (A 2) (L 2).length (c 2), .int .i64 (S 3), .slice (A 3) (L 3).length (c 3)]
theorem lt4 {k : Nat} (h : k < 4) : k = 0 ∨ k = 1 ∨ k = 2 ∨ k = 3 := by omega
section
variable (S : Nat → Int) (A : Nat → Option Addr) (L : Nat → List It) (c : Nat → Nat)
theorem hrow_len : (hrow S A L c).length = 8 := rfl
theorem hrow_set {k : Nat} (hk : k < 4) (s : Int) (A' : Option Addr) (l : List It) (c' : Nat) : spl (hrow S A L c) (k * 2) [.int .i64 s, .slice A' l.length c'] = hrow (upd S k s) (upd A k A') (upd L k l) (upd c k c') := by
  rcases lt4 hk with rfl | rfl | rfl | rfl <;> rfl
theorem hrow_set0 {k : Nat} (hk : k < 4) (s : Int) : spl (hrow S A L c) (k * 2) [.int .i64 s] = hrow (upd S k s) A L c := by
  rcases lt4 hk with rfl | rfl | rfl | rfl <;> rfl
theorem hrow_set1 {k : Nat} (hk : k < 4) (A' : Option Addr) (l : List It) (c' : Nat) : spl (hrow S A L c) (k * 2 + 1) [.slice A' l.length c'] = hrow S (upd A k A') (upd L k l) (upd c k c') := by
  rcases lt4 hk with rfl | rfl | rfl | rfl <;> rfl
theorem hrow_get0 {k : Nat} (hk : k < 4) : (hrow S A L c)[k * 2]? = some (.int .i64 (S k)) := by
  rcases lt4 hk with rfl | rfl | rfl | rfl <;> rfl
theorem hrow_get1 {k : Nat} (hk : k < 4) : (hrow S A L c)[k * 2 + 1]? = some (.slice (A k) (L k).length (c k)) := by
  rcases lt4 hk with rfl | rfl | rfl | rfl <;> rfl
end
def hR (A : Nat → Option Addr) (L : Nat → List It) : List (Option Addr × List It) := (List.range 4).map fun j => (A j, L j)
theorem hR_mem (A : Nat → Option Addr) (L : Nat → List It) {j : Nat} (h : j < 4) : (A j, L j) ∈ hR A L := List.mem_map.2 ⟨j, List.mem_range.2 h, rfl⟩
/-- The bench, the block hv that says what each disk has, and what else is kept. -/
structure HvS (W w : World) (b : Nat) (H : BH) (N : Bch) (hv : Nat) (S : Nat → Int) (A : Nat → Option Addr) (L : Nat → List It) (c : Nat → Nat) (K : List (Nat × Obj)) (R : List (Option Addr × List It)) : Prop where
  kr : KR W w b H N ((hv, .cells (hrow S A L c).toArray 52 (0, 0)) :: K) (hR A L ++ R) (fun k => k = hv)
  ne : ∀ p ∈ K, p.1 ≠ hv
  cp : ∀ j, j < 4 → (L j).length ≤ c j
section
variable {W w w' : World} {b hv : Nat} {H : BH} {N : Bch} {S : Nat → Int} {A : Nat → Option Addr} {L : Nat → List It} {c : Nat → Nat} {K : List (Nat × Obj)} {R : List (Option Addr × List It)}
theorem HvS.blk (h : HvS W w b H N hv S A L c K R) : w.heap[hv]? = some (.cells (hrow S A L c).toArray 52 (0, 0)) := (h.kr.kx.kp _ (List.mem_cons_self ..)).1
theorem HvS.lt (h : HvS W w b H N hv S A L c K R) : hv < w.heap.size := (Array.getElem?_eq_some_iff.1 h.blk).1
theorem HvS.X (h : HvS W w b H N hv S A L c K R) : ∀ k, (fun k => k = hv) k → k < w.heap.size := fun k e => by rw [show k = hv from e]; exact h.lt
theorem HvS.bel (h : HvS W w b H N hv S A L c K R) : Below W.heap.size W w := h.kr.kx.bp.bel
theorem HvS.s (h : HvS W w b H N hv S A L c K R) {k : Nat} (hk : k < 4) : w.cell? ⟨hv, k * 2, none⟩ = some (.int .i64 (S k)) := by
  rw [cell_of_row _ _ _ _ _ _ h.blk, List.getElem?_toArray, hrow_get0 _ _ _ _ hk]
theorem HvS.i (h : HvS W w b H N hv S A L c K R) {k : Nat} (hk : k < 4) : w.cell? ⟨hv, k * 2 + 1, none⟩ = some (.slice (A k) (L k).length (c k)) := by
  rw [cell_of_row _ _ _ _ _ _ h.blk, List.getElem?_toArray, hrow_get1 _ _ _ _ hk]
theorem HvS.below (h : HvS W w b H N hv S A L c K R) (hb : Below w.heap.size w w') : HvS W w' b H N hv S A L c K R := ⟨h.kr.below hb, h.ne, h.cp⟩
theorem HvS.bc (h : HvS W w b H N hv S A L c K R) {N' : Bch} (hc : BC W w w' b H N.n N') (hn : N'.n = N.n) : ∃ H', HvS W w' b H' N' hv S A L c K R := by
  obtain ⟨H', k⟩ := h.kr.bc hc hn
  exact ⟨H', k, h.ne, h.cp⟩
theorem KR.perm {X : Nat → Prop} (h : KR W w b H N K R X) {K' : List (Nat × Obj)} (hK : ∀ p ∈ K', p ∈ K) : KR W w b H N K' R X := h.sub hK fun _ hp => hp
theorem HvS.sub (h : HvS W w b H N hv S A L c K R) {K' : List (Nat × Obj)} {R' : List (Option Addr × List It)} (hK : ∀ p ∈ K', p ∈ K) (hR' : ∀ p ∈ R', p ∈ R) : HvS W w b H N hv S A L c K' R' :=
  ⟨h.kr.sub (fun p hp => by
    rcases List.mem_cons.1 hp with rfl | hp
    · exact List.mem_cons_self ..
    · exact List.mem_cons_of_mem _ (hK p hp)) (fun p hp => by
    rcases List.mem_append.1 hp with hp | hp
    · exact List.mem_append.2 (.inl hp)
    · exact List.mem_append.2 (.inr (hR' p hp))), fun p hp => h.ne p (hK p hp), h.cp⟩
/-- Items that are read beside it, none of the bench's, nor of hv. -/
abbrev HF (b : Nat) (H : BH) (N : Bch) (hv : Nat) : Nat → Prop := fun k => BF b H N.n k ∨ (fun k => k = hv) k
theorem HvS.itA (h : HvS W w b H N hv S A L c K R) {j : Nat} (hj : j < 4) : RdIF w (HF b H N hv) (A j) (L j) := h.kr.it _ (List.mem_append.2 (.inl (hR_mem A L hj)))
theorem HvS.itR (h : HvS W w b H N hv S A L c K R) {B : Option Addr} {l : List It} (hm : (B, l) ∈ R) : RdIF w (HF b H N hv) B l := h.kr.it _ (List.mem_append.2 (.inr hm))
theorem HvS.own (h : HvS W w b H N hv S A L c K R) (hb : Below w.heap.size w w') {e : TypeId} {B : Option Addr} {l : List It} {cc : Nat} (ho : OwIt e w' w.heap.size w.heap.size (.slice B l.length cc) l) : HvS W w' b H N hv S A L c K ((B, l) :: R) := by
  have hk := h.kr.own h.X hb ho
  exact ⟨⟨hk.kx, fun p hp => by
    rcases List.mem_append.1 hp with hp | hp
    · exact hk.it p (List.mem_cons_of_mem _ (List.mem_append.2 (.inl hp)))
    · rcases List.mem_cons.1 hp with rfl | hp
      · exact hk.it _ (List.mem_cons_self ..)
      · exact hk.it p (List.mem_cons_of_mem _ (List.mem_append.2 (.inr hp)))⟩, h.ne, h.cp⟩
/-- hv is written. -/
theorem HvS.put (h : HvS W w b H N hv S A L c K R) {S' : Nat → Int} {A' : Nat → Option Addr} {L' : Nat → List It} {c' : Nat → Nat} (hg : w.grownBy w' (some hv)) (hb : w'.heap[hv]? = some (.cells (hrow S' A' L' c').toArray 52 (0, 0)))
    (hi : ∀ j, j < 4 → RdIF w (HF b H N hv) (A' j) (L' j)) (hc : ∀ j, j < 4 → (L' j).length ≤ c' j) : HvS W w' b H N hv S' A' L' c' K R := by
  have hch := chg_grown hg
  refine ⟨⟨h.kr.kx.put (K1 := []) rfl hg hb (fun r hr => h.ne r hr), fun p hp => ?_⟩, h.ne, hc⟩
  have hG : ∀ k, k < w.heap.size → (fun k => some hv = some k) k → HF b H N hv k := fun k _ e => by injection e with e; exact .inr e.symm
  rcases List.mem_append.1 hp with hp | hp
  · obtain ⟨j, hj, rfl⟩ := List.mem_map.1 hp
    exact (hi j (List.mem_range.1 hj)).chg hch hG
  · exact (h.kr.it p (List.mem_append.2 (.inr hp))).chg hch hG
theorem HvS.set (h : HvS W w b H N hv S A L c K R) {k : Nat} (hk : k < 4) {s : Int} {B : Option Addr} {l : List It} {cc : Nat} (hg : w.grownBy w' (some hv)) (hb : w'.heap[hv]? = some (.cells (hrow (upd S k s) (upd A k B) (upd L k l) (upd c k cc)).toArray 52 (0, 0)))
    (hr : RdIF w (HF b H N hv) B l) (hc : l.length ≤ cc) : HvS W w' b H N hv (upd S k s) (upd A k B) (upd L k l) (upd c k cc) K R := by
  refine h.put hg hb (fun j hj => ?_) fun j hj => ?_
  · by_cases e : j = k
    · subst e; rw [upd_same, upd_same]; exact hr
    · rw [upd_other _ _ e, upd_other _ _ e]; exact h.itA hj
  · by_cases e : j = k
    · subst e; rw [upd_same, upd_same]; exact hc
    · rw [upd_other _ _ e, upd_other _ _ e]; exact h.cp j hj
theorem HvS.set0 (h : HvS W w b H N hv S A L c K R) {k : Nat} {s : Int} (hg : w.grownBy w' (some hv)) (hb : w'.heap[hv]? = some (.cells (hrow (upd S k s) A L c).toArray 52 (0, 0))) : HvS W w' b H N hv (upd S k s) A L c K R :=
  h.put hg hb (fun j hj => h.itA hj) h.cp
end
/-- What is said of each disk is what stands there. -/
structure MI (N : Bch) (S : Nat → Int) (L : Nat → List It) (i : Nat) : Prop where
  n : N.n = 4
  good : GoodB N
  done : N.done ≤ 8 * i
  eq : ∀ j, j < 4 → S j = onS N j ∧ L j = onL N j
/-- The first k are told anew. -/
structure MX (N M : Bch) (S : Nat → Int) (L : Nat → List It) (k : Nat) : Prop where
  new : ∀ j, j < 4 → j < k → S j = onS M j ∧ L j = onL M j
  old : ∀ j, j < 4 → k ≤ j → S j = onS N j ∧ L j = onL N j
theorem MX.start {N M : Bch} {S : Nat → Int} {L : Nat → List It} {i : Nat} (h : MI N S L i) : MX N M S L 0 := ⟨fun j _ hj => by omega, fun j hj _ => h.eq j hj⟩
theorem MX.set {N M : Bch} {S : Nat → Int} {L : Nat → List It} {k : Nat} (h : MX N M S L k) {s : Int} {l : List It} (hk : onS M k = s ∧ onL M k = l) : MX N M (upd S k s) (upd L k l) (k + 1) := by
  refine ⟨fun j hj hjk => ?_, fun j hj hjk => ?_⟩
  · by_cases e : j = k
    · subst e; rw [upd_same, upd_same]; exact ⟨hk.1.symm, hk.2.symm⟩
    · rw [upd_other _ _ e, upd_other _ _ e]; exact h.new j hj (by omega)
  · rw [upd_other _ _ (by omega), upd_other _ _ (by omega)]; exact h.old j hj (by omega)
theorem MX.skip {N M : Bch} {S : Nat → Int} {L : Nat → List It} {k : Nat} (h : MX N M S L k) (hk : k < 4) (he : onS M k = onS N k ∧ onL M k = onL N k) : MX N M S L (k + 1) := by
  refine ⟨fun j hj hjk => ?_, fun j hj hjk => h.old j hj (by omega)⟩
  by_cases e : j = k
  · subst e; rw [he.1, he.2]; exact h.old j hj (Nat.le_refl _)
  · exact h.new j hj (by omega)
theorem MX.all {N M : Bch} {S : Nat → Int} {L : Nat → List It} {i : Nat} (h : MX N M S L 4) (hn : M.n = 4) (hg : GoodB M) (hd : M.done ≤ 8 * i) : MI M S L i := ⟨hn, hg, hd, fun j hj => h.new j hj hj⟩
/-- One disk is told anew. -/
theorem MI.one {N M : Bch} {S : Nat → Int} {L : Nat → List It} {i i' d : Nat} (h : MI N S L i) (hn : M.n = 4) (hg : GoodB M) (hd : M.done ≤ 8 * i') (ho : ∀ j, j < 4 → j ≠ d → onS M j = onS N j ∧ onL M j = onL N j) {s : Int} {l : List It} (hs : onS M d = s ∧ onL M d = l) : MI M (upd S d s) (upd L d l) i' := by
  refine ⟨hn, hg, hd, fun j hj => ?_⟩
  by_cases e : j = d
  · subst e; rw [upd_same, upd_same]; exact ⟨hs.1.symm, hs.2.symm⟩
  · rw [upd_other _ _ e, upd_other _ _ e, (ho j hj e).1, (ho j hj e).2]; exact h.eq j hj
/-- A sector set at once: one disk's record may be another one. -/
theorem dmg_log {N : Bch} {d k : Nat} {x : List UInt8} (hg : GoodB N) (hd : d < N.n) (hk : k < 52) (hx : x.length = 32) (hf : (N.D d).f = false) :
    (N.damage (d : Int) (k : Int) x).n = N.n ∧ GoodB (N.damage (d : Int) (k : Int) x) ∧ (N.damage (d : Int) (k : Int) x).done = N.done ∧ ((N.damage (d : Int) (k : Int) x).D d).f = false ∧ ∀ j, j ≠ d → onS (N.damage (d : Int) (k : Int) x) j = onS N j ∧ onL (N.damage (d : Int) (k : Int) x) j = onL N j := by
  have hp : N.pickE (d : Int) = 0 := Bch.pickE_ok (by omega) (by omega)
  have ht : takeE (N.D d).f (k : Int) x.length = 0 := by rw [hf, hx]; exact takeE_ok (by omega) (by omega)
  have e : N.damage (d : Int) (k : Int) x = N.set d ((N.D d).damage k x) := by
    unfold Bch.damage; rw [if_neg (fun q => q hp)]
    show N.set d ((N.D d).damageE _ _) = _
    unfold Dsk.damageE
    rw [if_pos ht]; rfl
  rw [e]
  have hj : ∀ j, j ≠ d → (N.set d ((N.D d).damage k x)).D j = N.D j := fun j hj => upd_other _ _ hj
  have hdd : (N.set d ((N.D d).damage k x)).D d = (N.D d).damage k x := upd_same _ _ _
  refine ⟨rfl, ⟨hg.dn, hg.lf, fun j hjn => ?_, fun j hjn => ?_⟩, rfl, by rw [hdd]; exact hf, fun j h => onS_alike hg.dn hg.dn (by rw [hj j h]) (by rw [hj j h])⟩
  · by_cases q : j = d
    · subst q; rw [hdd]; exact (hg.ok j hjn).damage hk hx
    · rw [hj j q]; exact hg.ok j hjn
  · by_cases q : j = d
    · subst q; rw [hdd]; show List.filter _ (N.D j).ps = []; rw [hg.ps j hjn]; rfl
    · rw [hj j q]; exact hg.ps j hjn
end Go.Proofs.YtkbhnbkjpnigkaaDoor
end
