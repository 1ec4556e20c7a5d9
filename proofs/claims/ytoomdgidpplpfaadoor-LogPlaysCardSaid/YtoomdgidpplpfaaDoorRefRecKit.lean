/- What the document's own Records stand on: four bytes of a number, bytes filled up, one row ahead of others. -/
import Derived.Test.YtoomdgidpplpfaaDoorRw
import Derived.Test.YtoomdgidpplpfaaDoorLbal
import Derived.Test.YtoomdgidpplpfaaDoorRefRecC
import Derived.Test.YtoomdgidpplpfaaDoorRefCrc
set_option maxRecDepth 8000
set_option linter.unusedVariables false
set_option linter.unusedSimpArgs false
namespace Go.Proofs.YtoomdgidpplpfaaDoor
open Go.RowKit

theorem refFour_any (n : Int) (w : World) (hn : 0 ≤ n ∧ n ≤ 2147483647) :
    Calls Tryd.prog 59 #[.int .i64 n] w fun e w' => ∃ g : Nat, e = .returned (.slice (some ⟨g, 0, none⟩) 4 4) ∧ OwB 5 w' w.heap.size (.slice (some ⟨g, 0, none⟩) 4 4) [byN n 3, byN n 2, byN n 1, byN n 0] ∧ Below w.heap.size w w' := by
  have e3 : n / 16777216 = ((byN n 3).toNat : Int) := by have := byN_u8 hn.1 3 (by omega); omega
  have e2 : n / 65536 % 256 = ((byN n 2).toNat : Int) := byN_u8 hn.1 2 (by omega)
  have e1 : n / 256 % 256 = ((byN n 1).toNat : Int) := byN_u8 hn.1 1 (by omega)
  have e0 : n % 256 = ((byN n 0).toNat : Int) := by have := byN_u8 hn.1 0 (by omega); omega
  generalize byN n 3 = b3 at e3
  generalize byN n 2 = b2 at e2
  generalize byN n 1 = b1 at e1
  generalize byN n 0 = b0 at e0
  go_enter Tryd.func59, Tryd.ntmps59
  go_wp2
  go_ret
  exact ⟨_, rfl, own_lit [b3, b2, b1, b0] rfl rfl (by omega), below1 _ _⟩
theorem refFull_n (v : Value) (bs : List UInt8) (n B : Nat) (w : World) (h : OwB 5 w B v bs) (hl : bs.length = n) (hn : n < 32) (hB : B ≤ w.heap.size) :
    Calls Tryd.prog 61 #[v] w fun e w' => ∃ v', e = .returned v' ∧ OwB 5 w' B v' (bs ++ List.replicate (32 - n) 0) ∧ w.grownBy w' v.ownBlock := by
  obtain ⟨A, c, rfl, hc, hr⟩ := h.rd
  have Hh := Lib.hid h
  have HL := Lib.hid hl
  rw [hl]
  rw [hl] at Hh
  obtain ⟨m, hm⟩ : ∃ m, 32 - n = m := ⟨_, rfl⟩
  have kz : IntKind.i64.wrap (32 - (n : Int)) = (m : Int) := by rw [IntKind.wrap_i64]; omega
  have hm32 : 0 < m ∧ m ≤ 32 := by omega
  rw [hm]
  clear h hl hr hc hm
  go_enter Tryd.func61, Tryd.ntmps61
  go_wp2_with (refine wpList_append_Z _ rfl _ _ _ _ rfl B 5 .i64 Tryd.underlying41 Tryd.underlying3 info_u8 (.slice A n c) bs rfl Hh.out .i64 m rfl (by omega) (by rw [HL.out]; omega) hB ?_; intro v1 w1 o1 g1 h1)
  go_ret
  exact ⟨_, rfl, o1, g1⟩
/-- One row ahead of others, in a row of one's own. -/
theorem rw_cons {lo : Nat} {W6 W8 : World} {g cap n : Nat} {bk cp : Nat → Nat} {rs : List (List UInt8)} {gs cs : Nat} {b : List UInt8} {v' : Value} (h : Rw lo W6 g cap n bk cp rs) (ho : OwB 5 W6 lo (.slice (some ⟨gs, 0, none⟩) 32 cs) b) (hb : b.length = 32) (hgs : ∀ k, k < n → gs ≠ bk k) (hn : n < 9)
    (hr : W8.ownsRow lo 41 1 v' (1 + n) ([.slice (some ⟨gs, 0, none⟩) 32 cs] ++ rwvs bk cp n)) (hB : Below W6.heap.size W6 W8) (hv : ∀ q, v'.ownBlock = some q → W6.heap.size ≤ q) :
    ∃ g' cap' bk' cp', v' = .slice (some ⟨g', 0, none⟩) (1 + n) cap' ∧ Rw lo W8 g' cap' (1 + n) bk' cp' (b :: rs) := by
  obtain ⟨A, c, rfl, hc, hg⟩ := rx_form hr
  obtain ⟨g', rfl, hB'⟩ := hg (by omega)
  have hg' := hv g' rfl
  have e : [.slice (some ⟨gs, 0, none⟩) 32 cs] ++ rwvs bk cp n = rwvs (fun k => if k = 0 then gs else bk (k - 1)) (fun k => if k = 0 then cs else cp (k - 1)) (1 + n) := by
    apply List.ext_getElem (by simp [rwvs]; omega)
    intro k h1 h2
    match k with
    | 0 => simp [rwvs, rwv]
    | k + 1 => simp [rwvs, rwv]
  rw [e] at hr
  have hgl := (ho.lt gs rfl).2
  refine ⟨g', c, _, _, rfl, hr, by simp [h.nn]; omega, by omega, fun k hk => ?_, fun k hk => ?_, fun k hk => ?_, fun j k hj hk hjk => ?_⟩
  · match k with
    | 0 => exact hb
    | k + 1 => exact h.len k (by omega)
  · match k with
    | 0 => exact ho.below hB
    | k + 1 => exact (h.own k (by omega)).below hB
  · match k with
    | 0 => show gs ≠ g'; omega
    | k + 1 =>
      have := (h.blt k (by omega)).2
      show bk k ≠ g'; omega
  · match j, k with
    | 0, 0 => rfl
    | 0, k + 1 => exact absurd hjk (hgs k (by omega))
    | j + 1, 0 => exact absurd hjk.symm (hgs j (by omega))
    | j + 1, k + 1 => have := h.inj j k (by omega) (by omega) hjk; omega
theorem partsB_next {l : List It} {j : Nat} (h : l.length ≤ 3) (hj : j < l.length) : (partsB (l.take j)).getD j [] = z32 ∧ (partsB (l.take j)).set j (itN l j).b = partsB (l.take (j + 1)) := by
  have h1 := stgB_get (s := 0) h hj
  have h2 := stgB_succ (s := 0) h hj
  rw [Nat.add_comm 1 j] at h1 h2
  refine ⟨?_, ?_⟩
  · have e : (stgB 0 l j).getD (j + 1) [] = (partsB (l.take j)).getD j [] := by simp [stgB, List.getD_eq_getElem?_getD]
    rw [← e]; exact h1
  · have e : (stgB 0 l j).set (j + 1) (itN l j).b = fullB 0 l :: (partsB (l.take j)).set j (itN l j).b := rfl
    rw [e] at h2
    exact (List.cons.inj h2).2
/-- What stays while the document makes its sectors. -/
def ErS (w : World) (g cap : Nat) (bk cp : Nat → Nat) (v : Value) (bs : List UInt8) (ps : List (List UInt8)) (V : World) : Prop :=
  OwB 5 V w.heap.size v bs ∧ Rw w.heap.size V g cap 3 bk cp ps ∧ (∀ k, v.ownBlock = some k → k ≠ g ∧ ∀ j, j < 3 → k ≠ bk j) ∧ Below w.heap.size w V
section
variable {w V V' : World} {g cap : Nat} {bk cp : Nat → Nat} {v v' : Value} {bs bs' : List UInt8} {ps : List (List UInt8)}
theorem ErS.below (h : ErS w g cap bk cp v bs ps V) (hb : Below V.heap.size V V') : ErS w g cap bk cp v bs ps V' := ⟨h.1.below hb, h.2.1.below hb, h.2.2.1, h.2.2.2.trans (hb.mono h.2.2.2.size)⟩
theorem ErS.drew (h : ErS w g cap bk cp v bs ps V) : ErS w g cap bk cp v bs ps V.drew := h.below (Below.refl _ _).drew
/-- The bytes grow. -/
theorem ErS.grow (h : ErS w g cap bk cp v bs ps V) (ho : OwB 5 V' w.heap.size v' bs') (hg : V.grownBy V' v.ownBlock) (hat : v'.ownBlock = v.ownBlock ∨ v'.ownBlock = some V.heap.size) : ErS w g cap bk cp v' bs' ps V' := by
  obtain ⟨h1, h2, h3, h4⟩ := h
  refine ⟨ho, h2.grown hg (fun e => (h3 g e).1 rfl) (fun k hk e => (h3 _ e).2 k hk rfl), fun k e => ?_, h4.grown hg h4.size (fun k e => (h1.lt k e).1)⟩
  rcases hat with hat | hat
  · rw [hat] at e; exact h3 k e
  · rw [hat] at e
    injection e with e
    have := h2.glt.2
    exact ⟨by omega, fun j hj => by have := (h2.blt j hj).2; omega⟩
/-- One sector written. -/
theorem ErS.copy (h : ErS w g cap bk cp v bs ps V) (k : Nat) (hk : k < 3) {b : List UInt8} (ho : OwB 5 V' w.heap.size (.slice (some ⟨bk k, 0, none⟩) 32 (cp k)) b) (hb : b.length = 32) (hg : V.grownBy V' (some (bk k))) : ErS w g cap bk cp v bs (ps.set k b) V' := by
  obtain ⟨h1, h2, h3, h4⟩ := h
  exact ⟨h1.grown hg (by
    rcases hv : v.ownBlock with _ | q
    · exact .inl rfl
    · exact .inr fun e => by injection e with e; exact (h3 q hv).2 k hk e), h2.set k hk ho hb hg, h3, h4.grown hg h4.size (fun j e => by injection e with e; subst e; exact (h2.blt k hk).1)⟩
end
end Go.Proofs.YtoomdgidpplpfaaDoor
