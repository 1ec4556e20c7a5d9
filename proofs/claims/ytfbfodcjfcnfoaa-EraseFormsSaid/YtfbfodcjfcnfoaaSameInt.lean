/- Same of numbers. -/
import Derived.Test.YtfbfodcjfcnfoaaEraseBits
namespace Go.Proofs.Ytfbfodcjfcnfoaa
open Go.RowKit

/-- The slice reads as these numbers; its cells lie below block B. -/
def RdI (w : World) (B : Nat) (A : Option Addr) (ks : List Nat) : Prop :=
  ks.length ≤ 140737488355328 ∧ (0 < ks.length → ∃ b off, A = some ⟨b, off, none⟩ ∧ b < B ∧ ∀ j, j < ks.length → w.cell? ⟨b, off + j, none⟩ = some (.int .i64 ((ks.getD j 0 : Nat) : Int)))
theorem RdI.below {w w' : World} {B B' : Nat} {A : Option Addr} {ks : List Nat} (h : RdI w B A ks) (hb : Below B' w w') (hB : B ≤ B') : RdI w' B A ks :=
  ⟨h.1, fun h0 => by
    obtain ⟨b, off, e, hlt, hc⟩ := h.2 h0
    exact ⟨b, off, e, hlt, fun j hj => (hb.cell (p := ⟨b, off + j, none⟩) (by show b < B'; omega)).trans (hc j hj)⟩⟩
theorem RdI.more {w : World} {B B' : Nat} {A : Option Addr} {ks : List Nat} (h : RdI w B A ks) (hB : B ≤ B') : RdI w B' A ks :=
  ⟨h.1, fun h0 => by
    obtain ⟨b, off, e, hlt, hc⟩ := h.2 h0
    exact ⟨b, off, e, by omega, hc⟩⟩
theorem OwI.rdI {w : World} {B : Nat} {v : Value} {ks : List Nat} (h : OwI w B v ks) (hl : ks.length ≤ 140737488355328) : ∃ A c, v = .slice A ks.length c ∧ RdI w w.heap.size A ks := by
  obtain ⟨A, c, hv, hr⟩ := h.rd
  refine ⟨A, c, hv, hl, fun h0 => ?_⟩
  obtain ⟨g, e, _, hlt, hc⟩ := hr h0
  exact ⟨g, 0, e, hlt, fun j hj => by rw [Nat.zero_add]; exact hc j hj⟩
theorem rdi_lit {w : World} {g : Nat} {cs : Array Value} {t : TypeId} {f : Nat × Nat} {ks : List Nat} (hg : w.heap[g]? = some (.cells cs t f)) (hl : ks.length ≤ 140737488355328) (hcs : cs.toList = ks.map iv) : RdI w w.heap.size (some ⟨g, 0, none⟩) ks :=
  ⟨hl, fun _ => ⟨g, 0, rfl, (Array.getElem?_eq_some_iff.1 hg).1, fun j hj => by
    rw [Nat.zero_add, cell_of_row w g j cs t f hg, ← Array.getElem?_toList, hcs, List.getElem?_map, List.getElem?_eq_getElem hj, List.getD_eq_getElem?_getD, List.getElem?_eq_getElem hj]
    rfl⟩⟩
theorem nats_take_snoc {ra rb : List Nat} {j : Nat} (h : ra.take j = rb.take j) (hj : j < ra.length) (hj' : j < rb.length) (he : ra.getD j 0 = rb.getD j 0) : ra.take (j + 1) = rb.take (j + 1) := by
  rw [List.take_succ_eq_append_getElem hj, List.take_succ_eq_append_getElem hj', h]
  have e : ra[j] = rb[j] := by simpa [hj, hj'] using he
  rw [e]
set_option maxHeartbeats 400000 in
theorem sameInt_any (A A' : Option Addr) (ra rb : List Nat) (n n' c c' : Nat) (w : World) (hn : ra.length = n) (hn' : rb.length = n') (hr : RdI w w.heap.size A ra) (hr' : RdI w w.heap.size A' rb) :
    Calls Try.prog 8 #[.slice A n c, .slice A' n' c'] w fun e w' => e = .returned (.bool (decide (ra = rb))) ∧ Below w.heap.size w w' := by
  subst hn hn'
  have hl := hr.1
  have hl' := hr'.1
  by_cases hlen : ra.length = rb.length
  · have hle := Lib.hid hlen
    have hne : ((ra.length : Int) != (rb.length : Int)) = false := by rw [hlen]; simp
    clear hlen
    go_enter Try.func8, Try.ntmps8
    go_wp2
    go_loopw [5] (fun i wr => ∃ j : Nat, j ≤ ra.length ∧ i = .int .i64 j ∧ ra.take j = rb.take j ∧ Below w.heap.size w wr) (fun i _ => ra.length - (intOf i).toNat)
    case atStart => exact ⟨0, Nat.zero_le _, rfl, rfl, Below.refl _ _⟩
    case round =>
      obtain ⟨j, hj, rfl, htk, hbr⟩ := hrel
      have Htk := Lib.hid htk
      clear htk
      by_cases hlt : j < ra.length
      · have hlt' : j < rb.length := by have := hle.out; omega
        obtain ⟨b, off, rfl, hb, hc⟩ := hr.2 (by omega)
        obtain ⟨b', off', rfl, hb', hc'⟩ := hr'.2 (by omega)
        have h1 := hc j hlt
        have h2 := hc' j hlt'
        rw [← hbr.cell (p := ⟨b, off + j, none⟩) hb] at h1
        rw [← hbr.cell (p := ⟨b', off' + j, none⟩) hb'] at h2
        have i0 : (0 : Int) ≤ (j : Int) := by omega
        have i1 : (j : Int) < (ra.length : Int) := by omega
        have i2 : (j : Int) < (rb.length : Int) := by omega
        have Hne := Lib.hid (show ra.getD j 0 ≠ rb.getD j 0 → decide (ra = rb) = false from fun h => by simpa using fun e : ra = rb => h (by rw [e]))
        have Hsn := Lib.hid (show ra.getD j 0 = rb.getD j 0 → ra.take (j + 1) = rb.take (j + 1) from fun h => nats_take_snoc Htk.out hlt hlt' h)
        generalize ra.getD j 0 = x at h1 Hne Hsn
        generalize rb.getD j 0 = y at h2 Hne Hsn
        clear hc hc'
        by_cases he : x = y
        · have Hs := Lib.hid (Hsn.out he)
          have e0 : ((x : Int) != (y : Int)) = false := int_bne_no he
          clear he
          go_wp2
          go_quiet (fail)
          go_wp2
          go_roundw
          case rel => exact ⟨j + 1, by omega, by go_num, Hs.out, hbr.trans (belowN _ _ nq)⟩
          case measure => simp [intOf]; omega
        · have Hd := Lib.hid (Hne.out he)
          have e0 : ((x : Int) != (y : Int)) = true := int_bne_yes he
          clear he
          go_wp2
          go_quiet (fail)
          go_wp2
          go_ret
          exact ⟨by rw [Hd.out]; rfl, hbr.trans (belowN _ _ nq)⟩
      · obtain rfl : j = ra.length := by omega
        have Hd := Lib.hid (show decide (ra = rb) = true by
          have h1 := Htk.out
          rw [List.take_length, hle.out, List.take_length] at h1
          exact decide_eq_true h1)
        go_wp2
        go_ret
        exact ⟨by rw [Hd.out]; rfl, hbr⟩
  · go_enter Try.func8, Try.ntmps8
    have hne : ((ra.length : Int) != (rb.length : Int)) = true := by rw [bne_iff_ne]; omega
    go_wp2
    go_ret
    exact ⟨by rw [decide_eq_false (fun h => hlen (by rw [h]))]; rfl, Below.refl _ _⟩
end Go.Proofs.Ytfbfodcjfcnfoaa
