/- Texts put together: DskWrite, DskRest, DskRow, DskAll, DskClone, RowLose, RefNums, DskCrash. -/
import Derived.Test.YtadmofpipfdedaaSfah
import Derived.Deep.DrawnRows
import Derived.Test.YtadmofpipfdedaaSfac
import Derived.Test.YtadmofpipfdedaaSfaa
import Derived.Deep.WholeRow
section
set_option maxRecDepth 8000
namespace Go.Proofs.Ytadmofpipfdedaa
open Go.RowKit

section
attribute [local go_sem ↓] wp_build_write exec_build_write wp_built_slice
end
end Go.Proofs.Ytadmofpipfdedaa
end
section
namespace Go.Proofs.Ytadmofpipfdedaa
open Go.RowKit

section
variable (B b : Nat) (pv : Value) (D : Dsk) (w : World) (h : DskAt w B b pv D)
include h
theorem dsk_fail_any : Calls Try.prog 41 #[.pointer (some ⟨b, 0, none⟩)] w fun e w' => e = .returned (.tuple #[]) ∧ DskAt w' B b (.slice none 0 0) Dsk.failed ∧ Chg (DF b pv) w w' := by
  have Hh := Lib.hid h
  have HS := Lib.hid h.ok.S
  have HN := Lib.hid h.ok.now
  clear h
  have H := Lib.hid (show ∀ w' : World, w'.heap[b]? = some (.cells (dcells (List.replicate 1664 0) (List.replicate 1664 0) (.slice none 0 0) true).toArray 99 (0, 0)) → DskAt w' B b (.slice none 0 0) Dsk.failed from
    fun w' hb => ⟨hb, World.ownsRow_nil _ _ _ _, Hh.out.le, by simp [Value.ownBlock], Dsk.failed_ok⟩)
  have hbuild := build_failed
  have Hl := Lib.hid (dcells_len (List.length_replicate (n := 1664) (a := (0 : UInt8))) (List.length_replicate (n := 1664) (a := (0 : UInt8))) (.slice none 0 0) true)
  have H1 := Lib.hid (show ∀ u ∈ dcells (List.replicate 1664 0) (List.replicate 1664 0) (.slice none 0 0) true, u.oneCell' = true from fun u hu => by
    unfold dcells at hu
    rcases List.mem_append.1 hu with h | h
    · rcases List.mem_append.1 h with h | h <;> exact map_bv_one u h
    · rcases List.mem_cons.1 h with rfl | h
      · rfl
      · rw [List.mem_singleton.1 h]; rfl)
  generalize hC : dcells (List.replicate 1664 0) (List.replicate 1664 0) (.slice none 0 0) true = C at H hbuild Hl H1
  clear hC
  go_enter Try.func41, Try.ntmps41
  go_wp2_with (first
    | ((refine wpList_build_run rfl 99 #[(3, .const (.bool true))] (by rfl) #[(3, .bool true)] (by simp [Act.eval]) (.agg C.toArray) (hbuild _) ?_))
    | (refine wpList_store_blk rfl 99 _ _ (by rfl) b 0 (.agg C.toArray) (by rfl) (by rfl) (dcells D.S D.now pv D.f) 99 Hh.out.blk C (by rfl) 3330 Hl.out size_dsk (by rw [dcells_len HS.out HN.out]; omega) H1.out C (spl_all (by rw [Hl.out, dcells_len HS.out HN.out])) ?_; intro w1 hb1 hg1))
  go_end0
  exact ⟨rfl, H.out _ hb1, (chg_grown hg1).mono fun i _ e => .inl (by injection e with e; exact e.symm)⟩
theorem dsk_read_no (k : Int) (hk : -9223372036854775808 ≤ k ∧ k ≤ 9223372036854775807) (hE : reachE D.f k ≠ 0) :
    Calls Try.prog 55 #[.pointer (some ⟨b, 0, none⟩), .int .i64 k] w fun e w' => e = .returned (.tuple #[.slice none 0 0, .int .i64 (reachE D.f k)]) ∧ w' = w := by
  have C := Lib.hid (dsk_reach_any B b pv D w h k hk)
  clear h
  generalize reachE D.f k = E at C hE ⊢
  have e2 : (E != 0) = true := by rw [bne_iff_ne]; exact hE
  clear hE
  go_enter Try.func55, Try.ntmps55
  go_wp2_with fail
  refine C.out.mono ?_
  rintro e w' ⟨rfl, rfl⟩
  go_wp2
  go_ret2
  exact ⟨rfl, rfl⟩
theorem dsk_read_ok (k : Nat) (hk : k < 52) (hf : D.f = false) :
    Calls Try.prog 55 #[.pointer (some ⟨b, 0, none⟩), .int .i64 (k : Int)] w fun e w' => ∃ v, e = .returned (.tuple #[v, .int .i64 0]) ∧ OwB 5 w' w.heap.size v (secAt D.now k) ∧ Below w.heap.size w w' := by
  have C := Lib.hid (dsk_reach_any B b pv D w h (k : Int) (by omega))
  have hE : reachE D.f (k : Int) = 0 := by unfold reachE; rw [hf, if_neg (by simp), if_neg (by omega)]
  rw [hE] at C
  have hlt := h.lt
  have hl : (secAt D.now k).length = 32 := secAt_len (by rw [h.ok.now]; omega)
  have Hr := Lib.hid (show RdB w w.heap.size (some ⟨b, 1664 + k * 32, none⟩) (secAt D.now k) from ⟨by omega, fun _ => ⟨b, _, rfl, h.lt, fun j hj => by
    have := range_sec (k := k) (range_N h.blk h.ok.S) j (bv ((secAt D.now k).getD j 0)) (by simp [hj])
    exact this⟩⟩)
  have CC := Lib.hid (fun c => clone_any (some ⟨b, 1664 + k * 32, none⟩) (secAt D.now k) 32 c w hl.symm (by omega) Hr.out)
  clear h hE hl Hr
  have k0 : (0 : Int) ≤ (k : Int) := by omega
  have k1 : (k : Int) < 52 := by omega
  go_enter Try.func55, Try.ntmps55
  go_wp2_with fail
  refine C.out.mono ?_
  rintro e w' ⟨rfl, rfl⟩
  go_wp2_with fail
  refine (CC.out _).mono ?_
  rintro e w1 ⟨v, rfl, ho, hb⟩
  go_wp2
  go_ret2
  exact ⟨v, rfl, ho, hb⟩
end
end Go.Proofs.Ytadmofpipfdedaa
end
section
namespace Go.Proofs.Ytadmofpipfdedaa
open Go.RowKit

/-- One of the pending writes, out of their row. -/
theorem wcells_get {ps : List (Nat × List UInt8)} (h : WOk ps) {i : Nat} (hi : i < ps.length) (j : Nat) (hj : j < 33) : (wcells ps)[i * 33 + j]? = (wcell (ps.getD i (0, [])))[j]? := by
  induction ps generalizing i with
  | nil => simp at hi
  | cons p ps ih =>
    have hl : (wcell p).length = 33 := wcell_len (h p (List.mem_cons_self ..)).2
    have e : wcells (p :: ps) = wcell p ++ wcells ps := by simp [wcells]
    rw [e]
    cases i with
    | zero => rw [Nat.zero_mul, Nat.zero_add, List.getElem?_append_left (by omega)]; rfl
    | succ i =>
      rw [List.getElem?_append_right (by omega), hl, show (i + 1) * 33 + j - 33 = i * 33 + j by omega, ih h.cons (by simpa using hi)]
      rfl
theorem own_cell_at {w : World} {B g n cap : Nat} {e : TypeId} {size : Nat} {xs : List Value} (h : w.ownsRow B e size (.slice (some ⟨g, 0, none⟩) n cap) n xs) (j : Nat) (hj : j < xs.length) : w.cell? ⟨g, j, none⟩ = xs[j]? := by
  rcases h.2 with ⟨h1, _⟩ | ⟨g', cap', cur, h1, h2, h3, h4, h5, h6, h7⟩
  · cases h1
  · injection h1 with h8 _ h9
    injection h8 with h8
    injection h8 with h8 _ _
    subst h8 h9
    have hx := h.1
    rw [cell_of_row w g j cur e (0, 0) h3, ← h7, List.getElem?_take, if_pos (by omega), Array.getElem?_toList]
theorem range_pend {w : World} {B g n cap : Nat} {ps : List (Nat × List UInt8)} (h : w.ownsRow B 102 33 (.slice (some ⟨g, 0, none⟩) n cap) n (wcells ps)) (hok : WOk ps) {i : Nat} (hi : i < ps.length) : w.rangeAt g (i * 33) (wcell (ps.getD i (0, []))) := fun j v hj => by
  have hm : ps.getD i (0, []) ∈ ps := by simp [hi]
  have hl := wcell_len (hok _ hm).2
  have hj33 : j < 33 := by have := (List.getElem?_eq_some_iff.1 hj).1; omega
  have hx : (wcells ps)[i * 33 + j]? = some v := (wcells_get hok hi j hj33).trans hj
  rw [own_cell_at h _ (List.getElem?_eq_some_iff.1 hx).1]
  exact hx

theorem own_form {w : World} {B n : Nat} {e : TypeId} {size : Nat} {v : Value} {xs : List Value} (h : w.ownsRow B e size v n xs) : ∃ A c, v = .slice A n c ∧ n ≤ c ∧ (0 < n → ∃ g, A = some ⟨g, 0, none⟩ ∧ B ≤ g) := by
  rcases h.2 with ⟨rfl, rfl⟩ | ⟨g, cap, cur, rfl, hB, _, hc, _⟩
  · exact ⟨none, 0, rfl, Nat.le_refl _, fun h => by omega⟩
  · exact ⟨_, cap, rfl, hc, fun _ => ⟨g, rfl, hB⟩⟩
end Go.Proofs.Ytadmofpipfdedaa
end
section
namespace Go.Proofs.Ytadmofpipfdedaa
open Go.RowKit

def Dsk.damageE (D : Dsk) (k : Int) (x : List UInt8) : Dsk := if takeE D.f k x.length = 0 then D.damage k.toNat x else D
def Dsk.readE (D : Dsk) (k : Int) : List UInt8 := if reachE D.f k = 0 then secAt D.now k.toNat else []
theorem takeE_zero {f : Bool} {k : Int} {n : Nat} (h : takeE f k n = 0) : f = false ∧ 0 ≤ k ∧ k < 52 ∧ n = 32 := by
  unfold takeE reachE at h
  cases f
  · by_cases h1 : k < 0 ∨ 52 ≤ k
    · simp [h1] at h
    · by_cases h2 : n = 32
      · exact ⟨rfl, by omega, by omega, h2⟩
      · simp [h1, h2] at h
  · simp at h
theorem reachE_zero {f : Bool} {k : Int} (h : reachE f k = 0) : f = false ∧ 0 ≤ k ∧ k < 52 := by
  unfold reachE at h
  cases f
  · by_cases h1 : k < 0 ∨ 52 ≤ k
    · simp [h1] at h
    · exact ⟨rfl, by omega, by omega⟩
  · simp at h
theorem takeE_ok {k : Int} (h0 : 0 ≤ k) (h1 : k < 52) : takeE false k 32 = 0 := by
  unfold takeE reachE; simp; omega
theorem reachE_ok {k : Int} (h0 : 0 ≤ k) (h1 : k < 52) : reachE false k = 0 := by
  unfold reachE; simp; omega
namespace Dsk
end Dsk
section
variable (B b : Nat) (pv : Value) (D : Dsk) (w : World) (h : DskAt w B b pv D)
include h
theorem dsk_read_any (k : Int) (hk : -9223372036854775808 ≤ k ∧ k ≤ 9223372036854775807) :
    Calls Try.prog 55 #[.pointer (some ⟨b, 0, none⟩), .int .i64 k] w fun e w' => ∃ v, e = .returned (.tuple #[v, .int .i64 (reachE D.f k)]) ∧ OwB 5 w' w.heap.size v (D.readE k) ∧ Below w.heap.size w w' := by
  unfold Dsk.readE
  by_cases he : reachE D.f k = 0
  · obtain ⟨hf, h0, h1⟩ := reachE_zero he
    have e := dsk_read_ok B b pv D w h k.toNat (by omega) hf
    rw [Int.toNat_of_nonneg h0] at e
    rw [if_pos he, he]
    exact e
  · rw [if_neg he]
    refine (dsk_read_no B b pv D w h k hk he).mono ?_
    rintro e w' ⟨rfl, rfl⟩
    exact ⟨_, rfl, OwB.nil _ _ _, Below.refl _ _⟩
end
end Go.Proofs.Ytadmofpipfdedaa
end
section
set_option maxRecDepth 8000
namespace Go.Proofs.Ytadmofpipfdedaa
open Go.RowKit

theorem wcells_len {ps : List (Nat × List UInt8)} (h : WOk ps) : (wcells ps).length = ps.length * 33 := by
  induction ps with
  | nil => rfl
  | cons p ps ih =>
    have e : wcells (p :: ps) = wcell p ++ wcells ps := by simp [wcells]
    rw [e, List.length_append, wcell_len (h p (List.mem_cons_self ..)).2, ih h.cons, List.length_cons]
    omega
end Go.Proofs.Ytadmofpipfdedaa
end
section
set_option linter.unusedVariables false
set_option linter.unusedSimpArgs false
namespace Go.Proofs.Ytadmofpipfdedaa

end Go.Proofs.Ytadmofpipfdedaa
end
section
set_option linter.unusedVariables false
set_option linter.unusedSimpArgs false
set_option maxRecDepth 20000
namespace Go.Proofs.Ytadmofpipfdedaa
open Go.RowKit

end Go.Proofs.Ytadmofpipfdedaa
end
section
set_option maxRecDepth 20000
namespace Go.Proofs.Ytadmofpipfdedaa
open Go.RowKit

end Go.Proofs.Ytadmofpipfdedaa
end
