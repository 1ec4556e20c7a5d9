/- RecordForms: what it stands on. -/
import Derived.Test.YtfgiomidlfoonaaDoorRecordFormsLoop
import Derived.Test.YtfgiomidlfoonaaDoorOwnFull
set_option linter.unusedVariables false
set_option linter.unusedSimpArgs false
namespace Go.Proofs.YtfgiomidlfoonaaDoor
open Go.RowKit

theorem rcO_head {rs : List (List UInt8)} (h : rcO rs = true) : (rs.getD 0 []).getD 0 0 = 87 ∧ (rs.getD 0 []).getD 1 0 = 82 ∧ (rs.getD 0 []).getD 2 0 = 69 := by
  obtain ⟨_, h1, h2⟩ := (rcO_iff rs).1 h
  have h3 := ((recOk_iff _ _).1 h1).1.2.2
  rw [← h2, recB_by h3 0 (by omega), recB_by h3 1 (by omega), recB_by h3 2 (by omega)]
  exact ⟨rfl, rfl, rfl⟩
theorem wrap64_mod (x : Int) : wrap64 x % 256 = x % 256 := by unfold wrap64; omega
theorem rcO_sector {rs : List (List UInt8)} (n : Int) (h : rs.getD 0 [] = sectorB n) : rcO rs = false := by
  rw [← Bool.not_eq_true]
  intro hr
  obtain ⟨h0, h1, h2⟩ := rcO_head hr
  rw [h] at h0 h1 h2
  unfold sectorB at h0 h1 h2
  split at h0
  · exact absurd h0 (by decide)
  · rename_i hs
    rw [if_neg hs] at h1 h2
    have g : ∀ k, k < 32 → ((List.range 32).map (secU n)).getD k 0 = secU n k := fun k hk => by simp [List.getD_eq_getElem?_getD, hk]
    rw [g 0 (by omega)] at h0
    rw [g 1 (by omega)] at h1
    rw [g 2 (by omega)] at h2
    have v0 := secU_val n 0
    have v1 := secU_val n 1
    have v2 := secU_val n 2
    rw [h0] at v0
    rw [h1] at v1
    rw [h2] at v2
    unfold secI at v0 v1 v2
    rw [wrap64_mod] at v0 v1 v2
    have e : ∀ m x : Int, (n + wrap64 (m * x)) % 256 = (n + m * x) % 256 := fun m x => by have := wrap64_mod (m * x); omega
    rw [e] at v0 v1 v2
    generalize bits .or .i64 (n.tdiv 7) 1 = m at v0 v1 v2
    have u0 : ((87 : UInt8).toNat : Int) = 87 := rfl
    have u1 : ((82 : UInt8).toNat : Int) = 82 := rfl
    have u2 : ((69 : UInt8).toNat : Int) = 69 := rfl
    rw [u0] at v0
    rw [u1] at v1
    rw [u2] at v2
    omega
theorem recF_28 (x y : List UInt8) : ((recB 168496141 [⟨2, 40, x⟩, ⟨7, 36, y⟩]).getD 0 []).take 28 = [87, 82, 69, 67, 10, 11, 12, 13, 2, 2, 40, 7, 36, 0, 0, 0, 0, 0, 0, 0, 0, 0, 0, 0, 0, 0, 0, 0] := by
  rw [recB_get0]
  unfold stamped
  rw [List.take_append_of_le_length (by rw [List.length_take, fullB_len (by simp)]; omega), List.take_take]
  show List.take 28 (fullB 168496141 [⟨2, 40, []⟩, ⟨7, 36, []⟩]) = _
  decide
theorem recF_get (x y : List UInt8) : (recB 168496141 [⟨2, 40, x⟩, ⟨7, 36, y⟩]).getD 1 [] = x ∧ (recB 168496141 [⟨2, 40, x⟩, ⟨7, 36, y⟩]).getD 2 [] = y ∧ (recB 168496141 [⟨2, 40, x⟩, ⟨7, 36, y⟩]).getD 3 [] = z32 := ⟨rfl, rfl, rfl⟩
theorem recF_ok (x y : List UInt8) (hx : x.length = 32) (hy : y.length = 32) : recOk 168496141 [⟨2, 40, x⟩, ⟨7, 36, y⟩] = true := by
  refine (recOk_iff _ _).2 ⟨⟨by omega, by omega, by simp⟩, (fineN_iff _ _).2 fun k hk => ?_⟩
  match k, hk with
  | 0, _ => exact ⟨(mayB_iff _).2 (show (0 : Int) ≤ 2 ∧ (2 : Int) < 8 ∧ (36 : Int) ≤ 40 ∧ (40 : Int) < 52 ∧ x.length = 32 from ⟨by omega, by omega, by omega, by omega, hx⟩), fun j hj => absurd hj (Nat.not_lt_zero _)⟩
  | 1, _ => exact ⟨(mayB_iff _).2 (show (0 : Int) ≤ 7 ∧ (7 : Int) < 8 ∧ (36 : Int) ≤ 36 ∧ (36 : Int) < 52 ∧ y.length = 32 from ⟨by omega, by omega, by omega, by omega, hy⟩), fun j hj => by
      obtain rfl : j = 0 := by omega
      rfl⟩
  | k + 2, h => exact absurd h (by simp)
/-- Four rows in a block. -/
theorem rdc_four {w : World} {g : Nat} {A A' A2 A3 : Option Addr} {bs bs' b2 b3 : List UInt8} {t : TypeId} {f : Nat × Nat} (hg : w.heap[g]? = some (.cells #[.slice A 32 32, .slice A' 32 32, .slice A2 32 32, .slice A3 32 32] t f)) (hn : bs.length = 32) (hn' : bs'.length = 32) (hn2 : b2.length = 32) (hn3 : b3.length = 32)
    (h : RdB w w.heap.size A bs) (h' : RdB w w.heap.size A' bs') (h2 : RdB w w.heap.size A2 b2) (h3 : RdB w w.heap.size A3 b3) : RdC w w.heap.size (some ⟨g, 0, none⟩) [bs, bs', b2, b3] := by
  refine ⟨by simp, fun _ => ⟨g, 0, rfl, (Array.getElem?_eq_some_iff.1 hg).1, fun k hk => ?_⟩⟩
  obtain rfl | rfl | rfl | rfl : k = 0 ∨ k = 1 ∨ k = 2 ∨ k = 3 := by simp at hk; omega
  · exact ⟨A, 32, by rw [Nat.zero_add, cell_of_row w g 0 _ t f hg]; show _ = some (Value.slice A bs.length 32); rw [hn]; rfl, by show bs.length ≤ 32; omega, h⟩
  · exact ⟨A', 32, by rw [Nat.zero_add, cell_of_row w g 1 _ t f hg]; show _ = some (Value.slice A' bs'.length 32); rw [hn']; rfl, by show bs'.length ≤ 32; omega, h'⟩
  · exact ⟨A2, 32, by rw [Nat.zero_add, cell_of_row w g 2 _ t f hg]; show _ = some (Value.slice A2 b2.length 32); rw [hn2]; rfl, by show b2.length ≤ 32; omega, h2⟩
  · exact ⟨A3, 32, by rw [Nat.zero_add, cell_of_row w g 3 _ t f hg]; show _ = some (Value.slice A3 b3.length 32); rw [hn3]; rfl, by show b3.length ≤ 32; omega, h3⟩
/-- Sectors that are no Record's. -/
theorem decode_none (A : Option Addr) (n c : Nat) (rs : List (List UInt8)) (w : World) (hn : rs.length = n) (hnc : n ≤ c) (h : RdC w w.heap.size A rs) (hr : rcO rs = false) (ht : TabOk w) :
    Calls Tryd.prog 13 #[.slice A n c] w fun e w' => ∃ A' c', e = .returned (.tuple #[.agg #[.int .i64 0, .slice A' 0 c'], .int .i64 2]) ∧ Below w.heap.size w w' := by
  have h0 := decode_any A n c rs w hn hnc h ht
  rw [show rcS rs = 0 from by unfold rcS; rw [hr]; rfl, show rcL rs = [] from by unfold rcL; rw [hr]; rfl, show rcE rs = 2 from by unfold rcE; rw [hr]; rfl] at h0
  refine h0.mono ?_
  rintro e w' ⟨v, rfl, ho, hb⟩
  obtain ⟨A', c', rfl, _, _⟩ := ho.rd
  exact ⟨A', c', rfl, hb⟩
/-- The same bytes at two places. -/
theorem same_yes (A A' : Option Addr) (n c c' B : Nat) (bs : List UInt8) (w : World) (hn : bs.length = n) (hr : RdB w B A bs) (hr' : RdB w B A' bs) :
    Calls Tryd.prog 10 #[.slice A n c, .slice A' n c'] w fun e w' => e = .returned (.bool true) ∧ Below w.heap.size w w' := by
  have h := same_below A A' n n c c' B bs bs w hn.symm hn.symm hr hr'
  rwa [decide_eq_true rfl] at h
end Go.Proofs.YtfgiomidlfoonaaDoor
