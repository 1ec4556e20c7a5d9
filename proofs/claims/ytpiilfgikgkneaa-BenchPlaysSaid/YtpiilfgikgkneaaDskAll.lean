/- disk's calls, told for whatever arguments. -/
import Derived.Test.YtpiilfgikgkneaaDskWrite
import Derived.Test.YtpiilfgikgkneaaDskRest
import Derived.Test.YtpiilfgikgkneaaDskCrash
namespace Go.Proofs.Ytpiilfgikgkneaa
open Go.RowKit

def Dsk.writeE (D : Dsk) (k : Int) (x : List UInt8) : Dsk := if takeE D.f k x.length = 0 then D.write k.toNat x else D
def Dsk.damageE (D : Dsk) (k : Int) (x : List UInt8) : Dsk := if takeE D.f k x.length = 0 then D.damage k.toNat x else D
def Dsk.flushE (D : Dsk) : Dsk := if D.f = true then D else D.flush
def Dsk.readE (D : Dsk) (k : Int) : List UInt8 := if reachE D.f k = 0 then secAt D.now k.toNat else []
theorem takeE_zero {f : Bool} {k : Int} {n : Nat} (h : takeE f k n = 0) : f = false ∧ 0 ≤ k ∧ k < 52 ∧ n = 32 := by
  unfold takeE reachE at h
  cases f
  · by_cases h1 : k < 0 ∨ 52 ≤ k
    · simp [h1] at h
    · by_cases h2 : n = 32
      · exact ⟨rfl, by omega, by omega, h2⟩
      · simp [h1, h2] at h
  · simp at h
theorem reachE_zero {f : Bool} {k : Int} (h : reachE f k = 0) : f = false ∧ 0 ≤ k ∧ k < 52 := by
  unfold reachE at h
  cases f
  · by_cases h1 : k < 0 ∨ 52 ≤ k
    · simp [h1] at h
    · exact ⟨rfl, by omega, by omega⟩
  · simp at h
theorem takeE_ok {k : Int} (h0 : 0 ≤ k) (h1 : k < 52) : takeE false k 32 = 0 := by
  unfold takeE reachE; simp; omega
theorem reachE_ok {k : Int} (h0 : 0 ≤ k) (h1 : k < 52) : reachE false k = 0 := by
  unfold reachE; simp; omega
theorem reachE_fail (k : Int) : reachE true k = 5 := by unfold reachE; simp
theorem takeE_fail (k : Int) (n : Nat) : takeE true k n = 5 := by unfold takeE reachE; simp
theorem reachE_range {k : Int} (h : k < 0 ∨ 52 ≤ k) : reachE false k = 4 := by unfold reachE; simp [h]
theorem takeE_range {k : Int} (n : Nat) (h : k < 0 ∨ 52 ≤ k) : takeE false k n = 4 := by unfold takeE reachE; simp [h]
theorem takeE_arg {k : Int} {n : Nat} (h0 : 0 ≤ k) (h1 : k < 52) (hn : n ≠ 32) : takeE false k n = 1 := by
  unfold takeE
  rw [reachE_ok h0 h1]; simp [hn]
namespace Dsk
theorem writeE_f (D : Dsk) (k : Int) (x : List UInt8) : (D.writeE k x).f = D.f := by unfold writeE; split <;> rfl
theorem damageE_f (D : Dsk) (k : Int) (x : List UInt8) : (D.damageE k x).f = D.f := by unfold damageE; split <;> rfl
theorem flushE_f (D : Dsk) : D.flushE.f = D.f := by unfold flushE; split <;> rfl
theorem writeE_len (D : Dsk) (k : Int) (x : List UInt8) : (D.writeE k x).ps.length ≤ D.ps.length + 1 := by unfold writeE; split <;> simp [Dsk.write]
theorem damageE_len (D : Dsk) (k : Int) (x : List UInt8) : (D.damageE k x).ps.length ≤ D.ps.length := by
  unfold damageE; split
  · exact List.length_filter_le _ _
  · exact Nat.le_refl _
theorem flushE_len (D : Dsk) : D.flushE.ps.length ≤ D.ps.length := by unfold flushE; split <;> simp [Dsk.flush]
end Dsk
section
variable (B b : Nat) (pv : Value) (D : Dsk) (w : World) (h : DskAt w B b pv D)
include h
theorem dsk_write_any (k : Int) (x : List UInt8) (A : Option Addr) (n c : Nat) (hn : n = x.length) (hk : -9223372036854775808 ≤ k ∧ k ≤ 9223372036854775807) (hr : RdB w w.heap.size A x) (hps : D.ps.length ≤ 2000000) :
    Calls Try.prog 40 #[.pointer (some ⟨b, 0, none⟩), .int .i64 k, .slice A n c] w fun e w' => ∃ pv', e = .returned (.int .i64 (takeE D.f k n)) ∧ DskAt w' B b pv' (D.writeE k x) ∧ Chg (DF b pv) w w' ∧ NewOr w pv pv' := by
  subst hn
  unfold Dsk.writeE
  by_cases he : takeE D.f k x.length = 0
  · obtain ⟨hf, h0, h1, hl⟩ := takeE_zero he
    have e := dsk_write_ok B b pv D k.toNat x A c w h hf (by omega) hl hr hps
    rw [Int.toNat_of_nonneg h0] at e
    rw [if_pos he, he, hl]
    exact e
  · rw [if_neg he]
    refine (dsk_write_no B b pv D w h k A x.length c hk (by have := hr.1; omega) he).mono ?_
    rintro e w' ⟨rfl, rfl⟩
    exact ⟨pv, rfl, h, Chg.refl _ _, NewOr.refl _ _⟩
theorem dsk_flush_any : Calls Try.prog 48 #[.pointer (some ⟨b, 0, none⟩)] w fun e w' => ∃ pv', e = .returned (.int .i64 (if D.f = true then 5 else 0)) ∧ DskAt w' B b pv' D.flushE ∧ Chg (DF b pv) w w' ∧ NewOr w pv pv' := by
  unfold Dsk.flushE
  by_cases hf : D.f = true
  · rw [if_pos hf, if_pos hf]
    refine (dsk_flush_no B b pv D w h hf).mono ?_
    rintro e w' ⟨rfl, rfl⟩
    exact ⟨pv, rfl, h, Chg.refl _ _, NewOr.refl _ _⟩
  · rw [if_neg hf, if_neg hf]
    refine (dsk_flush_ok B b pv D w h (by simpa using hf)).mono ?_
    rintro e w' ⟨rfl, h1, h2⟩
    exact ⟨_, rfl, h1, h2, NewOr.none _ _⟩
theorem dsk_read_any (k : Int) (hk : -9223372036854775808 ≤ k ∧ k ≤ 9223372036854775807) :
    Calls Try.prog 44 #[.pointer (some ⟨b, 0, none⟩), .int .i64 k] w fun e w' => ∃ v, e = .returned (.tuple #[v, .int .i64 (reachE D.f k)]) ∧ OwB 5 w' w.heap.size v (D.readE k) ∧ Below w.heap.size w w' := by
  unfold Dsk.readE
  by_cases he : reachE D.f k = 0
  · obtain ⟨hf, h0, h1⟩ := reachE_zero he
    have e := dsk_read_ok B b pv D w h k.toNat (by omega) hf
    rw [Int.toNat_of_nonneg h0] at e
    rw [if_pos he, he]
    exact e
  · rw [if_neg he]
    refine (dsk_read_no B b pv D w h k hk he).mono ?_
    rintro e w' ⟨rfl, rfl⟩
    exact ⟨_, rfl, OwB.nil _ _ _, Below.refl _ _⟩
end
theorem sec_zero {k : Nat} (hk : k < 52) : secAt zeroS k = List.replicate 32 0 := by
  unfold secAt zeroS
  rw [List.drop_replicate, List.take_replicate]
  congr 1
  omega
theorem new_now : Dsk.new.now = zeroS := rfl
end Go.Proofs.Ytpiilfgikgkneaa
