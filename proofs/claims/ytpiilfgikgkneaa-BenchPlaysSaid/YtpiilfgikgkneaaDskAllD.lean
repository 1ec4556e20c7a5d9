/- disk.Damage, told for whatever arguments. -/
import Derived.Test.YtpiilfgikgkneaaDskAll
import Derived.Test.YtpiilfgikgkneaaDskDmg
namespace Go.Proofs.Ytpiilfgikgkneaa
open Go.RowKit

theorem dsk_damage_any (B b : Nat) (pv : Value) (D : Dsk) (w : World) (h : DskAt w B b pv D) (k : Int) (x : List UInt8) (A : Option Addr) (n c : Nat) (hn : n = x.length) (hk : -9223372036854775808 ≤ k ∧ k ≤ 9223372036854775807) (hr : RdB w w.heap.size A x) (hps : D.ps.length ≤ 2000000) :
    Calls Try.prog 49 #[.pointer (some ⟨b, 0, none⟩), .int .i64 k, .slice A n c] w fun e w' => ∃ pv', e = .returned (.int .i64 (takeE D.f k n)) ∧ DskAt w' B b pv' (D.damageE k x) ∧ Chg (DF b pv) w w' ∧ NewOr w pv pv' := by
  subst hn
  unfold Dsk.damageE
  by_cases he : takeE D.f k x.length = 0
  · obtain ⟨hf, h0, h1, hl⟩ := takeE_zero he
    have e := dsk_damage_ok B b pv D w h k.toNat x A c hf (by omega) hl hr hps
    rw [Int.toNat_of_nonneg h0] at e
    rw [if_pos he, he, hl]
    exact e
  · rw [if_neg he]
    refine (dsk_damage_no B b pv D w h k A x.length c hk (by have := hr.1; omega) he).mono ?_
    rintro e w' ⟨rfl, hb⟩
    exact ⟨pv, rfl, h.below hb, chg_below _ hb, NewOr.refl _ _⟩
end Go.Proofs.Ytpiilfgikgkneaa
