/- Texts put together: StpLawKit, StpOneMath, KsFar. -/
import Derived.Test.YtldfoadildaljaaGreatWcbf
import Derived.Test.YtldfoadildaljaaGreatWcbc
import Derived.Test.YtldfoadildaljaaGreatWcbe
import Derived.Test.YtldfoadildaljaaGreatWcbd
import Derived.Test.YtldfoadildaljaaGreatWcam
import Derived.Test.YtldfoadildaljaaGreatWcax
section
set_option maxRecDepth 20000
set_option linter.unusedVariables false
set_option linter.unusedSimpArgs false
namespace Go.Proofs.YtldfoadildaljaaGreat
open Go.RowKit

section
variable {W w : World} {b : Nat} {H : BH} {N : Bch} {K : List (Nat × Obj)} {R : List (Option Addr × List (List UInt8))} {S : List (Option Addr × List UInt8)} (h : KS W w b H N K R S)
include h
theorem ks_data {n l c r : Int} {D F Wd : Nat} (gr : Gr n l c r D F Wd) (ρ : Nat) (hρ : ρ ≤ 1000) {A : Option Addr} {zs : List Int} (m cp : Nat) (hm : m = zs.length) (hcp : zs.length ≤ cp) (hz : RdZ W W.heap.size A zs) :
    Calls Tryz.prog 18 #[.agg #[.int .i64 l, .int .i64 (D : Int), .int .i64 c], .int .i64 (ρ : Int), .slice A m cp] w fun e w' => ∃ A' c', e = .returned (.slice A' Wd c') ∧ KS W w' b H N K ((A', datL zs ρ Wd) :: R) S := by
  refine (data_any gr ρ hρ A zs m cp w hm hcp (h.rdz hz)).mono ?_
  rintro e w' ⟨v, rfl, ho, hb⟩
  obtain ⟨A', c', rfl, k⟩ := h.owv hb ho (by rw [datL_len]; have := gr.w7; omega)
  rw [datL_len]
  exact ⟨A', c', rfl, k⟩
end
theorem live0 {d i : Nat} (hi : i < d) : (liveL 0 d).getD i false = true := by
  rw [liveL_get 0 hi]
  unfold liveB
  rw [if_neg, if_neg]
  · rintro ⟨h, _⟩; revert h; decide
  · rintro ⟨h, _⟩; revert h; decide
end Go.Proofs.YtldfoadildaljaaGreat
end
section
set_option linter.unusedVariables false
set_option linter.unusedSimpArgs false
namespace Go.Proofs.YtldfoadildaljaaGreat
open Go.RowKit

/-- Where the number of a row's data chunk is. -/
theorem num_place {n l c : Int} {ρ D F W k : Nat} (gr : Gr n l c (ρ : Int) D F W) (hk : k < W) : plOfOk l (D : Int) c (plN l (D : Int) c (ρ : Int) (k : Int)) = true ∧ plOfD l (D : Int) c (plN l (D : Int) c (ρ : Int) (k : Int)) = ((roS D F k : Nat) : Int) ∧ plOfR l (D : Int) c (plN l (D : Int) c (ρ : Int) (k : Int)) = (ρ : Int) ∧ kOf l (D : Int) c (plN l (D : Int) c (ρ : Int) (k : Int)) = k := by
  have hg := (plOk_yes gr.ok).1
  have hwd := gr.wd
  have hw : gWid l (D : Int) c = (D : Int) - (l - 4) := gWid_yes hg
  have hd := plDok_mk (k := (k : Int)) gr.ok (by omega) (by omega)
  obtain ⟨h1, h2, h3⟩ := of_num hd
  have hp := gr.R.pD k (by rw [gr.eW]; exact hk)
  rw [gr.eD, gr.eF] at hp
  refine ⟨h1, h2.trans hp, h3, ?_⟩
  have := (num_row hd).2.2.2
  unfold kOf
  rw [this]; omega
theorem one_own {N : Bch} {lv : List Bool} {n l c : Int} {ρ D F W k : Nat} (gr : Gr n l c (ρ : Int) D F W) (hk : k < W) (hd : N.down = false) (hs : srvD N lv (roS D F k) = true) : soneE N lv l (D : Int) c (plN l (D : Int) c (ρ : Int) (k : Int)) = 0 ∧ soneB N lv l (D : Int) c (plN l (D : Int) c (ρ : Int) (k : Int)) = secAt (N.D (roS D F k)).now (36 + ρ) := by
  obtain ⟨h1, h2, h3, _⟩ := num_place gr hk
  have h := soneE_own (N := N) (lv := lv) h1 (by rw [h2]; exact hs)
  rw [hd, h2, h3] at h
  exact h
theorem one_row {N : Bch} {lv : List Bool} {n l c : Int} {ρ D F W k : Nat} (gr : Gr n l c (ρ : Int) D F W) (hk : k < W) (hs : srvD N lv (roS D F k) = false) : soneE N lv l (D : Int) c (plN l (D : Int) c (ρ : Int) (k : Int)) = srdE N lv l (D : Int) c (ρ : Int) ∧ soneB N lv l (D : Int) c (plN l (D : Int) c (ρ : Int) (k : Int)) = if srdE N lv l (D : Int) c (ρ : Int) ≠ 0 then [] else (srdL N lv l (D : Int) c (ρ : Int)).getD k [] := by
  obtain ⟨h1, h2, h3, h4⟩ := num_place gr hk
  have h := soneE_row (N := N) (lv := lv) h1 (by rw [h2]; exact hs)
  rw [h3, h4] at h
  exact h
/-- One by one: each sector of a row that is told. -/
theorem Std.one {N : Bch} {lv : List Bool} {n l c : Int} {m ρ D F W k : Nat} {fl : Nat → List (List UInt8)} {rs : List (List UInt8)} (h : Std N m D fl) (gr : Gr n l c (ρ : Int) D F W) (hρ : ρ < 16) (hrs : rs.length = W) (hfl : fl ρ = fillL D F rs) (hE : srdE N lv l (D : Int) c (ρ : Int) = 0 ∧ srdL N lv l (D : Int) c (ρ : Int) = rs) (hk : k < W) :
    soneE N lv l (D : Int) c (plN l (D : Int) c (ρ : Int) (k : Int)) = 0 ∧ soneB N lv l (D : Int) c (plN l (D : Int) c (ρ : Int) (k : Int)) = rs.getD k [] := by
  have hW := gr.hW
  cases hs : srvD N lv (roS D F k) with
  | true =>
    obtain ⟨h1, h2⟩ := one_own gr hk h.dn hs
    refine ⟨h1, h2.trans ?_⟩
    rw [h.at' _ (roS_lt gr.hF (by omega)) ρ hρ (srvD_yes hs).2.2, hfl, fillL_at gr.hF (by omega), allL_data (by omega)]
  | false =>
    obtain ⟨h1, h2⟩ := one_row (N := N) (lv := lv) gr hk hs
    rw [hE.1] at h1 h2
    rw [if_neg (by simp), hE.2] at h2
    exact ⟨h1, h2⟩
end Go.Proofs.YtldfoadildaljaaGreat
end
section
set_option maxRecDepth 20000
set_option linter.unusedVariables false
set_option linter.unusedSimpArgs false
namespace Go.Proofs.YtldfoadildaljaaGreat
open Go.RowKit

section
variable {W w w' : World} {b : Nat} {H : BH} {N : Bch} {K : List (Nat × Obj)} {R : List (Option Addr × List (List UInt8))} {S : List (Option Addr × List UInt8)}
end
end Go.Proofs.YtldfoadildaljaaGreat
end
