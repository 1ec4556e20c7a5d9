/- Two geometries that a reshape can go between: what plan's calls tell of them, and the document's Capacity; two boxes that hold them. -/
import Derived.Test.YtabeadbnoifedaaPlanSpan
import Derived.Test.YtabeadbnoifedaaRefPlan
import Derived.Test.YtabeadbnoifedaaPlayPair
set_option maxRecDepth 20000
set_option linter.unusedVariables false
set_option linter.unusedSimpArgs false
namespace Go.Proofs.Ytabeadbnoifedaa
open Go.RowKit

/-- The cursor behind k windows. -/
def pnX (R wa wb k : Int) : Int := if k * (R * wb) ≤ wa * 16 then k * (R * wb) else wa * 16
section
variable {l d c l' d' c' R K wa wb : Int}
theorem Pn.bd (P : Pn l d c l' d' c' R K wa wb) : (-9223372036854775808 ≤ l ∧ l ≤ 9223372036854775807) ∧ (-9223372036854775808 ≤ d ∧ d ≤ 9223372036854775807) ∧ (-9223372036854775808 ≤ c ∧ c ≤ 9223372036854775807) ∧ (-9223372036854775808 ≤ l' ∧ l' ≤ 9223372036854775807) ∧ (-9223372036854775808 ≤ d' ∧ d' ≤ 9223372036854775807) ∧ (-9223372036854775808 ≤ c' ∧ c' ≤ 9223372036854775807) := by
  have h1 := gOk_bd P.a
  have h2 := gOk_bd P.b
  omega
theorem Pn.mul (P : Pn l d c l' d' c' R K wa wb) {k : Int} (k0 : 0 ≤ k) (k1 : k ≤ 17) : 0 ≤ k * (R * wb) ∧ k * (R * wb) ≤ 476 := by
  have h := P.n_bd
  exact mul_bd28 k0 k1 (by omega) (by omega)
theorem Pn.mulR (P : Pn l d c l' d' c' R K wa wb) {k : Int} (k0 : 0 ≤ k) (k1 : k ≤ 17) : 0 ≤ k * R ∧ k * R ≤ 476 := by
  have h := P.rows
  exact mul_bd28 k0 k1 (by omega) (by omega)
theorem Pn.prows (P : Pn l d c l' d' c' R K wa wb) (w : World) :
    Calls Try.prog 8 #[.agg #[.int .i64 l, .int .i64 d, .int .i64 c], .agg #[.int .i64 l', .int .i64 d', .int .i64 c']] w fun e w' => e = .returned (.int .i64 R) ∧ Below w.heap.size w w' := by
  obtain ⟨b1, b2, b3, b4, b5, b6⟩ := P.bd
  have h := planRows_any l d c l' d' c' w b1 b2 b3 b4 b5 b6
  rwa [P.eR] at h
theorem Pn.pwins (P : Pn l d c l' d' c' R K wa wb) (w : World) :
    Calls Try.prog 9 #[.agg #[.int .i64 l, .int .i64 d, .int .i64 c], .agg #[.int .i64 l', .int .i64 d', .int .i64 c']] w fun e w' => e = .returned (.int .i64 K) ∧ Below w.heap.size w w' := by
  obtain ⟨b1, b2, b3, b4, b5, b6⟩ := P.bd
  have h := planWindows_any l d c l' d' c' w b1 b2 b3 b4 b5 b6
  rwa [P.eK] at h
theorem Pn.pspan (P : Pn l d c l' d' c' R K wa wb) {k : Int} (k0 : 0 ≤ k) (k1 : k < K) (w : World) :
    Calls Try.prog 10 #[.agg #[.int .i64 l, .int .i64 d, .int .i64 c], .agg #[.int .i64 l', .int .i64 d', .int .i64 c'], .int .i64 k] w fun e w' => e = .returned (.tuple #[.int .i64 (k * (R * wb)), .int .i64 ((k + 1) * (R * wb))]) ∧ Below w.heap.size w w' := by
  obtain ⟨b1, b2, b3, b4, b5, b6⟩ := P.bd
  have hK := P.rows
  have h := planSpan_any l d c l' d' c' k w b1 b2 b3 b4 b5 b6 (by omega)
  have hs : pnSok l d c l' d' c' k = true := by unfold pnSok; rw [P.eK]; exact decide_eq_true ⟨k0, k1⟩
  have e1 : pnF l d c l' d' c' k = k * (R * wb) := by unfold pnF; rw [if_pos hs, P.n]
  have e2 : pnT l d c l' d' c' k = (k + 1) * (R * wb) := by unfold pnT; rw [if_pos hs, P.n]
  rwa [e1, e2] at h
theorem Pn.capA (P : Pn l d c l' d' c' R K wa wb) : gCap l d c = wa * 16 := by unfold gCap; rw [P.gw]
theorem Pn.capB (P : Pn l d c l' d' c' R K wa wb) : gCap l' d' c' = wb * 16 := by unfold gCap; rw [P.gw']
theorem Pn.pcur (P : Pn l d c l' d' c' R K wa wb) {k : Int} (k0 : 0 ≤ k) (k1 : k ≤ K) (w : World) :
    Calls Try.prog 11 #[.agg #[.int .i64 l, .int .i64 d, .int .i64 c], .agg #[.int .i64 l', .int .i64 d', .int .i64 c'], .int .i64 k] w fun e w' => e = .returned (.int .i64 (pnX R wa wb k)) ∧ Below w.heap.size w w' := by
  obtain ⟨b1, b2, b3, b4, b5, b6⟩ := P.bd
  have hK := P.rows
  have h := planCursor_any l d c l' d' c' k w b1 b2 b3 b4 b5 b6 (by omega)
  have hs : pnCok l d c l' d' c' k = true := by unfold pnCok; rw [P.eK]; exact decide_eq_true ⟨k0, k1⟩
  have e1 : pnC l d c l' d' c' k = pnX R wa wb k := by unfold pnC pnX; rw [if_pos hs, P.n, P.capA]
  rwa [e1] at h
theorem Pn.rcapA (P : Pn l d c l' d' c' R K wa wb) (w : World) :
    Calls Try.prog 19 #[.agg #[.int .i64 l, .int .i64 d, .int .i64 c]] w fun e w' => e = .returned (.int .i64 (wa * 16)) ∧ Below w.heap.size w w' := by
  obtain ⟨b1, b2, b3, b4, b5, b6⟩ := P.bd
  have h := refCapacity_any l d c w b1 b2 b3
  rwa [P.capA] at h
theorem Pn.rcapB (P : Pn l d c l' d' c' R K wa wb) (w : World) :
    Calls Try.prog 19 #[.agg #[.int .i64 l', .int .i64 d', .int .i64 c']] w fun e w' => e = .returned (.int .i64 (wb * 16)) ∧ Below w.heap.size w w' := by
  obtain ⟨b1, b2, b3, b4, b5, b6⟩ := P.bd
  have h := refCapacity_any l' d' c' w b4 b5 b6
  rwa [P.capB] at h
theorem Pn.cur (P : Pn l d c l' d' c' R K wa wb) {k : Int} (k0 : 0 ≤ k) (k1 : k ≤ 17) :
    0 ≤ pnX R wa wb k ∧ pnX R wa wb k ≤ wa * 16 ∧ ∀ i, i < wa * 16 → (i < pnX R wa wb k ↔ i < k * (R * wb)) := by
  have h1 := P.wc
  have h2 := P.mul k0 k1
  unfold pnX
  split
  · exact ⟨by omega, by omega, fun i hi => Iff.rfl⟩
  · exact ⟨by omega, by omega, fun i hi => ⟨fun _ => by omega, fun _ => hi⟩⟩
end
theorem Pn.up {l d c l' d' c' R K wa wb : Int} (P : Pn l d c l' d' c' R K wa wb) {k : Int} (k0 : 1 ≤ k) (k1 : k ≤ 17) : pnX R wa wb (k - 1) ≤ pnX R wa wb k := by
  have h1 := P.wc
  have h2 := P.mul (k := k - 1) (by omega) (by omega)
  have h3 : k * (R * wb) = (k - 1) * (R * wb) + R * wb := by rw [Int.sub_mul]; omega
  have h4 := P.n_bd
  unfold pnX
  split <;> split <;> omega
theorem Pn.cur0 {l d c l' d' c' R K wa wb : Int} (P : Pn l d c l' d' c' R K wa wb) : pnX R wa wb 0 = 0 := by
  have h1 := P.wc
  unfold pnX
  rw [Int.zero_mul, if_pos (by omega)]
theorem Pn.curK {l d c l' d' c' R K wa wb : Int} (P : Pn l d c l' d' c' R K wa wb) : pnX R wa wb K = wa * 16 := by
  have h1 := P.n_bd.2.2
  have h2 := P.le
  have h3 : K * (R * wb) = 16 * wb := by rw [Int.mul_comm]; exact h1
  unfold pnX
  rw [h3]
  split <;> omega
theorem gs2_pair {w w1 : World} (hb : Below w.heap.size w w1) (l d c l' d' c' : Int) (t t' : TypeId) (f f' : Nat × Nat) :
    GS2 w w.heap.size w1.heap.size (w1.heap.size + 1) l d c l' d' c' ((w1.alloc (.cells #[.int .i64 l, .int .i64 d, .int .i64 c] t f)).alloc (.cells #[.int .i64 l', .int .i64 d', .int .i64 c'] t' f')) := by
  have S := gs2_start w1 l d c l' d' c' t t' f f'
  exact ⟨S.1, S.2.1, S.2.2.1, S.2.2.2.1, S.2.2.2.2.1, S.2.2.2.2.2.1, hb.trans (S.2.2.2.2.2.2.mono hb.size)⟩
end Go.Proofs.Ytabeadbnoifedaa
