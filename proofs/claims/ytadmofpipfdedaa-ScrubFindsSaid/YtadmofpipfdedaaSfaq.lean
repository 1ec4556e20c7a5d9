/- Texts put together: RowRight, RowWakes. -/
import Derived.Test.YtadmofpipfdedaaSfan
import Derived.Test.YtadmofpipfdedaaSfae
import Derived.Test.YtadmofpipfdedaaSfai
import Derived.Test.YtadmofpipfdedaaSfam
import Derived.Test.YtadmofpipfdedaaSfah
import Derived.Test.YtadmofpipfdedaaSfaf
section
set_option maxRecDepth 8000
set_option linter.unusedVariables false
set_option linter.unusedSimpArgs false
namespace Go.Proofs.Ytadmofpipfdedaa
open Go.RowKit

theorem solveB_8 {N : Nat} {p q : List UInt8} {rs L : List (List UInt8)} (h : solveB N p q rs = some L) : L.length ≤ 8 := by
  unfold solveB at h
  split at h
  · next hc =>
    injection h with h
    simp only [Bool.and_eq_true] at hc
    have h8 : rs.length ≤ 8 := by
      have := hc.2
      unfold canB at this
      simp only [Bool.and_eq_true, decide_eq_true_eq] at this
      exact this.2.2
    have hf : (filledB N rs).length = rs.length := filledB_len _ _
    rw [← h]
    generalize missB rs = ms
    rcases ms with _ | ⟨i, _ | ⟨j, ms⟩⟩ <;> simp only [toldB, List.length_set] <;> omega
  · cases h
theorem roTake_8 {l d c r : Int} {xs L : List (List UInt8)} (h : roTake l d c r xs = some L) : L.length ≤ 8 := by
  unfold roTake at h
  split at h
  · exact solveB_8 h
  · cases h
theorem roFill_8 {l d c r : Int} {rs L : List (List UInt8)} (h : roFill l d c r rs = some L) : L.length ≤ 8 := by
  unfold roFill at h
  split at h
  · next hk =>
    injection h with h
    rw [← h, fillL_len]
    exact (ro_of (fillOk_yes hk).1).d8
  · cases h
set_option maxHeartbeats 800000 in
theorem right_any (A : Option Addr) (xs : List (List UInt8)) (n cp : Nat) (l d c r : Int) (w : World) (hn : xs.length = n) (hn8 : n ≤ 1000000) (hrd : RdR w w.heap.size A xs)
    (hl : -9223372036854775808 ≤ l ∧ l ≤ 9223372036854775807) (hd : -9223372036854775808 ≤ d ∧ d ≤ 9223372036854775807) (hc : -9223372036854775808 ≤ c ∧ c ≤ 9223372036854775807) (hr : -9223372036854775808 ≤ r ∧ r ≤ 9223372036854775807) :
    Calls Try.prog 58 #[.agg #[.int .i64 l, .int .i64 d, .int .i64 c], .int .i64 r, .slice A n cp] w fun e w' => e = .returned (.bool (roRight l d c r xs)) ∧ Below w.heap.size w w' := by
  have G := gat_new w l d c 25 (0, 0)
  have CT : Hid (∀ W, Below w.heap.size w W → Calls Try.prog 77 #[.agg #[.int .i64 l, .int .i64 d, .int .i64 c], .int .i64 r, .slice A n cp] W (SolveR W (roTake l d c r xs))) :=
    Lib.hid fun W hb => take_any A xs n cp l d c r W hn hn8 ((hrd.below hb (Nat.le_refl _)).more hb.size) hl hd hc hr
  have CF : Hid (∀ (g m cp : Nat) (L : List (List UInt8)) W, L.length = m → m ≤ 1000000 → RdR W W.heap.size (some ⟨g, 0, none⟩) L → Calls Try.prog 72 #[.agg #[.int .i64 l, .int .i64 d, .int .i64 c], .int .i64 r, .slice (some ⟨g, 0, none⟩) m cp] W (FillR W (roFill l d c r L))) :=
    Lib.hid fun g m cp L W h1 h2 h3 => fill_any _ L m cp l d c r W h1 h2 h3 hl hd hc hr
  have HR : Hid (∀ o, roTake l d c r xs = o → roRight l d c r xs = match (motive := Option (List (List UInt8)) → Bool) o with | none => false | some rs => decide (roFill l d c r rs = some xs)) := Lib.hid (fun o h => by subst h; rfl)
  have H8 := Lib.hid (fun L => @roTake_8 l d c r xs L)
  have Hr := Lib.hid hrd
  clear hrd
  rcases ht : roTake l d c r xs with _ | L
  · have H := Lib.hid (HR.out _ ht)
    rw [ht] at CT
    clear ht HR H8
    go_enter Try.func58, Try.ntmps58
    go_wp2_with fail
    (with_reducible refine (CT.out _ (below1 w _)).mono ?_); rintro e w1 hS
    obtain ⟨rfl, hb⟩ := SolveR.later (o := none) hS (below1 w _)
    go_wp2
    go_ret
    exact ⟨by rw [H.out]; rfl, hb⟩
  · have H := Lib.hid (HR.out _ ht)
    have h8 := H8.out L ht
    rw [ht] at CT
    clear ht HR H8
    rcases hf : roFill l d c r L with _ | f
    · have H2 : Hid (roRight l d c r xs = false) := Lib.hid (by rw [H.out]; simp only [hf]; rfl)
      have CF1 := Lib.hid (fun g m cp W h1 h2 h3 => CF.out g m cp L W h1 h2 h3)
      rw [hf] at CF1
      clear hf H CF
      go_enter Try.func58, Try.ntmps58
      go_wp2_with fail
      (with_reducible refine (CT.out _ (below1 w _)).mono ?_); rintro e w1 hS
      obtain ⟨g, c1, rfl, ho, hb⟩ := SolveR.later (o := some L) hS (below1 w _)
      have hb1 : Below (w.alloc (.cells #[.int .i64 l, .int .i64 d, .int .i64 c] 25)).heap.size (w.alloc (.cells #[.int .i64 l, .int .i64 d, .int .i64 c] 25)) w1 := by
        obtain ⟨_, _, _, _, h⟩ := hS; exact h
      obtain ⟨g1, g2, g3⟩ := G.below hb1 (by simp)
      clear hS hb1
      go_wp2_with fail
      (with_reducible refine (CF1.out g L.length c1 w1 rfl (by omega) (ho.rdr (by omega))).mono ?_); rintro e w2 ⟨rfl, hb2⟩
      go_wp2
      go_ret
      exact ⟨by rw [H2.out]; rfl, hb.trans (hb2.mono hb.size)⟩
    · have hfl := roFill_8 hf
      have H2 : Hid (roRight l d c r xs = decide (f = xs)) := Lib.hid (by
        rw [H.out]; simp only [hf]
        by_cases e : f = xs
        · rw [decide_eq_true e, decide_eq_true (by rw [e])]
        · rw [decide_eq_false e, decide_eq_false (fun h => e (by injection h))])
      have CF1 := Lib.hid (fun g m cp W h1 h2 h3 => CF.out g m cp L W h1 h2 h3)
      rw [hf] at CF1
      clear hf H CF
      go_enter Try.func58, Try.ntmps58
      go_wp2_with fail
      (with_reducible refine (CT.out _ (below1 w _)).mono ?_); rintro e w1 hS
      obtain ⟨g, c1, rfl, ho, hb⟩ := SolveR.later (o := some L) hS (below1 w _)
      have hb1 : Below (w.alloc (.cells #[.int .i64 l, .int .i64 d, .int .i64 c] 25)).heap.size (w.alloc (.cells #[.int .i64 l, .int .i64 d, .int .i64 c] 25)) w1 := by
        obtain ⟨_, _, _, _, h⟩ := hS; exact h
      obtain ⟨g1, g2, g3⟩ := G.below hb1 (by simp)
      clear hS hb1
      go_wp2_with fail
      (with_reducible refine (CF1.out g L.length c1 w1 rfl (by omega) (ho.rdr (by omega))).mono ?_); rintro e w2 ⟨g4, vs, rfl, hq, hb2⟩
      have F2 := hb.trans (hb2.mono hb.size)
      have hf8 : f.length ≤ 1000000 := by omega
      have CE := Lib.hid (equalR_any _ A f.length n f.length cp f xs w2 rfl hn (hq.rdr hf8) ((Hr.out.below F2 (Nat.le_refl _)).more F2.size))
      clear hq
      go_wp2_with fail
      (with_reducible refine CE.out.mono ?_); rintro e w3 ⟨rfl, hb3⟩
      go_wp2
      go_ret
      exact ⟨by rw [H2.out]; rfl, F2.trans (hb3.mono F2.size)⟩
end Go.Proofs.Ytadmofpipfdedaa
end
section
set_option maxRecDepth 8000
set_option linter.unusedVariables false
set_option linter.unusedSimpArgs false
namespace Go.Proofs.Ytadmofpipfdedaa
open Go.RowKit

end Go.Proofs.Ytadmofpipfdedaa
end
