/- Texts put together: PlaceBackMath, PlaceAll, Place, PlaceDisk, OwnInt, GeoCap, LawArgs. -/
import Derived.Test.YtadmofpipfdedaaRqaa
import Derived.Test.YtadmofpipfdedaaProg
import Derived.Deep.Grids
section
namespace Go.Proofs.Ytadmofpipfdedaa

end Go.Proofs.Ytadmofpipfdedaa
end
section
namespace Go.Proofs.Ytadmofpipfdedaa

theorem plDok_mk {l d c r k : Int} (h : plOk l d c r = true) (k0 : 0 ≤ k) (k1 : k < d - (l - 4)) : plDok l d c r k = true := by
  unfold plDok
  rw [h, gWid_yes (plOk_yes h).1, decide_eq_true ⟨k0, k1⟩]; rfl
end Go.Proofs.Ytadmofpipfdedaa
end
section
set_option linter.unusedVariables false
set_option linter.unusedSimpArgs false
namespace Go.Proofs.Ytadmofpipfdedaa
open Go.RowKit

theorem there_any (l d c r : Int) (w : World) (hl : (-9223372036854775808 ≤ l ∧ l ≤ 9223372036854775807)) (hd : (-9223372036854775808 ≤ d ∧ d ≤ 9223372036854775807)) (hc : (-9223372036854775808 ≤ c ∧ c ≤ 9223372036854775807)) (hr : (-9223372036854775808 ≤ r ∧ r ≤ 9223372036854775807)) :
    Calls Try.prog 96 #[.agg #[.int .i64 l, .int .i64 d, .int .i64 c], .int .i64 r] w fun e w' => e = .returned (.bool (plOk l d c r)) ∧ Below w.heap.size w w' := by
  have G := gat_new w l d c 25 (0, 0)
  cases hG : gOk l d c
  · have H : Hid (plOk l d c r = false) := plOk_no (by rw [hG]; simp)
    have HG := Lib.hid hG
    clear hG
    go_enter Try.func96, Try.ntmps96
    go_wp2_with fail
    (with_reducible refine (check_no l d c _ HG hl hd hc).mono ?_); rintro e w1 ⟨rfl, hb⟩
    have F := (below1 w _).trans (hb.mono (by simp))
    clear hb
    go_wp2_with fail
    go_ret
    exact ⟨by rw [H.out]; rfl, F⟩
  · have HG := Lib.hid hG
    by_cases h0 : 0 ≤ r
    · have e0 : decide (0 ≤ r) = true := decide_eq_true h0
      by_cases h1 : r < 16
      · have e1 : decide (r < 16) = true := decide_eq_true h1
        have H : Hid (plOk l d c r = true) := plOk_mk hG h0 h1
        clear hG
        go_enter Try.func96, Try.ntmps96
        go_wp2_with fail
        (with_reducible refine (check_yes l d c _ HG hl hd hc).mono ?_); rintro e w1 ⟨rfl, hb⟩
        have F := (below1 w _).trans (hb.mono (by simp))
        clear hb
        go_wp2_with fail
        go_ret
        exact ⟨by rw [H.out]; rfl, F⟩
      · have e1 : decide (r < 16) = false := decide_eq_false h1
        have H : Hid (plOk l d c r = false) := plOk_no (by omega)
        clear hG
        go_enter Try.func96, Try.ntmps96
        go_wp2_with fail
        (with_reducible refine (check_yes l d c _ HG hl hd hc).mono ?_); rintro e w1 ⟨rfl, hb⟩
        have F := (below1 w _).trans (hb.mono (by simp))
        clear hb
        go_wp2_with fail
        go_ret
        exact ⟨by rw [H.out]; rfl, F⟩
    · have e0 : decide (0 ≤ r) = false := decide_eq_false h0
      have H : Hid (plOk l d c r = false) := plOk_no (by omega)
      clear hG
      go_enter Try.func96, Try.ntmps96
      go_wp2_with fail
      (with_reducible refine (check_yes l d c _ HG hl hd hc).mono ?_); rintro e w1 ⟨rfl, hb⟩
      have F := (below1 w _).trans (hb.mono (by simp))
      clear hb
      go_wp2_with fail
      go_ret
      exact ⟨by rw [H.out]; rfl, F⟩
theorem there_yes (l d c r : Int) (w : World) (h : Hid (plOk l d c r = true)) (hl : (-9223372036854775808 ≤ l ∧ l ≤ 9223372036854775807)) (hd : (-9223372036854775808 ≤ d ∧ d ≤ 9223372036854775807)) (hc : (-9223372036854775808 ≤ c ∧ c ≤ 9223372036854775807)) (hr : (-9223372036854775808 ≤ r ∧ r ≤ 9223372036854775807)) :
    Calls Try.prog 96 #[.agg #[.int .i64 l, .int .i64 d, .int .i64 c], .int .i64 r] w fun e w' => e = .returned (.bool true) ∧ Below w.heap.size w w' := by
  have := there_any l d c r w hl hd hc hr
  rwa [h.out] at this
theorem there_no (l d c r : Int) (w : World) (h : Hid (plOk l d c r = false)) (hl : (-9223372036854775808 ≤ l ∧ l ≤ 9223372036854775807)) (hd : (-9223372036854775808 ≤ d ∧ d ≤ 9223372036854775807)) (hc : (-9223372036854775808 ≤ c ∧ c ≤ 9223372036854775807)) (hr : (-9223372036854775808 ≤ r ∧ r ≤ 9223372036854775807)) :
    Calls Try.prog 96 #[.agg #[.int .i64 l, .int .i64 d, .int .i64 c], .int .i64 r] w fun e w' => e = .returned (.bool false) ∧ Below w.heap.size w w' := by
  have := there_any l d c r w hl hd hc hr
  rwa [h.out] at this
theorem parity_any (l d c r : Int) (w : World) (hl : (-9223372036854775808 ≤ l ∧ l ≤ 9223372036854775807)) (hd : (-9223372036854775808 ≤ d ∧ d ≤ 9223372036854775807)) (hc : (-9223372036854775808 ≤ c ∧ c ≤ 9223372036854775807)) (hr : (-9223372036854775808 ≤ r ∧ r ≤ 9223372036854775807)) :
    Calls Try.prog 88 #[.agg #[.int .i64 l, .int .i64 d, .int .i64 c], .int .i64 r] w fun e w' => e = .returned (.tuple #[.int .i64 (plP l d c r), .int .i64 (plQ l d c r)]) ∧ Below w.heap.size w w' := by
  have G := gat_new w l d c 25 (0, 0)
  cases hT : plOk l d c r
  · have HP := Lib.hid (plP_no hT)
    have HQ := Lib.hid (plQ_no hT)
    have HT := Lib.hid hT
    clear hT
    go_enter Try.func88, Try.ntmps88
    go_wp2_with fail
    (with_reducible refine (there_no l d c r _ HT hl hd hc hr).mono ?_); rintro e w1 ⟨rfl, hb⟩
    have F := (below1 w _).trans (hb.mono (by simp))
    clear hb
    go_wp2_with fail
    go_ret2
    exact ⟨by rw [HP.out, HQ.out]; rfl, F⟩
  · have HT := Lib.hid hT
    obtain ⟨hg, h0, h1⟩ := plOk_yes hT
    have hb6 := gOk_bd hg
    have hq := quo_bd 16 h0 h1 (show 1 ≤ c by omega)
    have hm := rem_bd (r / c) (show 1 ≤ d by omega)
    have HP := Lib.hid (plP_yes hT)
    by_cases h6 : l = 6
    · subst h6
      have HQ := Lib.hid (plQ_6 hT)
      clear hT hg
      go_enter Try.func88, Try.ntmps88
      go_wp2_with fail
      (with_reducible refine (there_yes 6 d c r _ HT hl hd hc hr).mono ?_); rintro e w1 ⟨rfl, hb⟩
      have F := (below1 w _).trans (hb.mono (by simp))
      obtain ⟨g1, g2, g3⟩ := G.below hb (by simp)
      clear hb
      go_wp2_with fail
      go_quiet (fail)
      go_wp2_with fail
      go_quiet (fail)
      go_wp2
      go_ret2
      exact ⟨by rw [HP.out, HQ.out]; rfl, (F.trans (belowN _ _ _)).trans (belowN _ _ _)⟩
    · obtain rfl : l = 5 := by omega
      have HQ := Lib.hid (@plQ_5 d c r)
      clear hT hg h6
      go_enter Try.func88, Try.ntmps88
      go_wp2_with fail
      (with_reducible refine (there_yes 5 d c r _ HT hl hd hc hr).mono ?_); rintro e w1 ⟨rfl, hb⟩
      have F := (below1 w _).trans (hb.mono (by simp))
      obtain ⟨g1, g2, g3⟩ := G.below hb (by simp)
      clear hb
      go_wp2_with fail
      go_quiet (fail)
      go_wp2
      go_ret2
      exact ⟨by rw [HP.out, HQ.out]; rfl, F.trans (belowN _ _ _)⟩
end Go.Proofs.Ytadmofpipfdedaa
end
section
set_option linter.unusedVariables false
set_option linter.unusedSimpArgs false
namespace Go.Proofs.Ytadmofpipfdedaa
open Go.RowKit

theorem first_any (l d c r : Int) (w : World) (HT : Hid (plOk l d c r = true)) (hl : (-9223372036854775808 ≤ l ∧ l ≤ 9223372036854775807)) (hd : (-9223372036854775808 ≤ d ∧ d ≤ 9223372036854775807)) (hc : (-9223372036854775808 ≤ c ∧ c ≤ 9223372036854775807)) (hr : (-9223372036854775808 ≤ r ∧ r ≤ 9223372036854775807)) :
    Calls Try.prog 98 #[.agg #[.int .i64 l, .int .i64 d, .int .i64 c], .int .i64 r] w fun e w' => e = .returned (.int .i64 (plF l d c r)) ∧ Below w.heap.size w w' := by
  have G := gat_new w l d c 25 (0, 0)
  obtain ⟨hg, h0, h1⟩ := plOk_yes HT.out
  have hb6 := gOk_bd hg
  have n1 : ¬ d = 0 := by omega
  have n2 : ¬ c = 0 := by omega
  have hq := quo_bd 16 h0 h1 (show 1 ≤ c by omega)
  have hm := rem_bd (r / c) (show 1 ≤ d by omega)
  have HC := Lib.hid (fun W => parity_any l d c r W hl hd hc hr)
  have HB := Lib.hid (fun W => budget_any l d c W hl hd hc)
  have HF : Hid (plF l d c r = (plP l d c r + gBud l d c) % d) := by rw [plP_yes HT.out, gBud_yes hg]; rfl
  have hp : 0 ≤ plP l d c r ∧ plP l d c r < d := by rw [plP_yes HT.out]; omega
  have hbd := gBud_bd l d c
  generalize plP l d c r = p at HC HF hp
  generalize plQ l d c r = q at HC
  generalize gBud l d c = bd at HB HF hbd
  have z1 : IntKind.i64.wrap (p + bd) = p + bd := IntWalk.i64_in _ (by omega)
  clear hg hq hm h0 h1
  go_enter Try.func98, Try.ntmps98
  go_wp2_with fail
  (with_reducible refine (HC.out _).mono ?_); rintro e w1 ⟨rfl, hb⟩
  have S1 := GS.later (w0 := w) (B := w.heap.size) ⟨G.1, G.2.1, G.2.2, below1 w _⟩ hb
  clear hb G
  obtain ⟨g1, g2, g3, F⟩ := S1
  go_wp2_with fail
  have S0 : GS w w.heap.size w.heap.size l d c w1 := ⟨g1, g2, g3, F⟩
  clear g1 g2 g3 F
  go_region_held3 (GS w w.heap.size w.heap.size l d c)
    (first | assumption | exact GS.drew ‹_›)
    ((go_at_call 97; (with_reducible refine (HB.out _).mono ?_); rintro e w2 ⟨rfl, hb⟩; have S2 := (GS.drew S0).later hb))
  go_wp2
  go_ret
  exact ⟨by rw [HF.out, ← Int.tmod_eq_emod_of_nonneg (show 0 ≤ p + bd by omega)]; rfl, S2.2.2.2⟩
theorem disk_any (l d c r k : Int) (w : World) (hl : (-9223372036854775808 ≤ l ∧ l ≤ 9223372036854775807)) (hd : (-9223372036854775808 ≤ d ∧ d ≤ 9223372036854775807)) (hc : (-9223372036854775808 ≤ c ∧ c ≤ 9223372036854775807)) (hr : (-9223372036854775808 ≤ r ∧ r ≤ 9223372036854775807)) (hk : (-9223372036854775808 ≤ k ∧ k ≤ 9223372036854775807)) :
    Calls Try.prog 91 #[.agg #[.int .i64 l, .int .i64 d, .int .i64 c], .int .i64 r, .int .i64 k] w fun e w' => e = .returned (.int .i64 (plD l d c r k)) ∧ Below w.heap.size w w' := by
  have G := gat_new w l d c 25 (0, 0)
  have HD : Hid (∀ b, plDok l d c r k = b → plD l d c r k = if b = true then (plF l d c r + k) % d else -1) := Lib.hid (fun b h => by subst h; rfl)
  have HW := Lib.hid (fun W => width_any l d c W hl hd hc)
  have HK : Hid (plDok l d c r k = (plOk l d c r && decide (0 ≤ k ∧ k < gWid l d c))) := rfl
  cases hT : plOk l d c r
  · have H := Lib.hid (HD.out false (by rw [HK.out, hT]; rfl))
    have HT := Lib.hid hT
    clear hT
    go_enter Try.func91, Try.ntmps91
    go_wp2_with fail
    (with_reducible refine (there_no l d c r _ HT hl hd hc hr).mono ?_); rintro e w1 ⟨rfl, hb⟩
    have F := (below1 w _).trans (hb.mono (by simp))
    clear hb
    go_wp2_with fail
    go_ret
    exact ⟨by rw [H.out]; rfl, F⟩
  · have HT := Lib.hid hT
    by_cases h0 : k < 0
    · have H := Lib.hid (HD.out false (by rw [HK.out, hT, decide_eq_false (by omega)]; rfl))
      have e0 : decide (k < 0) = true := decide_eq_true h0
      clear hT
      go_enter Try.func91, Try.ntmps91
      go_wp2_with fail
      (with_reducible refine (there_yes l d c r _ HT hl hd hc hr).mono ?_); rintro e w1 ⟨rfl, hb⟩
      have F := (below1 w _).trans (hb.mono (by simp))
      clear hb
      go_wp2_with fail
      go_ret
      exact ⟨by rw [H.out]; rfl, F⟩
    · have e0 : decide (k < 0) = false := decide_eq_false h0
      obtain ⟨hg, h00, h11⟩ := plOk_yes HT.out
      have hb6 := gOk_bd hg
      have n1 : ¬ d = 0 := by omega
      have hw := gWid_bd l d c
      have hf := plF_bd l c r (show 1 ≤ d by omega)
      have HF := Lib.hid (fun W => first_any l d c r W HT hl hd hc hr)
      by_cases h1 : gWid l d c ≤ k
      · have H := Lib.hid (HD.out false (by rw [HK.out, hT, decide_eq_false (by omega)]; rfl))
        generalize gWid l d c = wd at HW hw h1
        have e1 : decide (wd ≤ k) = true := decide_eq_true h1
        clear hT hg h00 h11 HK HD
        go_enter Try.func91, Try.ntmps91
        go_wp2_with fail
        (with_reducible refine (there_yes l d c r _ HT hl hd hc hr).mono ?_); rintro e w1 ⟨rfl, hb⟩
        have S1 := GS.later (w0 := w) (B := w.heap.size) ⟨G.1, G.2.1, G.2.2, below1 w _⟩ hb
        clear hb G
        obtain ⟨g1, g2, g3, F⟩ := S1
        go_wp2_with fail
        (with_reducible refine (HW.out _).mono ?_); rintro e w2 ⟨rfl, hb⟩
        have S2 := GS.later (w0 := w) (B := w.heap.size) ⟨g1, g2, g3, F⟩ hb
        clear hb g1 g2 g3 F
        go_wp2_with fail
        go_ret
        exact ⟨by rw [H.out]; rfl, S2.2.2.2⟩
      · have H := Lib.hid ((HD.out true (by rw [HK.out, hT, decide_eq_true (by omega)]; rfl)).trans (if_pos rfl))
        generalize gWid l d c = wd at HW hw h1
        generalize plF l d c r = f at HF hf H
        have e1 : decide (wd ≤ k) = false := decide_eq_false h1
        have z1 : IntKind.i64.wrap (f + k) = f + k := IntWalk.i64_in _ (by omega)
        clear hT hg h00 h11 HK HD
        go_enter Try.func91, Try.ntmps91
        go_wp2_with fail
        (with_reducible refine (there_yes l d c r _ HT hl hd hc hr).mono ?_); rintro e w1 ⟨rfl, hb⟩
        have S1 := GS.later (w0 := w) (B := w.heap.size) ⟨G.1, G.2.1, G.2.2, below1 w _⟩ hb
        clear hb G
        obtain ⟨g1, g2, g3, F⟩ := S1
        go_wp2_with fail
        (with_reducible refine (HW.out _).mono ?_); rintro e w2 ⟨rfl, hb⟩
        have S2 := GS.later (w0 := w) (B := w.heap.size) ⟨g1, g2, g3, F⟩ hb
        clear hb g1 g2 g3 F
        obtain ⟨g1, g2, g3, F⟩ := S2
        go_wp2_with fail
        have S0 : GS w w.heap.size w.heap.size l d c w2 := ⟨g1, g2, g3, F⟩
        clear g1 g2 g3 F
        go_region_held3 (GS w w.heap.size w.heap.size l d c)
          (first | assumption | exact GS.drew ‹_›)
          ((go_at_call 98; (with_reducible refine (HF.out _).mono ?_); rintro e w3 ⟨rfl, hb⟩; have S3 := (GS.drew S0).later hb))
        go_wp2
        go_ret
        exact ⟨by rw [H.out, ← Int.tmod_eq_emod_of_nonneg (show 0 ≤ f + k by omega)]; rfl, S3.2.2.2⟩
end Go.Proofs.Ytadmofpipfdedaa
end
section
set_option linter.unusedVariables false
set_option linter.unusedSimpArgs false
namespace Go.Proofs.Ytadmofpipfdedaa
open Go.RowKit

end Go.Proofs.Ytadmofpipfdedaa
end
section
namespace Go.Proofs.Ytadmofpipfdedaa
open Go.RowKit

end Go.Proofs.Ytadmofpipfdedaa
end
section
namespace Go.Proofs.Ytadmofpipfdedaa
open Go.ChangeShapes Go.WideShapes Go.ChangeAt Go.RowKit Go.Deep

section
variable {H : Type} {enc : TypeId × Value → H} {P : Program}
theorem addr_of {W : World} {x : Addr} {u : Value} (h : W.cell? (x.add 0) = some u) : ∃ b off, x = ⟨b, off, none⟩ ∧ b < W.heap.size := by
  obtain ⟨b, off, spot⟩ := x
  have hspot : spot = none := by simpa [Addr.add] using World.cell?_spot h
  subst hspot
  have := World.block_lt_of_cell? _ _ h
  exact ⟨b, off, rfl, by simpa [Addr.add] using this⟩
theorem addr_add (b off k : Nat) : ((⟨b, off, none⟩ : Addr).add k) = ⟨b, off + k, none⟩ := by unfold Addr.add; by_cases hk0 : k = 0 <;> simp [hk0]
/-- A slice of bools that came in. -/
theorem open_rdo {t e : TypeId} (ht : P.underlying t = some (.slice e)) (he : P.underlying e = some .bool) (hc : P.cellsOf e = 1) {r : Reach} {W : World} {base : Nat} {v : Value} {d : DataW H} {p : List MemPlace}
    (hv : Value.okWide P W r base t v) (h : DataW.Trod enc P W 0 (fun _ => true) true t v d p) : ∃ A ks cap, v = .slice A ks.length cap ∧ ks.length ≤ cap ∧ RdO W W.heap.size A ks := by
  obtain ⟨A, len, cap, rfl⟩ := okWide_slice ht hv
  obtain ⟨fuel, hf⟩ := h
  rcases open_bools ht he hc hf with ⟨hcs, _⟩ | ⟨x, l, c, B, hcs, _, hl, hm, _, hcell⟩
  · simp [Value.cells] at hcs
    obtain ⟨rfl, rfl, rfl⟩ := hcs
    exact ⟨none, [], 0, rfl, Nat.le_refl _, RdO.nil _ _ _⟩
  · simp [Value.cells] at hcs
    obtain ⟨rfl, rfl, rfl⟩ := hcs
    have hL : ((List.range len).map B).length = len := by simp
    refine ⟨some x, (List.range len).map B, cap, by rw [hL], by rw [hL]; exact hl, by rw [hL]; unfold maxLen at hm; omega, fun hn => ?_⟩
    rw [hL] at hn
    obtain ⟨b, off, rfl, hb⟩ := addr_of (hcell 0 (by omega))
    refine ⟨b, off, rfl, hb, fun k hk => ?_⟩
    rw [hL] at hk
    have := hcell k (by omega)
    rw [addr_add] at this
    rw [this]
    simp [hk]
/-- A slice of whole numbers that came in. -/
theorem open_rdz {t e : TypeId} (ht : P.underlying t = some (.slice e)) (he : P.underlying e = some (.int .i64)) (hc : P.cellsOf e = 1) {r : Reach} {W : World} {base : Nat} {v : Value} {d : DataW H} {p : List MemPlace}
    (hv : Value.okWide P W r base t v) (h : DataW.Trod enc P W 0 (fun _ => true) true t v d p) : ∃ A zs cap, v = .slice A zs.length cap ∧ zs.length ≤ cap ∧ RdZ W W.heap.size A zs := by
  obtain ⟨A, len, cap, rfl⟩ := okWide_slice ht hv
  obtain ⟨fuel, hf⟩ := h
  rcases open_ints ht he hc hf with ⟨hcs, _⟩ | ⟨x, l, c, zs, hcs, _, hl, hm, hz, hd, hcell, hwz⟩
  · simp [Value.cells] at hcs
    obtain ⟨rfl, rfl, rfl⟩ := hcs
    exact ⟨none, [], 0, rfl, Nat.le_refl _, RdZ.nil _ _ _⟩
  · simp [Value.cells] at hcs
    obtain ⟨rfl, rfl, rfl⟩ := hcs
    simp only [if_true] at hz
    have hL : (zs.take len).length = len := by rw [List.length_take]; omega
    refine ⟨some x, zs.take len, cap, by rw [hL], by rw [hL]; exact hl, by rw [hL]; unfold maxLen at hm; omega, fun z hz => bounds_i64 (hwz z (List.mem_of_mem_take hz)), fun hn => ?_⟩
    rw [hL] at hn
    obtain ⟨b, off, rfl, hb⟩ := addr_of (hcell 0 (by omega))
    refine ⟨b, off, rfl, hb, fun k hk => ?_⟩
    rw [hL] at hk
    have := hcell k (by omega)
    rw [addr_add] at this
    rw [this]
    simp [hk]
end
end Go.Proofs.Ytadmofpipfdedaa
end
