/- Texts put together: Place, PlaceDisk, Str, EqualR. -/
import Derived.Test.YtadmofpipfdedaaSfaa
import Derived.Laws.BytesArg
import Derived.Laws.BytesString
import Derived.Lib.ConvBytes
section
set_option linter.unusedVariables false
set_option linter.unusedSimpArgs false
namespace Go.Proofs.Ytadmofpipfdedaa
open Go.RowKit

theorem there_any (l d c r : Int) (w : World) (hl : (-9223372036854775808 ≤ l ∧ l ≤ 9223372036854775807)) (hd : (-9223372036854775808 ≤ d ∧ d ≤ 9223372036854775807)) (hc : (-9223372036854775808 ≤ c ∧ c ≤ 9223372036854775807)) (hr : (-9223372036854775808 ≤ r ∧ r ≤ 9223372036854775807)) :
    Calls Try.prog 96 #[.agg #[.int .i64 l, .int .i64 d, .int .i64 c], .int .i64 r] w fun e w' => e = .returned (.bool (plOk l d c r)) ∧ Below w.heap.size w w' := by
  have G := gat_new w l d c 25 (0, 0)
  cases hG : gOk l d c
  · have H : Hid (plOk l d c r = false) := plOk_no (by rw [hG]; simp)
    have HG := Lib.hid hG
    clear hG
    go_enter Try.func96, Try.ntmps96
    go_wp2_with fail
    (with_reducible refine (check_no l d c _ HG hl hd hc).mono ?_); rintro e w1 ⟨rfl, hb⟩
    have F := (below1 w _).trans (hb.mono (by simp))
    clear hb
    go_wp2_with fail
    go_ret
    exact ⟨by rw [H.out]; rfl, F⟩
  · have HG := Lib.hid hG
    by_cases h0 : 0 ≤ r
    · have e0 : decide (0 ≤ r) = true := decide_eq_true h0
      by_cases h1 : r < 16
      · have e1 : decide (r < 16) = true := decide_eq_true h1
        have H : Hid (plOk l d c r = true) := plOk_mk hG h0 h1
        clear hG
        go_enter Try.func96, Try.ntmps96
        go_wp2_with fail
        (with_reducible refine (check_yes l d c _ HG hl hd hc).mono ?_); rintro e w1 ⟨rfl, hb⟩
        have F := (below1 w _).trans (hb.mono (by simp))
        clear hb
        go_wp2_with fail
        go_ret
        exact ⟨by rw [H.out]; rfl, F⟩
      · have e1 : decide (r < 16) = false := decide_eq_false h1
        have H : Hid (plOk l d c r = false) := plOk_no (by omega)
        clear hG
        go_enter Try.func96, Try.ntmps96
        go_wp2_with fail
        (with_reducible refine (check_yes l d c _ HG hl hd hc).mono ?_); rintro e w1 ⟨rfl, hb⟩
        have F := (below1 w _).trans (hb.mono (by simp))
        clear hb
        go_wp2_with fail
        go_ret
        exact ⟨by rw [H.out]; rfl, F⟩
    · have e0 : decide (0 ≤ r) = false := decide_eq_false h0
      have H : Hid (plOk l d c r = false) := plOk_no (by omega)
      clear hG
      go_enter Try.func96, Try.ntmps96
      go_wp2_with fail
      (with_reducible refine (check_yes l d c _ HG hl hd hc).mono ?_); rintro e w1 ⟨rfl, hb⟩
      have F := (below1 w _).trans (hb.mono (by simp))
      clear hb
      go_wp2_with fail
      go_ret
      exact ⟨by rw [H.out]; rfl, F⟩
theorem there_yes (l d c r : Int) (w : World) (h : Hid (plOk l d c r = true)) (hl : (-9223372036854775808 ≤ l ∧ l ≤ 9223372036854775807)) (hd : (-9223372036854775808 ≤ d ∧ d ≤ 9223372036854775807)) (hc : (-9223372036854775808 ≤ c ∧ c ≤ 9223372036854775807)) (hr : (-9223372036854775808 ≤ r ∧ r ≤ 9223372036854775807)) :
    Calls Try.prog 96 #[.agg #[.int .i64 l, .int .i64 d, .int .i64 c], .int .i64 r] w fun e w' => e = .returned (.bool true) ∧ Below w.heap.size w w' := by
  have := there_any l d c r w hl hd hc hr
  rwa [h.out] at this
theorem there_no (l d c r : Int) (w : World) (h : Hid (plOk l d c r = false)) (hl : (-9223372036854775808 ≤ l ∧ l ≤ 9223372036854775807)) (hd : (-9223372036854775808 ≤ d ∧ d ≤ 9223372036854775807)) (hc : (-9223372036854775808 ≤ c ∧ c ≤ 9223372036854775807)) (hr : (-9223372036854775808 ≤ r ∧ r ≤ 9223372036854775807)) :
    Calls Try.prog 96 #[.agg #[.int .i64 l, .int .i64 d, .int .i64 c], .int .i64 r] w fun e w' => e = .returned (.bool false) ∧ Below w.heap.size w w' := by
  have := there_any l d c r w hl hd hc hr
  rwa [h.out] at this
theorem parity_any (l d c r : Int) (w : World) (hl : (-9223372036854775808 ≤ l ∧ l ≤ 9223372036854775807)) (hd : (-9223372036854775808 ≤ d ∧ d ≤ 9223372036854775807)) (hc : (-9223372036854775808 ≤ c ∧ c ≤ 9223372036854775807)) (hr : (-9223372036854775808 ≤ r ∧ r ≤ 9223372036854775807)) :
    Calls Try.prog 88 #[.agg #[.int .i64 l, .int .i64 d, .int .i64 c], .int .i64 r] w fun e w' => e = .returned (.tuple #[.int .i64 (plP l d c r), .int .i64 (plQ l d c r)]) ∧ Below w.heap.size w w' := by
  have G := gat_new w l d c 25 (0, 0)
  cases hT : plOk l d c r
  · have HP := Lib.hid (plP_no hT)
    have HQ := Lib.hid (plQ_no hT)
    have HT := Lib.hid hT
    clear hT
    go_enter Try.func88, Try.ntmps88
    go_wp2_with fail
    (with_reducible refine (there_no l d c r _ HT hl hd hc hr).mono ?_); rintro e w1 ⟨rfl, hb⟩
    have F := (below1 w _).trans (hb.mono (by simp))
    clear hb
    go_wp2_with fail
    go_ret2
    exact ⟨by rw [HP.out, HQ.out]; rfl, F⟩
  · have HT := Lib.hid hT
    obtain ⟨hg, h0, h1⟩ := plOk_yes hT
    have hb6 := gOk_bd hg
    have hq := quo_bd 16 h0 h1 (show 1 ≤ c by omega)
    have hm := rem_bd (r / c) (show 1 ≤ d by omega)
    have HP := Lib.hid (plP_yes hT)
    by_cases h6 : l = 6
    · subst h6
      have HQ := Lib.hid (plQ_6 hT)
      clear hT hg
      go_enter Try.func88, Try.ntmps88
      go_wp2_with fail
      (with_reducible refine (there_yes 6 d c r _ HT hl hd hc hr).mono ?_); rintro e w1 ⟨rfl, hb⟩
      have F := (below1 w _).trans (hb.mono (by simp))
      obtain ⟨g1, g2, g3⟩ := G.below hb (by simp)
      clear hb
      go_wp2_with fail
      go_quiet (fail)
      go_wp2_with fail
      go_quiet (fail)
      go_wp2
      go_ret2
      exact ⟨by rw [HP.out, HQ.out]; rfl, (F.trans (belowN _ _ _)).trans (belowN _ _ _)⟩
    · obtain rfl : l = 5 := by omega
      have HQ := Lib.hid (@plQ_5 d c r)
      clear hT hg h6
      go_enter Try.func88, Try.ntmps88
      go_wp2_with fail
      (with_reducible refine (there_yes 5 d c r _ HT hl hd hc hr).mono ?_); rintro e w1 ⟨rfl, hb⟩
      have F := (below1 w _).trans (hb.mono (by simp))
      obtain ⟨g1, g2, g3⟩ := G.below hb (by simp)
      clear hb
      go_wp2_with fail
      go_quiet (fail)
      go_wp2
      go_ret2
      exact ⟨by rw [HP.out, HQ.out]; rfl, F.trans (belowN _ _ _)⟩
end Go.Proofs.Ytadmofpipfdedaa
end
section
set_option linter.unusedVariables false
set_option linter.unusedSimpArgs false
namespace Go.Proofs.Ytadmofpipfdedaa
open Go.RowKit

theorem first_any (l d c r : Int) (w : World) (HT : Hid (plOk l d c r = true)) (hl : (-9223372036854775808 ≤ l ∧ l ≤ 9223372036854775807)) (hd : (-9223372036854775808 ≤ d ∧ d ≤ 9223372036854775807)) (hc : (-9223372036854775808 ≤ c ∧ c ≤ 9223372036854775807)) (hr : (-9223372036854775808 ≤ r ∧ r ≤ 9223372036854775807)) :
    Calls Try.prog 98 #[.agg #[.int .i64 l, .int .i64 d, .int .i64 c], .int .i64 r] w fun e w' => e = .returned (.int .i64 (plF l d c r)) ∧ Below w.heap.size w w' := by
  have G := gat_new w l d c 25 (0, 0)
  obtain ⟨hg, h0, h1⟩ := plOk_yes HT.out
  have hb6 := gOk_bd hg
  have n1 : ¬ d = 0 := by omega
  have n2 : ¬ c = 0 := by omega
  have hq := quo_bd 16 h0 h1 (show 1 ≤ c by omega)
  have hm := rem_bd (r / c) (show 1 ≤ d by omega)
  have HC := Lib.hid (fun W => parity_any l d c r W hl hd hc hr)
  have HB := Lib.hid (fun W => budget_any l d c W hl hd hc)
  have HF : Hid (plF l d c r = (plP l d c r + gBud l d c) % d) := by rw [plP_yes HT.out, gBud_yes hg]; rfl
  have hp : 0 ≤ plP l d c r ∧ plP l d c r < d := by rw [plP_yes HT.out]; omega
  have hbd := gBud_bd l d c
  generalize plP l d c r = p at HC HF hp
  generalize plQ l d c r = q at HC
  generalize gBud l d c = bd at HB HF hbd
  have z1 : IntKind.i64.wrap (p + bd) = p + bd := IntWalk.i64_in _ (by omega)
  clear hg hq hm h0 h1
  go_enter Try.func98, Try.ntmps98
  go_wp2_with fail
  (with_reducible refine (HC.out _).mono ?_); rintro e w1 ⟨rfl, hb⟩
  have S1 := GS.later (w0 := w) (B := w.heap.size) ⟨G.1, G.2.1, G.2.2, below1 w _⟩ hb
  clear hb G
  obtain ⟨g1, g2, g3, F⟩ := S1
  go_wp2_with fail
  have S0 : GS w w.heap.size w.heap.size l d c w1 := ⟨g1, g2, g3, F⟩
  clear g1 g2 g3 F
  go_region_held3 (GS w w.heap.size w.heap.size l d c)
    (first | assumption | exact GS.drew ‹_›)
    ((go_at_call 97; (with_reducible refine (HB.out _).mono ?_); rintro e w2 ⟨rfl, hb⟩; have S2 := (GS.drew S0).later hb))
  go_wp2
  go_ret
  exact ⟨by rw [HF.out, ← Int.tmod_eq_emod_of_nonneg (show 0 ≤ p + bd by omega)]; rfl, S2.2.2.2⟩
theorem disk_any (l d c r k : Int) (w : World) (hl : (-9223372036854775808 ≤ l ∧ l ≤ 9223372036854775807)) (hd : (-9223372036854775808 ≤ d ∧ d ≤ 9223372036854775807)) (hc : (-9223372036854775808 ≤ c ∧ c ≤ 9223372036854775807)) (hr : (-9223372036854775808 ≤ r ∧ r ≤ 9223372036854775807)) (hk : (-9223372036854775808 ≤ k ∧ k ≤ 9223372036854775807)) :
    Calls Try.prog 91 #[.agg #[.int .i64 l, .int .i64 d, .int .i64 c], .int .i64 r, .int .i64 k] w fun e w' => e = .returned (.int .i64 (plD l d c r k)) ∧ Below w.heap.size w w' := by
  have G := gat_new w l d c 25 (0, 0)
  have HD : Hid (∀ b, plDok l d c r k = b → plD l d c r k = if b = true then (plF l d c r + k) % d else -1) := Lib.hid (fun b h => by subst h; rfl)
  have HW := Lib.hid (fun W => width_any l d c W hl hd hc)
  have HK : Hid (plDok l d c r k = (plOk l d c r && decide (0 ≤ k ∧ k < gWid l d c))) := rfl
  cases hT : plOk l d c r
  · have H := Lib.hid (HD.out false (by rw [HK.out, hT]; rfl))
    have HT := Lib.hid hT
    clear hT
    go_enter Try.func91, Try.ntmps91
    go_wp2_with fail
    (with_reducible refine (there_no l d c r _ HT hl hd hc hr).mono ?_); rintro e w1 ⟨rfl, hb⟩
    have F := (below1 w _).trans (hb.mono (by simp))
    clear hb
    go_wp2_with fail
    go_ret
    exact ⟨by rw [H.out]; rfl, F⟩
  · have HT := Lib.hid hT
    by_cases h0 : k < 0
    · have H := Lib.hid (HD.out false (by rw [HK.out, hT, decide_eq_false (by omega)]; rfl))
      have e0 : decide (k < 0) = true := decide_eq_true h0
      clear hT
      go_enter Try.func91, Try.ntmps91
      go_wp2_with fail
      (with_reducible refine (there_yes l d c r _ HT hl hd hc hr).mono ?_); rintro e w1 ⟨rfl, hb⟩
      have F := (below1 w _).trans (hb.mono (by simp))
      clear hb
      go_wp2_with fail
      go_ret
      exact ⟨by rw [H.out]; rfl, F⟩
    · have e0 : decide (k < 0) = false := decide_eq_false h0
      obtain ⟨hg, h00, h11⟩ := plOk_yes HT.out
      have hb6 := gOk_bd hg
      have n1 : ¬ d = 0 := by omega
      have hw := gWid_bd l d c
      have hf := plF_bd l c r (show 1 ≤ d by omega)
      have HF := Lib.hid (fun W => first_any l d c r W HT hl hd hc hr)
      by_cases h1 : gWid l d c ≤ k
      · have H := Lib.hid (HD.out false (by rw [HK.out, hT, decide_eq_false (by omega)]; rfl))
        generalize gWid l d c = wd at HW hw h1
        have e1 : decide (wd ≤ k) = true := decide_eq_true h1
        clear hT hg h00 h11 HK HD
        go_enter Try.func91, Try.ntmps91
        go_wp2_with fail
        (with_reducible refine (there_yes l d c r _ HT hl hd hc hr).mono ?_); rintro e w1 ⟨rfl, hb⟩
        have S1 := GS.later (w0 := w) (B := w.heap.size) ⟨G.1, G.2.1, G.2.2, below1 w _⟩ hb
        clear hb G
        obtain ⟨g1, g2, g3, F⟩ := S1
        go_wp2_with fail
        (with_reducible refine (HW.out _).mono ?_); rintro e w2 ⟨rfl, hb⟩
        have S2 := GS.later (w0 := w) (B := w.heap.size) ⟨g1, g2, g3, F⟩ hb
        clear hb g1 g2 g3 F
        go_wp2_with fail
        go_ret
        exact ⟨by rw [H.out]; rfl, S2.2.2.2⟩
      · have H := Lib.hid ((HD.out true (by rw [HK.out, hT, decide_eq_true (by omega)]; rfl)).trans (if_pos rfl))
        generalize gWid l d c = wd at HW hw h1
        generalize plF l d c r = f at HF hf H
        have e1 : decide (wd ≤ k) = false := decide_eq_false h1
        have z1 : IntKind.i64.wrap (f + k) = f + k := IntWalk.i64_in _ (by omega)
        clear hT hg h00 h11 HK HD
        go_enter Try.func91, Try.ntmps91
        go_wp2_with fail
        (with_reducible refine (there_yes l d c r _ HT hl hd hc hr).mono ?_); rintro e w1 ⟨rfl, hb⟩
        have S1 := GS.later (w0 := w) (B := w.heap.size) ⟨G.1, G.2.1, G.2.2, below1 w _⟩ hb
        clear hb G
        obtain ⟨g1, g2, g3, F⟩ := S1
        go_wp2_with fail
        (with_reducible refine (HW.out _).mono ?_); rintro e w2 ⟨rfl, hb⟩
        have S2 := GS.later (w0 := w) (B := w.heap.size) ⟨g1, g2, g3, F⟩ hb
        clear hb g1 g2 g3 F
        obtain ⟨g1, g2, g3, F⟩ := S2
        go_wp2_with fail
        have S0 : GS w w.heap.size w.heap.size l d c w2 := ⟨g1, g2, g3, F⟩
        clear g1 g2 g3 F
        go_region_held3 (GS w w.heap.size w.heap.size l d c)
          (first | assumption | exact GS.drew ‹_›)
          ((go_at_call 98; (with_reducible refine (HF.out _).mono ?_); rintro e w3 ⟨rfl, hb⟩; have S3 := (GS.drew S0).later hb))
        go_wp2
        go_ret
        exact ⟨by rw [H.out, ← Int.tmod_eq_emod_of_nonneg (show 0 ≤ f + k by omega)]; rfl, S3.2.2.2⟩
end Go.Proofs.Ytadmofpipfdedaa
end
section
namespace Go.Proofs.Ytadmofpipfdedaa
open Go.RowKit

/-- Bytes as a text. -/
def str (bs : List UInt8) : Value := .string ⟨bs.toArray⟩
theorem conv_str (A : Option Addr) (bs : List UInt8) (n c B : Nat) (w : World) (hn : n = bs.length) (hr : RdB w B A bs) : (convert 45 9 (.slice A n c)).run Try.prog w = .ok (str bs) w := by
  subst hn
  rcases Nat.eq_zero_or_pos bs.length with h0 | hp
  · have : bs = [] := List.eq_nil_of_length_eq_zero h0
    subst this
    rcases A with _ | a
    · exact run_convert_bytes_nil w _ _ Try.underlying45 Try.underlying5 _ _ _ Try.underlying9
    · have h := run_convert_bytes_string (P := Try.prog) w _ _ _ (some a) 0 c Try.underlying45 Try.underlying5 Try.underlying9
      have h2 := run_bytesToString (P := Try.prog) w a 0 c [] (by simp [loadCells, loadCellsFrom])
      exact h.trans h2
  · obtain ⟨b, off, rfl, _, hc⟩ := hr.2 hp
    have h := run_convert_bytes_arg (P := Try.prog) w _ _ Try.underlying45 Try.underlying5 b off bs.length c (bs.map fun x => (x.toNat : Int)) (by simp) (fun i hi => by
      rw [hc i hi]; simp [hi]) _ Try.underlying9
    have e : (bs.map fun x => (x.toNat : Int)).map (fun n => UInt8.ofNat n.toNat) = bs := by
      rw [List.map_map]
      exact (List.map_congr_left (g := id) fun x _ => by simp).trans (List.map_id bs)
    rw [h]
    unfold str strOfNums
    rw [e]
theorem str_eql (t : TypeId) (a b : List UInt8) (w : World) : (binOp .eql t (str a) (str b)).run Try.prog w = .ok (.bool (a == b)) w := by unfold str; rw [binOp_string_eql]; simp
end Go.Proofs.Ytadmofpipfdedaa
end
section
set_option maxRecDepth 8000
set_option linter.unusedVariables false
set_option linter.unusedSimpArgs false
namespace Go.Proofs.Ytadmofpipfdedaa
open Go.RowKit

theorem bytesEqual_any (A A' : Option Addr) (n n' c c' B B' : Nat) (bs bs' : List UInt8) (w : World) (hn : n = bs.length) (hn' : n' = bs'.length) (hr : RdB w B A bs) (hr' : RdB w B' A' bs') :
    Calls Try.prog 79 #[.slice A n c, .slice A' n' c'] w fun e w' => e = .returned (.bool (bs == bs')) ∧ w' = w := by
  have h1 := conv_str A bs n c B w hn hr
  have h2 := conv_str A' bs' n' c' B' w hn' hr'
  clear hn hn' hr hr'
  have h3 := str_eql 9 bs bs' w
  have h4 : ∀ x y, (eqGuard .eql 9 x y (str bs) (str bs')) = pure () := fun _ _ => by unfold str; rw [eqGuard_at_string]
  generalize str bs = s1 at h1 h3 h4
  generalize str bs' = s2 at h2 h3 h4
  go_enter Try.func79, Try.ntmps79
  go_wp2
  go_ret
  exact ⟨rfl, rfl⟩
theorem rs_ext {rs qs : List (List UInt8)} (hl : rs.length = qs.length) (h : ∀ k, k < rs.length → rs.getD k [] = qs.getD k []) : rs = qs := by
  apply List.ext_getElem hl
  intro k h1 h2
  have := h k h1
  simpa [List.getD_eq_getElem?_getD, h1, h2] using this
set_option maxHeartbeats 800000 in
theorem equalR_any (A A' : Option Addr) (n n' c c' : Nat) (rs qs : List (List UInt8)) (w : World) (hn : rs.length = n) (hn' : qs.length = n') (h : RdR w w.heap.size A rs) (h' : RdR w w.heap.size A' qs) :
    Calls Try.prog 78 #[.slice A n c, .slice A' n' c', .func (.func 79) #[] #[]] w fun e w' => e = .returned (.bool (decide (rs = qs))) ∧ Below w.heap.size w w' := by
  subst hn hn'
  have H := Lib.hid h
  have H' := Lib.hid h'
  have hmx := h.1
  have hmx' := h'.1
  clear h h'
  by_cases hl : rs.length = qs.length
  · have Hext := Lib.hid (@rs_ext rs qs hl)
    have e0 : ((rs.length : Int) != (qs.length : Int)) = false := by rw [hl]; exact bne_self_eq_false _
    have Hl := Lib.hid hl
    clear hl
    go_enter Try.func78, Try.ntmps78
    go_wp2
    go_loopw [17] (fun i wr => ∃ j : Nat, j ≤ rs.length ∧ i = .int .i64 j ∧ (∀ k, k < j → rs.getD k [] = qs.getD k []) ∧ wr = w) (fun i _ => rs.length - (intOf i).toNat)
    case atStart => exact ⟨0, Nat.zero_le _, rfl, fun k hk => absurd hk (Nat.not_lt_zero _), rfl⟩
    case round =>
      obtain ⟨j, hj, rfl, hall, rfl⟩ := hrel
      have Hall := Lib.hid hall
      clear hall
      by_cases hlt : j < rs.length
      · have hlt' : j < qs.length := by have := Hl.out; omega
        obtain ⟨g, off, rfl, hg, hc⟩ := H.out.2 (by omega)
        obtain ⟨D, cd, hrp, hrd⟩ := hc j hlt
        obtain ⟨g', off', rfl, hg', hc'⟩ := H'.out.2 (by omega)
        obtain ⟨D', cd', hrp', hrd'⟩ := hc' j hlt'
        clear hc hc'
        have CL := Lib.hid (bytesEqual_any D D' _ _ cd cd' _ _ (rs.getD j []) (qs.getD j []) wr rfl rfl hrd hrd')
        have Hno := Lib.hid (show rs.getD j [] ≠ qs.getD j [] → decide (rs = qs) = false from fun q => decide_eq_false fun e => q (by rw [e]))
        have Hyes := Lib.hid (show rs.getD j [] = qs.getD j [] → ∀ k, k < j + 1 → rs.getD k [] = qs.getD k [] from fun q k hk => by
          by_cases e : k = j
          · subst e; exact q
          · exact Hall.out k (by omega))
        clear hrd hrd'
        generalize rs.getD j [] = y at hrp CL Hno Hyes
        generalize qs.getD j [] = z at hrp' CL Hno Hyes
        have k0 : (0 : Int) ≤ (j : Int) := by omega
        have k1 : (j : Int) < (rs.length : Int) := by omega
        have k2 : (j : Int) < (qs.length : Int) := by omega
        generalize y.length = yl at hrp CL
        generalize z.length = zl at hrp' CL
        cases hpk : (y == z) with
        | false =>
          rw [hpk] at CL
          have R := Lib.hid (Hno.out (beq_eq_false_iff_ne.1 hpk))
          clear hpk
          go_wp2_with (go_at_call 79; refine CL.out.mono ?_; rintro e w1 ⟨rfl, rfl⟩)
          go_ret
          exact ⟨by rw [R.out]; rfl, Below.refl _ _⟩
        | true =>
          rw [hpk] at CL
          have R := Lib.hid (Hyes.out (beq_iff_eq.1 hpk))
          clear hpk
          go_wp2_with (go_at_call 79; refine CL.out.mono ?_; rintro e w1 ⟨rfl, rfl⟩)
          go_roundw
          case rel => exact ⟨j + 1, by omega, by go_num, R.out, trivial⟩
          case measure => simp [intOf]; omega
      · obtain rfl : j = rs.length := by omega
        have R := Lib.hid (show decide (rs = qs) = true from decide_eq_true (Hext.out Hall.out))
        go_wp2
        go_ret
        exact ⟨by rw [R.out]; rfl, Below.refl _ _⟩
  · have R := Lib.hid (show decide (rs = qs) = false from decide_eq_false fun e => hl (by rw [e]))
    have e0 : ((rs.length : Int) != (qs.length : Int)) = true := by rw [bne_iff_ne]; omega
    clear hl
    go_enter Try.func78, Try.ntmps78
    go_wp2
    go_ret
    exact ⟨by rw [R.out]; rfl, Below.refl _ _⟩
end Go.Proofs.Ytadmofpipfdedaa
end
