/- Texts put together: PlayGood, RefOf, SetInt. -/
import Derived.Test.YtpaegibaikpikaaSbab
import Derived.Test.YtpaegibaikpikaaSbae
section
set_option linter.unusedVariables false
set_option linter.unusedSimpArgs false
namespace Go.Proofs.Ytpaegibaikpikaa
open Go.RowKit

def pgO (n : Int) : Bool := gOk (pgL n) (pgD n) (pgC n)
def goL (n : Int) : Int := if pgO n = true then pgL n else 5
def goD (n : Int) : Int := if pgO n = true then pgD n else 3
def goC (n : Int) : Int := if pgO n = true then pgC n else 1
theorem go_ok (n : Int) : gOk (goL n) (goD n) (goC n) = true := by
  unfold goL goD goC
  cases h : pgO n
  · rfl
  · simp; exact h
theorem below_cells {W w1 : World} (hb : Below W.heap.size W w1) : (∀ b o, b < W.heap.size → w1.cell? ⟨b, o, none⟩ = W.cell? ⟨b, o, none⟩) ∧ (∀ b o, b < W.heap.size → w1.frozen? ⟨b, o, none⟩ = W.frozen? ⟨b, o, none⟩) :=
  ⟨fun b o h => hb.cell (p := ⟨b, o, none⟩) h, fun b o h => hb.frozen (p := ⟨b, o, none⟩) h⟩
set_option maxHeartbeats 1000000 in
theorem playGood_any (n : Int) (w : World) (hn : -9223372036854775808 ≤ n ∧ n ≤ 9223372036854775807) :
    Calls Try.prog 8 #[.int .i64 n] w fun e w' => e = .returned (.agg #[.int .i64 (goL n), .int .i64 (goD n), .int .i64 (goC n)]) ∧ Below w.heap.size w w' := by
  have HP := Lib.hid (fun W => playGeom_any n W hn)
  have b := pg_bd n
  have HC := Lib.hid (fun W => refCheck_any (pgL n) (pgD n) (pgC n) W (by omega) (by omega) (by omega))
  obtain ⟨L, hL⟩ : ∃ L, L = goL n := ⟨_, rfl⟩
  obtain ⟨D, hD⟩ : ∃ D, D = goD n := ⟨_, rfl⟩
  obtain ⟨C, hC⟩ : ∃ C, C = goC n := ⟨_, rfl⟩
  have HL := Lib.hid (hL.trans (show goL n = if gOk (pgL n) (pgD n) (pgC n) = true then pgL n else 5 from rfl))
  have HD := Lib.hid (hD.trans (show goD n = if gOk (pgL n) (pgD n) (pgC n) = true then pgD n else 3 from rfl))
  have HK := Lib.hid (hC.trans (show goC n = if gOk (pgL n) (pgD n) (pgC n) = true then pgC n else 1 from rfl))
  rw [← hL, ← hD, ← hC]
  clear hL hD hC
  generalize pgL n = l at b HP HC HL HD HK
  generalize pgD n = d at b HP HC HL HD HK
  generalize pgC n = c at b HP HC HL HD HK
  generalize gOk l d c = ok at HC HL HD HK
  have G := gat_new w 0 0 0 24 (0, 0)
  go_enter Try.func8, Try.ntmps8
  go_wp2_with fail
  (with_reducible refine (HP.out _).mono ?_); rintro e w1 ⟨rfl, hb⟩
  obtain ⟨hc1, hf1⟩ := below_cells hb
  have G1 := (G.below hb (by simp)).below (below1 w1 (.cells #[.int .i64 l, .int .i64 d, .int .i64 c] 24)) (by have := hb.size; simp at this; omega)
  have hz1 : w.heap.size < w1.heap.size := by have := hb.size; simp at this; omega
  have F1 := (below1 w _).trans (hb.mono (by simp))
  clear hb
  go_wp2_with fail
  (with_reducible refine (HC.out _).mono ?_); rintro e w2 ⟨rfl, hb⟩
  obtain ⟨hc2, hf2⟩ := below_cells hb
  obtain ⟨g1, g2, g3⟩ := G1.below hb (by simp; omega)
  have hz2 : w1.heap.size < w2.heap.size := by have := hb.size; simp at this; omega
  have F2 := F1.trans (((below1 w1 _).trans (hb.mono (by simp))).mono F1.size)
  clear hb F1
  cases ok
  · go_wp2_with fail
    refine bodyPost_ret (v := .agg #[.int .i64 5, .int .i64 3, .int .i64 1]) (by simp [results, Try.results8, go_sem, g1, g2, g3]) rfl ⟨?_, ?_⟩
    · rw [HL.out, HD.out, HK.out]; rfl
    · exact ((F2.setCell (Nat.le_refl _) _).setCell (Nat.le_refl _) _).setCell (Nat.le_refl _) _
  · go_wp2_with fail
    refine bodyPost_ret (v := .agg #[.int .i64 l, .int .i64 d, .int .i64 c]) (by simp [results, Try.results8, go_sem, g1, g2, g3]) rfl ⟨?_, ?_⟩
    · rw [HL.out, HD.out, HK.out]; rfl
    · exact ((F2.setCell (Nat.le_refl _) _).setCell (Nat.le_refl _) _).setCell (Nat.le_refl _) _
end Go.Proofs.Ytpaegibaikpikaa
end
section
set_option linter.unusedVariables false
set_option linter.unusedSimpArgs false
namespace Go.Proofs.Ytpaegibaikpikaa
open Go.RowKit

theorem refOf_any (l d c n : Int) (w : World) (hl : (-9223372036854775808 ≤ l ∧ l ≤ 9223372036854775807)) (hd : (-9223372036854775808 ≤ d ∧ d ≤ 9223372036854775807)) (hc : (-9223372036854775808 ≤ c ∧ c ≤ 9223372036854775807)) (hn : (-9223372036854775808 ≤ n ∧ n ≤ 9223372036854775807)) :
    Calls Try.prog 29 #[.agg #[.int .i64 l, .int .i64 d, .int .i64 c], .int .i64 n] w fun e w' => e = .returned (.tuple #[.int .i64 (plOfD l d c n), .int .i64 (plOfR l d c n), .bool (plOfOk l d c n)]) ∧ Below w.heap.size w w' := by
  have G := gat_new w l d c 24 (0, 0)
  have HD : Hid (∀ b, plOfOk l d c n = b → plOfD l d c n = if b = true then plD l d c (plRow l d c n) (n / c % (d - (l - 4))) else 0) := Lib.hid (fun b h => by subst h; rfl)
  have HR : Hid (∀ b, plOfOk l d c n = b → plOfR l d c n = if b = true then plRow l d c n else 0) := Lib.hid (fun b h => by subst h; rfl)
  have HC := Lib.hid (fun W => refCapacity_any l d c W hl hd hc)
  have hb7 := gCap_bd l d c
  cases hG : gOk l d c
  · have H := Lib.hid (plOfOk_no (l := l) (d := d) (c := c) (n := n) (by rw [gCap_no hG]; omega))
    have H1 := Lib.hid ((HD.out false H.out).trans (if_neg (by decide)))
    have H2 := Lib.hid ((HR.out false H.out).trans (if_neg (by decide)))
    have HG := Lib.hid hG
    clear hG
    go_enter Try.func29, Try.ntmps29
    go_wp2_with fail
    (with_reducible refine (refCheck_no l d c _ HG hl hd hc).mono ?_); rintro e w1 ⟨rfl, hb⟩
    have F := (below1 w _).trans (hb.mono (by simp))
    clear hb
    go_wp2_with fail
    go_ret3
    exact ⟨by rw [H.out, H1.out, H2.out]; rfl, F⟩
  · have HG := Lib.hid hG
    clear hG
    by_cases h0 : n < 0
    · have H := Lib.hid (plOfOk_no (l := l) (d := d) (c := c) (n := n) (by omega))
      have H1 := Lib.hid ((HD.out false H.out).trans (if_neg (by decide)))
      have H2 := Lib.hid ((HR.out false H.out).trans (if_neg (by decide)))
      have e0 : decide (n < 0) = true := decide_eq_true h0
      go_enter Try.func29, Try.ntmps29
      go_wp2_with fail
      (with_reducible refine (refCheck_yes l d c _ HG hl hd hc).mono ?_); rintro e w1 ⟨rfl, hb⟩
      have F := (below1 w _).trans (hb.mono (by simp))
      clear hb
      go_wp2_with fail
      go_ret3
      exact ⟨by rw [H.out, H1.out, H2.out]; rfl, F⟩
    · have e0 : decide (n < 0) = false := decide_eq_false h0
      by_cases h1 : gCap l d c ≤ n
      · have H := Lib.hid (plOfOk_no (l := l) (d := d) (c := c) (n := n) (by omega))
        have H1 := Lib.hid ((HD.out false H.out).trans (if_neg (by decide)))
        have H2 := Lib.hid ((HR.out false H.out).trans (if_neg (by decide)))
        clear HD HR
        generalize gCap l d c = cp at HC h1 hb7
        have e1 : decide (cp ≤ n) = true := decide_eq_true h1
        go_enter Try.func29, Try.ntmps29
        go_wp2_with fail
        (with_reducible refine (refCheck_yes l d c _ HG hl hd hc).mono ?_); rintro e w1 ⟨rfl, hb⟩
        have S1 := GS.later (w0 := w) (B := w.heap.size) ⟨G.1, G.2.1, G.2.2, below1 w _⟩ hb
        clear hb G
        obtain ⟨g1, g2, g3, F⟩ := S1
        go_wp2_with fail
        (with_reducible refine (HC.out _).mono ?_); rintro e w2 ⟨rfl, hb⟩
        have S2 := GS.later (w0 := w) (B := w.heap.size) ⟨g1, g2, g3, F⟩ hb
        clear hb g1 g2 g3 F
        go_wp2_with fail
        go_ret3
        exact ⟨by rw [H.out, H1.out, H2.out]; rfl, S2.2.2.2⟩
      · have hok : plOfOk l d c n = true := decide_eq_true (by omega)
        have H := Lib.hid hok
        have hg := plOfOk_ok hok
        have hb6 := gOk_bd hg
        have hcp := gCap_yes hg
        have hgw := gWid_yes hg
        have H1 := Lib.hid ((HD.out true hok).trans (if_pos rfl))
        have H2 := Lib.hid ((HR.out true hok).trans (if_pos rfl))
        have HW := Lib.hid (fun W => refWidth_any l d c W hl hd hc)
        have hw := gWid_bd l d c
        rw [← hgw] at H1
        have H3 : Hid (plRow l d c n = n / c / gWid l d c * c + n % c) := by rw [hgw]; rfl
        generalize plRow l d c n = row at H1 H2 H3
        have hcw : gCap l d c = gWid l d c * 16 := rfl
        generalize gWid l d c = wd at HW hw H1 H3 hgw hcw
        rw [hcw] at HC h1 hb7
        have hch := quo_bd 112 (show 0 ≤ n by omega) (show n < 112 by omega) (show 1 ≤ c by omega)
        have e1 : decide (wd * 16 ≤ n) = false := decide_eq_false h1
        generalize hqq : n / c = ch at H1 H3 hch
        have hst := quo_bd 112 hch.1 hch.2 (show 1 ≤ wd by omega)
        have hk := rem_bd ch (show 1 ≤ wd by omega)
        have hm := rem_bd n (show 1 ≤ c by omega)
        have hx : 0 ≤ ch / wd * c ∧ ch / wd * c ≤ 112 * 4 := ⟨Int.mul_nonneg hst.1 (by omega), Int.mul_le_mul (by omega) (by omega) (by omega) (by omega)⟩
        have hrow : 0 ≤ row ∧ row ≤ 1000 := by rw [H3.out]; omega
        have HK := Lib.hid (fun W => refDisk_any l d c row (ch % wd) W hl hd hc (by omega) (by omega))
        have t1 : n.tdiv c = ch := by rw [Int.tdiv_eq_ediv_of_nonneg (by omega)]; exact hqq
        have t3 : n.tmod c = n % c := Int.tmod_eq_emod_of_nonneg (by omega)
        have t4 : ch.tdiv wd = ch / wd := Int.tdiv_eq_ediv_of_nonneg hch.1
        have n1 : ¬ c = 0 := by omega
        have n2 : ¬ wd = 0 := by omega
        have i0 : 0 ≤ n := by omega
        have z0 : IntKind.i64.wrap ch = ch := IntWalk.i64_in _ (by omega)
        have z1 : IntKind.i64.wrap (ch / wd) = ch / wd := IntWalk.i64_in _ (by omega)
        have z2 : IntKind.i64.wrap (ch / wd * c) = ch / wd * c := IntWalk.i64_in _ (by omega)
        have z3 : IntKind.i64.wrap (ch / wd * c + n % c) = row := by rw [← H3.out]; exact IntWalk.i64_in _ (by omega)
        have t2 : ch.tmod wd = ch % wd := Int.tmod_eq_emod_of_nonneg hch.1
        have Q1 := Lib.hid hqq
        clear HD HR hok hg hcp h0 h1 hgw hcw hqq
        go_enter Try.func29, Try.ntmps29
        go_wp2_with fail
        (with_reducible refine (refCheck_yes l d c _ HG hl hd hc).mono ?_); rintro e w1 ⟨rfl, hb⟩
        have S1 := GS.later (w0 := w) (B := w.heap.size) ⟨G.1, G.2.1, G.2.2, below1 w _⟩ hb
        clear hb G
        obtain ⟨g1, g2, g3, F⟩ := S1
        go_wp2_with fail
        (with_reducible refine (HC.out _).mono ?_); rintro e w2 ⟨rfl, hb⟩
        have S2 := GS.later (w0 := w) (B := w.heap.size) ⟨g1, g2, g3, F⟩ hb
        clear hb g1 g2 g3 F
        obtain ⟨g1, g2, g3, F⟩ := S2
        go_wp2_with fail
        try rw [Q1.out]
        have S0 : GS w w.heap.size w.heap.size l d c w2 := ⟨g1, g2, g3, F⟩
        clear g1 g2 g3 F
        go_region_held3 (GS w w.heap.size w.heap.size l d c)
          (first | assumption | exact GS.drew ‹_›)
          ((go_at_call 13; (with_reducible refine (HW.out _).mono ?_); rintro e w3 ⟨rfl, hb⟩; have S3 := (GS.drew S0).later hb))
        clear S0 hb
        obtain ⟨g1, g2, g3, F⟩ := S3
        go_wp2_with fail
        have S0 : GS w w.heap.size w.heap.size l d c w3 := ⟨g1, g2, g3, F⟩
        clear g1 g2 g3 F H3
        go_region_held3 (GS w w.heap.size w.heap.size l d c)
          (first | assumption | exact GS.drew ‹_›)
          (first
            | (go_at_call 13; (with_reducible refine (HW.out _).mono ?_); rintro e w4 ⟨rfl, hb⟩; have S4 := (GS.drew S0).later hb; clear hb)
            | (go_at_call 37; (with_reducible refine (HK.out _).mono ?_); rintro e w5 ⟨rfl, hb⟩; have S5 := S4.later hb))
        go_wp2
        go_ret3
        exact ⟨by rw [H.out, H1.out, H2.out]; rfl, S5.2.2.2⟩
end Go.Proofs.Ytpaegibaikpikaa
end
section
set_option maxRecDepth 20000
namespace Go.Proofs.Ytpaegibaikpikaa
open Go.RowKit

theorem zeroBoolM (w : World) : (zeroValue 4).run Try.prog w = .ok (.bool false) w := by kernel_rfl
theorem plainElem_bool_inv {v : Value} {b : Bool} {ps : List MemPlace} (h : plainElem (H := Unit) Try.prog 4 v = some (.lit (.bool b), ps)) : v = .bool b := by
  unfold plainElem at h
  rw [Try.underlying4] at h
  cases v <;> simp at h
  simp [h]
/-- Block B is a set that holds just these numbers. -/
def SetI (w : World) (B : Nat) (xs : List Int) : Prop :=
  ∃ D : DataW Unit, w.ownsMap Try.prog 3 (plainElem Try.prog 4) B xs.length D ∧ Maps.size D = xs.length ∧ ∀ x : Int, Maps.has D (.int .i64 x) = decide (x ∈ xs) ∧ D.atKey (.int .i64 x) (.lit (.bool false)) = .lit (.bool (decide (x ∈ xs)))
theorem setI_new (w : World) : SetI (w.alloc (.map #[] 0)) w.heap.size [] := ⟨.map [], World.ownsMap_made _ _ _ _, rfl, fun _ => ⟨rfl, rfl⟩⟩
section
variable {w w' : World} {B : Nat} {xs : List Int}
theorem SetI.lt (h : SetI w B xs) : B < w.heap.size := by obtain ⟨D, ho, _⟩ := h; exact ho.lt
theorem SetI.kept {row : Option Nat} (h : SetI w B xs) (hg : w.grownBy w' row) (hne : some B ≠ row) : SetI w' B xs := by obtain ⟨D, ho, hr⟩ := h; exact ⟨D, ho.kept hg hne, hr⟩
theorem SetI.below (h : SetI w B xs) (hb : Below w.heap.size w w') : SetI w' B xs := h.kept (grown_none hb) (by simp)
theorem SetI.look (h : SetI w B xs) (x : Int) (hx : -9223372036854775808 ≤ x ∧ x ≤ 9223372036854775807) : (Instr.lookup 58 (.map (some B)) (.int .i64 x) false).run Try.prog w = .ok (.bool (decide (x ∈ xs))) w := by
  obtain ⟨D, ho, _, hr⟩ := h
  have hw : (Lit.int .i64 x).wf = true := WalkArith.wf_i64 hx
  obtain ⟨v, ps, hrun, hv⟩ := ho.lookup keyI Try.underlying58 (zeroBoolM w) (plainElem_bool Try.underlying4 false) (keyI_of x hw)
  rw [(hr x).2] at hv
  rw [hrun, plainElem_bool_inv hv]
theorem SetI.store (h : SetI w B xs) (hn : xs.length < 1000000) (x : Int) (hx : -9223372036854775808 ≤ x ∧ x ≤ 9223372036854775807) (hnew : x ∉ xs) :
    ∃ w', (Instr.mapUpdate 58 (.map (some B)) (.int .i64 x) (.bool true)).run Try.prog w = .ok () w' ∧ SetI w' B (x :: xs) ∧ w.grownBy w' (some B) := by
  obtain ⟨D, ho, hs, hr⟩ := h
  obtain ⟨w', hrun, ho', hg⟩ := ho.update keyI Try.underlying58 (by unfold maxLen; omega) (keyI_of x (WalkArith.wf_i64 hx)) (plainElem_bool Try.underlying4 true)
  refine ⟨w', hrun, ⟨_, ho', ?_, fun z => ?_⟩, hg⟩
  · rw [Maps.size_put (ho.tidy keyI), (hr x).1, decide_eq_false hnew]; simp [hs]
  · by_cases e : z = x
    · subst e
      have hz : z ∈ z :: xs := List.mem_cons_self
      rw [decide_eq_true hz]
      exact ⟨Maps.has_put_same ho.isMap (keyLitI z) _, Maps.atKey_put_same ho.isMap (keyLitI z) _ _⟩
    · have hne : Lit.int .i64 z ≠ Lit.int .i64 x := fun h => e (lit_int_inj h)
      have hd : decide (z ∈ x :: xs) = decide (z ∈ xs) := by simp [e]
      rw [hd]
      exact ⟨(Maps.has_put_other hne _).trans (hr z).1, (Maps.atKey_put_other hne _ _).trans (hr z).2⟩
theorem SetI.len (h : SetI w B xs) (ty : TypeId) : (Builtin.len_ #[58] ty #[.map (some B)]).run Try.prog w = .ok (.int .i64 (xs.length : Int)) w := by
  obtain ⟨D, ho, hs, _⟩ := h
  rw [ho.len Try.underlying58 ty, hs]
end
end Go.Proofs.Ytpaegibaikpikaa
end
