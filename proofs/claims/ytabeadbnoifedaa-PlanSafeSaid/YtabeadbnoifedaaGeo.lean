/- What geom's functions compute. -/
import Derived.Test.YtabeadbnoifedaaProg
import Derived.Test.YtabeadbnoifedaaMem
import Derived.Test.YtabeadbnoifedaaGeoMath
namespace Go.Proofs.Ytabeadbnoifedaa
open Go.RowKit

theorem gret_int {k : IntKind} {a b : Int} (h : a = b) : Ending.returned (.int k a) = .returned (.int k b) := by rw [h]

theorem leveled_any (l d c : Int) (w : World) (hl : -9223372036854775808 ≤ l ∧ l ≤ 9223372036854775807) (hd : -9223372036854775808 ≤ d ∧ d ≤ 9223372036854775807) (_ : -9223372036854775808 ≤ c ∧ c ≤ 9223372036854775807) :
    Calls Try.prog 36 #[.agg #[.int .i64 l, .int .i64 d, .int .i64 c]] w fun e w' => e = .returned (.bool (lvB l d)) ∧ Below w.heap.size w w' := by
  by_cases h8 : 8 < d
  · have H : Hid (lvB l d = false) := lvB_no (by omega)
    go_enter Try.func36, Try.ntmps36
    go_wp2
    go_ret
    exact ⟨by rw [H.out]; rfl, below1 _ _⟩
  · by_cases h5 : l = 5
    · subst h5
      have H : Hid (lvB 5 d = decide (3 ≤ d)) := lvB_5 (by omega)
      go_enter Try.func36, Try.ntmps36
      go_wp2
      go_ret
      exact ⟨by rw [H.out]; rfl, below1 _ _⟩
    · have e5 : (l == 5) = false := by simpa using h5
      by_cases h6 : l = 6
      · subst h6
        have H : Hid (lvB 6 d = decide (4 ≤ d)) := lvB_6 (by omega)
        go_enter Try.func36, Try.ntmps36
        go_wp2
        go_ret
        exact ⟨by rw [H.out]; rfl, below1 _ _⟩
      · have e6 : (l == 6) = false := by simpa using h6
        have H : Hid (lvB l d = false) := lvB_no (by omega)
        go_enter Try.func36, Try.ntmps36
        go_wp2
        go_ret
        exact ⟨by rw [H.out]; rfl, below1 _ _⟩
theorem chunked_any (l d c : Int) (w : World) (_ : -9223372036854775808 ≤ l ∧ l ≤ 9223372036854775807) (_ : -9223372036854775808 ≤ d ∧ d ≤ 9223372036854775807) (_ : -9223372036854775808 ≤ c ∧ c ≤ 9223372036854775807) :
    Calls Try.prog 37 #[.agg #[.int .i64 l, .int .i64 d, .int .i64 c]] w fun e w' => e = .returned (.bool (chB c)) ∧ Below w.heap.size w w' := by
  by_cases h1 : c = 1
  · subst h1
    have H : Hid (chB 1 = true) := chB_yes (by omega)
    go_enter Try.func37, Try.ntmps37
    go_wp2
    go_ret
    exact ⟨by rw [H.out]; rfl, below1 _ _⟩
  · have e1 : (c == 1) = false := by simpa using h1
    by_cases h2 : c = 2
    · subst h2
      have H : Hid (chB 2 = true) := chB_yes (by omega)
      go_enter Try.func37, Try.ntmps37
      go_wp2
      go_ret
      exact ⟨by rw [H.out]; rfl, below1 _ _⟩
    · have e2 : (c == 2) = false := by simpa using h2
      by_cases h4 : c = 4
      · subst h4
        have H : Hid (chB 4 = true) := chB_yes (by omega)
        go_enter Try.func37, Try.ntmps37
        go_wp2
        go_ret
        exact ⟨by rw [H.out]; rfl, below1 _ _⟩
      · have e4 : (c == 4) = false := by simpa using h4
        have H : Hid (chB c = false) := chB_no (by omega)
        go_enter Try.func37, Try.ntmps37
        go_wp2
        go_ret
        exact ⟨by rw [H.out]; rfl, below1 _ _⟩

/-- The block holds this geometry. -/
def GAt (w : World) (b : Nat) (l d c : Int) : Prop := w.cell? ⟨b, 0, none⟩ = some (.int .i64 l) ∧ w.cell? ⟨b, 1, none⟩ = some (.int .i64 d) ∧ w.cell? ⟨b, 2, none⟩ = some (.int .i64 c)
theorem gat_new (w : World) (l d c : Int) (t : TypeId) (f : Nat × Nat) : GAt (w.alloc (.cells #[.int .i64 l, .int .i64 d, .int .i64 c] t f)) w.heap.size l d c :=
  ⟨cell_of_row _ _ 0 _ _ _ (heap_alloc_new w _), cell_of_row _ _ 1 _ _ _ (heap_alloc_new w _), cell_of_row _ _ 2 _ _ _ (heap_alloc_new w _)⟩
theorem GAt.below {w w' : World} {b B : Nat} {l d c : Int} (h : GAt w b l d c) (hb : Below B w w') (hB : b < B) : GAt w' b l d c :=
  ⟨(hb.cell (p := ⟨b, 0, none⟩) hB).trans h.1, (hb.cell (p := ⟨b, 1, none⟩) hB).trans h.2.1, (hb.cell (p := ⟨b, 2, none⟩) hB).trans h.2.2⟩
/-- What stays while callees make memory: a box, and all below B. -/
abbrev GS (w0 : World) (B b : Nat) (l d c : Int) (W : World) : Prop := W.cell? ⟨b, 0, none⟩ = some (.int .i64 l) ∧ W.cell? ⟨b, 1, none⟩ = some (.int .i64 d) ∧ W.cell? ⟨b, 2, none⟩ = some (.int .i64 c) ∧ Below B w0 W
theorem GS.drew {w0 W : World} {B b : Nat} {l d c : Int} (h : GS w0 B b l d c W) : GS w0 B b l d c W.drew := ⟨h.1, h.2.1, h.2.2.1, h.2.2.2.drew⟩
theorem GS.later {w0 W W' : World} {B b : Nat} {l d c : Int} (h : GS w0 B b l d c W) (hb : Below W.heap.size W W') (hB : B ≤ w0.heap.size := by exact Nat.le_refl _) : GS w0 B b l d c W' := by
  obtain ⟨h1, h2, h3, F⟩ := h
  have hl := World.block_lt_of_cell? _ _ h1
  obtain ⟨a1, a2, a3⟩ := GAt.below ⟨h1, h2, h3⟩ hb hl
  exact ⟨a1, a2, a3, F.trans (hb.mono (Nat.le_trans hB F.size))⟩
theorem check_any (l d c : Int) (w : World) (hl : -9223372036854775808 ≤ l ∧ l ≤ 9223372036854775807) (hd : -9223372036854775808 ≤ d ∧ d ≤ 9223372036854775807) (hc : -9223372036854775808 ≤ c ∧ c ≤ 9223372036854775807) :
    Calls Try.prog 32 #[.agg #[.int .i64 l, .int .i64 d, .int .i64 c]] w fun e w' => e = .returned (.int .i64 (gErr l d c)) ∧ Below w.heap.size w w' := by
  cases hL : lvB l d
  · have H : Hid (gOk l d c = false) := by unfold gOk; rw [hL]; rfl
    have HL := Lib.hid hL
    clear hL
    go_enter Try.func32, Try.ntmps32
    go_wp2_with fail
    (with_reducible refine (leveled_any l d c _ hl hd hc).mono ?_); rintro e w1 ⟨rfl, hb⟩
    rw [HL.out]
    have F := (below1 w _).trans (hb.mono (by simp))
    clear hb
    go_wp2_with fail
    go_ret
    exact ⟨by rw [gErr_no H.out]; rfl, F⟩
  · have H : Hid (gOk l d c = chB c) := by unfold gOk; rw [hL]; rfl
    have HL := Lib.hid hL
    clear hL
    have G := gat_new w l d c 23 (0, 0)
    go_enter Try.func32, Try.ntmps32
    go_wp2_with fail
    (with_reducible refine (leveled_any l d c _ hl hd hc).mono ?_); rintro e w1 ⟨rfl, hb⟩
    rw [HL.out]
    have F := (below1 w _).trans (hb.mono (by simp))
    obtain ⟨g1, g2, g3⟩ := G.below hb (by simp)
    clear hb
    go_wp2_with fail
    (with_reducible refine (chunked_any l d c _ hl hd hc).mono ?_); rintro e w2 ⟨rfl, hb⟩
    rw [← H.out]
    have F2 := F.trans (hb.mono F.size)
    clear hb F
    cases hG : gOk l d c
    all_goals
      have HG := Lib.hid hG
      clear hG
      go_wp2_with fail
      go_ret
      exact ⟨by first | (rw [gErr_no HG.out]; rfl) | (rw [gErr_yes HG.out]; rfl), F2⟩
theorem check_yes (l d c : Int) (w : World) (h : Hid (gOk l d c = true)) (hl : -9223372036854775808 ≤ l ∧ l ≤ 9223372036854775807) (hd : -9223372036854775808 ≤ d ∧ d ≤ 9223372036854775807) (hc : -9223372036854775808 ≤ c ∧ c ≤ 9223372036854775807) :
    Calls Try.prog 32 #[.agg #[.int .i64 l, .int .i64 d, .int .i64 c]] w fun e w' => e = .returned (.int .i64 0) ∧ Below w.heap.size w w' := by
  have := check_any l d c w hl hd hc
  rwa [gErr_yes h.out] at this
theorem check_no (l d c : Int) (w : World) (h : Hid (gOk l d c = false)) (hl : -9223372036854775808 ≤ l ∧ l ≤ 9223372036854775807) (hd : -9223372036854775808 ≤ d ∧ d ≤ 9223372036854775807) (hc : -9223372036854775808 ≤ c ∧ c ≤ 9223372036854775807) :
    Calls Try.prog 32 #[.agg #[.int .i64 l, .int .i64 d, .int .i64 c]] w fun e w' => e = .returned (.int .i64 1) ∧ Below w.heap.size w w' := by
  have := check_any l d c w hl hd hc
  rwa [gErr_no h.out] at this

theorem budget_any (l d c : Int) (w : World) (hl : -9223372036854775808 ≤ l ∧ l ≤ 9223372036854775807) (hd : -9223372036854775808 ≤ d ∧ d ≤ 9223372036854775807) (hc : -9223372036854775808 ≤ c ∧ c ≤ 9223372036854775807) :
    Calls Try.prog 38 #[.agg #[.int .i64 l, .int .i64 d, .int .i64 c]] w fun e w' => e = .returned (.int .i64 (gBud l d c)) ∧ Below w.heap.size w w' := by
  have G := gat_new w l d c 23 (0, 0)
  cases hG : gOk l d c
  · have HG := Lib.hid hG
    clear hG
    go_enter Try.func38, Try.ntmps38
    go_wp2_with fail
    (with_reducible refine (check_no l d c _ HG hl hd hc).mono ?_); rintro e w1 ⟨rfl, hb⟩
    have F := (below1 w _).trans (hb.mono (by simp))
    clear hb
    go_wp2_with fail
    go_ret
    exact ⟨by rw [gBud_no HG.out]; rfl, F⟩
  · have HG := Lib.hid hG
    clear hG
    by_cases h6 : l = 6
    · subst h6
      go_enter Try.func38, Try.ntmps38
      go_wp2_with fail
      (with_reducible refine (check_yes 6 d c _ HG hl hd hc).mono ?_); rintro e w1 ⟨rfl, hb⟩
      have F := (below1 w _).trans (hb.mono (by simp))
      obtain ⟨g1, g2, g3⟩ := G.below hb (by simp)
      clear hb
      go_wp2_with fail
      go_ret
      exact ⟨by rw [gBud_yes HG.out]; rfl, F⟩
    · obtain rfl : l = 5 := by have := gOk_yes HG.out; omega
      clear h6
      go_enter Try.func38, Try.ntmps38
      go_wp2_with fail
      (with_reducible refine (check_yes 5 d c _ HG hl hd hc).mono ?_); rintro e w1 ⟨rfl, hb⟩
      have F := (below1 w _).trans (hb.mono (by simp))
      obtain ⟨g1, g2, g3⟩ := G.below hb (by simp)
      clear hb
      go_wp2_with fail
      go_ret
      exact ⟨by rw [gBud_yes HG.out]; rfl, F⟩
theorem width_any (l d c : Int) (w : World) (hl : -9223372036854775808 ≤ l ∧ l ≤ 9223372036854775807) (hd : -9223372036854775808 ≤ d ∧ d ≤ 9223372036854775807) (hc : -9223372036854775808 ≤ c ∧ c ≤ 9223372036854775807) :
    Calls Try.prog 33 #[.agg #[.int .i64 l, .int .i64 d, .int .i64 c]] w fun e w' => e = .returned (.int .i64 (gWid l d c)) ∧ Below w.heap.size w w' := by
  have G := gat_new w l d c 23 (0, 0)
  cases hG : gOk l d c
  · have HG := Lib.hid hG
    clear hG
    go_enter Try.func33, Try.ntmps33
    go_wp2_with fail
    (with_reducible refine (check_no l d c _ HG hl hd hc).mono ?_); rintro e w1 ⟨rfl, hb⟩
    have F := (below1 w _).trans (hb.mono (by simp))
    clear hb
    go_wp2_with fail
    go_ret
    exact ⟨by rw [gWid_no HG.out]; rfl, F⟩
  · have HG := Lib.hid hG
    clear hG
    have HW : Hid (gWid l d c = d - gBud l d c) := by rw [gWid_yes HG.out, gBud_yes HG.out]; rfl
    have hB := gBud_bd l d c
    have hd3 := gOk_bd HG.out
    go_enter Try.func33, Try.ntmps33
    go_wp2_with fail
    (with_reducible refine (check_yes l d c _ HG hl hd hc).mono ?_); rintro e w1 ⟨rfl, hb⟩
    have F := (below1 w _).trans (hb.mono (by simp))
    have G1 := G.below hb (by simp)
    have z1 : w.heap.size < w1.heap.size := by have := hb.size; simp at this; omega
    clear hb G
    have HB : Hid (∀ W, Calls Try.prog 38 #[.agg #[.int .i64 l, .int .i64 d, .int .i64 c]] W fun e w' => e = .returned (.int .i64 (gBud l d c)) ∧ Below W.heap.size W w') := Lib.hid fun W => budget_any l d c W hl hd hc
    generalize gBud l d c = bd at hB HW HB
    obtain ⟨g1, g2, g3⟩ := G1
    go_wp2_with fail
    have S0 : GS w w.heap.size w.heap.size l d c w1 := ⟨g1, g2, g3, F⟩
    clear g1 g2 g3 F z1
    go_region_held3 (GS w w.heap.size w.heap.size l d c)
      (first | assumption | exact GS.drew ‹_›)
      ((go_at_call 38; (with_reducible refine (HB.out _).mono ?_); rintro e w2 ⟨rfl, hb⟩; have S2 := (GS.drew S0).later hb))
    go_wp2
    go_ret
    exact ⟨by rw [HW.out]; exact gret_int (IntWalk.i64_in _ (by omega)), S2.2.2.2⟩
/-- Two boxes that stay. -/
abbrev GS2 (w0 : World) (B b b' : Nat) (l d c l' d' c' : Int) (W : World) : Prop := W.cell? ⟨b, 0, none⟩ = some (.int .i64 l) ∧ W.cell? ⟨b, 1, none⟩ = some (.int .i64 d) ∧ W.cell? ⟨b, 2, none⟩ = some (.int .i64 c) ∧ W.cell? ⟨b', 0, none⟩ = some (.int .i64 l') ∧ W.cell? ⟨b', 1, none⟩ = some (.int .i64 d') ∧ W.cell? ⟨b', 2, none⟩ = some (.int .i64 c') ∧ Below B w0 W
theorem GS2.drew {w0 W : World} {B b b' : Nat} {l d c l' d' c' : Int} (h : GS2 w0 B b b' l d c l' d' c' W) : GS2 w0 B b b' l d c l' d' c' W.drew := ⟨h.1, h.2.1, h.2.2.1, h.2.2.2.1, h.2.2.2.2.1, h.2.2.2.2.2.1, h.2.2.2.2.2.2.drew⟩
theorem GS2.later {w0 W W' : World} {B b b' : Nat} {l d c l' d' c' : Int} (h : GS2 w0 B b b' l d c l' d' c' W) (hb : Below W.heap.size W W') (hB : B ≤ w0.heap.size := by exact Nat.le_refl _) : GS2 w0 B b b' l d c l' d' c' W' := by
  obtain ⟨h1, h2, h3, k1, k2, k3, F⟩ := h
  have hl := World.block_lt_of_cell? _ _ h1
  have kl := World.block_lt_of_cell? _ _ k1
  obtain ⟨a1, a2, a3⟩ := GAt.below ⟨h1, h2, h3⟩ hb hl
  obtain ⟨b1, b2, b3⟩ := GAt.below ⟨k1, k2, k3⟩ hb kl
  exact ⟨a1, a2, a3, b1, b2, b3, F.trans (hb.mono (Nat.le_trans hB F.size))⟩
theorem gs2_start (w : World) (l d c l' d' c' : Int) (t t' : TypeId) (f f' : Nat × Nat) :
    GS2 w w.heap.size w.heap.size (w.heap.size + 1) l d c l' d' c' ((w.alloc (.cells #[.int .i64 l, .int .i64 d, .int .i64 c] t f)).alloc (.cells #[.int .i64 l', .int .i64 d', .int .i64 c'] t' f')) := by
  have G := gat_new w l d c t f
  have G' := G.below (below1 _ (.cells #[.int .i64 l', .int .i64 d', .int .i64 c'] t' f')) (by simp)
  have K := gat_new (w.alloc (.cells #[.int .i64 l, .int .i64 d, .int .i64 c] t f)) l' d' c' t' f'
  rw [show (w.alloc (.cells #[.int .i64 l, .int .i64 d, .int .i64 c] t f)).heap.size = w.heap.size + 1 by simp] at K
  exact ⟨G'.1, G'.2.1, G'.2.2, K.1, K.2.1, K.2.2, below2 _ _ _⟩
end Go.Proofs.Ytabeadbnoifedaa
