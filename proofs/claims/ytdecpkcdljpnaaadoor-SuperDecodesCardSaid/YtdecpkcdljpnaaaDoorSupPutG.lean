/- What super.putGeom does to bytes of their own. -/
import Derived.Test.YtdecpkcdljpnaaaDoorSupPut
import Derived.Test.YtdecpkcdljpnaaaDoorGeo
set_option linter.unusedVariables false
set_option linter.unusedSimpArgs false
namespace Go.Proofs.YtdecpkcdljpnaaaDoor
open Go.RowKit

theorem OwB.drew {e : TypeId} {w : World} {B : Nat} {v : Value} {bs : List UInt8} (h : OwB e w B v bs) : OwB e w.drew B v bs := h.below (Below.refl _ _).drew
/-- What stays while bytes of block g are set: a box of a geometry. -/
abbrev GO (w0 : World) (g b : Nat) (l d c : Int) (W : World) : Prop := W.cell? ⟨b, 0, none⟩ = some (.int .i64 l) ∧ W.cell? ⟨b, 1, none⟩ = some (.int .i64 d) ∧ W.cell? ⟨b, 2, none⟩ = some (.int .i64 c) ∧ w0.grownBy W (some g)
theorem GO.drew {w0 W : World} {g b : Nat} {l d c : Int} (h : GO w0 g b l d c W) : GO w0 g b l d c W.drew := ⟨h.1, h.2.1, h.2.2.1, grown_drewN h.2.2.2 1⟩
theorem GO.later {w0 W W' : World} {g b : Nat} {l d c : Int} (h : GO w0 g b l d c W) (hg : W.grownBy W' (some g)) (hne : b ≠ g) : GO w0 g b l d c W' := by
  obtain ⟨h1, h2, h3, F⟩ := h
  have hn : ∀ k, some (⟨b, k, none⟩ : Addr).block ≠ some g := fun k e => hne (by injection e)
  exact ⟨hg.cell h1 (hn 0), hg.cell h2 (hn 1), hg.cell h3 (hn 2), F.trans hg⟩
set_option maxHeartbeats 2000000 in
theorem suPutG_any (g off cap B : Nat) (l d c : Int) (bs : List UInt8) (w : World) (hl : 0 ≤ l ∧ l ≤ 255) (hd : 0 ≤ d ∧ d ≤ 255) (hc : 0 ≤ c ∧ c ≤ 255) (h : OwB 5 w B (.slice (some ⟨g, 0, none⟩) 32 32) bs) (hbs : bs.length = 32)
    (hoc : (off = 8 ∧ cap = 24) ∨ (off = 11 ∧ cap = 21)) :
    Calls Tryd.prog 21 #[.slice (some ⟨g, off, none⟩) 3 cap, .agg #[.int .i64 l, .int .i64 d, .int .i64 c]] w fun e w' => e = .returned (.tuple #[]) ∧ OwB 5 w' B (.slice (some ⟨g, 0, none⟩) 32 32) (putK (putK (putK bs off 1 l 1) (off + 1) 1 d 1) (off + 2) 1 c 1) ∧ w.grownBy w' (some g) := by
  have P : Hid (∀ (W : World) (xs : List UInt8) (o cp : Nat) (n : Int), OwB 5 W B (.slice (some ⟨g, 0, none⟩) 32 32) xs → xs.length = 32 → o ≤ 30 → 1 ≤ cp → (0 ≤ n ∧ n ≤ 255) →
      Calls Tryd.prog 20 #[.slice (some ⟨g, o, none⟩) 1 cp, .int .i64 n] W fun e w' => e = .returned (.tuple #[]) ∧ OwB 5 w' B (.slice (some ⟨g, 0, none⟩) 32 32) (putK xs o 1 n 1) ∧ W.grownBy w' (some g)) :=
    Lib.hid fun W xs o cp n ho hx h1 h2 h3 => suPut_any g o 1 cp 32 B n xs W (by omega) ho hx (by omega) (by omega) h2
  have hgl : g < w.heap.size := (h.lt g rfl).2
  have hne : w.heap.size ≠ g := by omega
  have O0 := h.below (below1 w (.cells #[.int .i64 l, .int .i64 d, .int .i64 c] 23))
  have S0 : GO w g w.heap.size l d c (w.alloc (.cells #[.int .i64 l, .int .i64 d, .int .i64 c] 23)) := by
    obtain ⟨a1, a2, a3⟩ := gat_new w l d c 23 (0, 0)
    exact ⟨a1, a2, a3, World.grownBy_alloc _ _ _⟩
  clear h
  generalize hW0 : w.alloc (.cells #[.int .i64 l, .int .i64 d, .int .i64 c] 23) = W0 at O0 S0
  rcases hoc with ⟨rfl, rfl⟩ | ⟨rfl, rfl⟩
  all_goals
    go_enter Tryd.func21, Tryd.ntmps21
    go_wp2
    clear hW0
    go_region_held3 (GO w g w.heap.size l d c)
      (first | assumption | exact GO.drew ‹_›)
      (first
      | (go_at_call 20
         (with_reducible refine (P.out _ bs _ _ _ (OwB.drew O0) hbs (by omega) (by omega) hl).mono ?_)
         rintro e w1 ⟨rfl, O1, g1⟩
         have S1 := (GO.drew S0).later g1 hne
         dsimp only))
    clear S0 O0 g1
    go_wp2
    go_region_held3 (GO w g w.heap.size l d c)
      (first | assumption | exact GO.drew ‹_›)
      (first
      | (go_at_call 20
         (with_reducible refine (P.out _ _ _ _ _ (OwB.drew O1) ((putK_len _ _ _ _ _).trans hbs) (by omega) (by omega) hd).mono ?_)
         rintro e w2 ⟨rfl, O2, g2⟩
         have S2 := (GO.drew S1).later g2 hne
         dsimp only))
    clear S1 O1 g2
    go_wp2
    go_region_held3 (GO w g w.heap.size l d c)
      (first | assumption | exact GO.drew ‹_›)
      (first
      | (go_at_call 20
         (with_reducible refine (P.out _ _ _ _ _ (OwB.drew O2) ((putK_len _ _ _ _ _).trans ((putK_len _ _ _ _ _).trans hbs)) (by omega) (by omega) hc).mono ?_)
         rintro e w3 ⟨rfl, O3, g3⟩
         have S3 := (GO.drew S2).later g3 hne
         dsimp only))
    go_wp2
    go_end0
    exact ⟨rfl, O3, S3.2.2.2⟩
end Go.Proofs.YtdecpkcdljpnaaaDoor
