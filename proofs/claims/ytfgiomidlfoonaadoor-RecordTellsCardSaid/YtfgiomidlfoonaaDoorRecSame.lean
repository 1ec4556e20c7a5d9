/- Records compared. -/
import Derived.Test.YtfgiomidlfoonaaDoorRecFind
import Derived.Test.YtfgiomidlfoonaaDoorKeep
set_option maxRecDepth 8000
set_option linter.unusedVariables false
set_option linter.unusedSimpArgs false
namespace Go.Proofs.YtfgiomidlfoonaaDoor
open Go.RowKit

instance itDec : DecidableEq It := fun x y => decidable_of_iff (x.d = y.d ∧ x.a = y.a ∧ x.b = y.b) ⟨fun h => It.ext' h.1 h.2.1 h.2.2, fun h => by subst h; exact ⟨rfl, rfl, rfl⟩⟩
theorem its_eq {l m : List It} (hl : l.length = m.length) (h : ∀ k, k < l.length → itN l k = itN m k) : l = m := by
  apply List.ext_getElem hl
  intro k h1 h2
  have := h k h1
  simpa [itN, List.getD_eq_getElem?_getD, h1, h2] using this
theorem its_ne {s t : Int} {l m : List It} (j : Nat) (h : itN l j ≠ itN m j) : decide (s = t ∧ l = m) = false := decide_eq_false fun e => h (by rw [e.2])
/-- Bytes compared, told as what stays. -/
theorem same_below (A A' : Option Addr) (n n' c c' B : Nat) (bs bs' : List UInt8) (w : World) (hn : n = bs.length) (hn' : n' = bs'.length) (hr : RdB w B A bs) (hr' : RdB w B A' bs') :
    Calls Tryd.prog 10 #[.slice A n c, .slice A' n' c'] w fun e w' => e = .returned (.bool (decide (bs = bs'))) ∧ Below w.heap.size w w' :=
  (same_any A A' n n' c c' B bs bs' w hn hn' hr hr').mono fun e w' h => by
    obtain ⟨h1, k, rfl⟩ := h
    exact ⟨h1, belowN _ _ _⟩
set_option maxHeartbeats 4000000 in
theorem sameRec_any (s t : Int) (A A' : Option Addr) (n n' c c' : Nat) (l m : List It) (w : World) (hn : l.length = n) (hn' : m.length = n') (h : RdI w w.heap.size A l) (h' : RdI w w.heap.size A' m) :
    Calls Tryd.prog 20 #[.agg #[.int .i64 s, .slice A n c], .agg #[.int .i64 t, .slice A' n' c']] w fun e w' => e = .returned (.bool (decide (s = t ∧ l = m))) ∧ Below w.heap.size w w' := by
  subst hn hn'
  have H := Lib.hid h
  have H' := Lib.hid h'
  have hmx := h.1
  have hmx' := h'.1
  have B2 := Lib.hid (below2 w (.cells #[.int .i64 s, .slice A l.length c] 32) (.cells #[.int .i64 t, .slice A' m.length c'] 32))
  clear h h'
  by_cases h1 : s = t
  · subst h1
    by_cases h2 : l.length = m.length
    · have Hyes := Lib.hid (show (∀ k, k < l.length → itN l k = itN m k) → decide (s = s ∧ l = m) = true from fun q => decide_eq_true ⟨rfl, its_eq h2 q⟩)
      have Hno := Lib.hid (fun j q => its_ne (s := s) (t := s) (l := l) (m := m) j q)
      generalize decide (s = s ∧ l = m) = res at Hyes Hno
      have e0 : ((l.length : Int) != (m.length : Int)) = false := by rw [h2]; exact bne_self_eq_false _
      have Hl := Lib.hid h2
      clear h2
      go_enter Tryd.func20, Tryd.ntmps20
      go_wp2
      go_loopw [25] (fun i wr => ∃ j : Nat, j ≤ l.length ∧ i = .int .i64 j ∧ (∀ k, k < j → itN l k = itN m k) ∧ Below w.heap.size w wr ∧ wr.cell? ⟨w.heap.size + 1, 1, none⟩ = some (.slice A' m.length c')) (fun i _ => l.length - (intOf i).toNat)
      case atStart =>
        have c1 := fun i => cell_of_row _ _ i _ _ _ (heap_alloc_new (w.alloc (.cells #[.int .i64 s, .slice A l.length c] 32)) (.cells #[.int .i64 s, .slice A' m.length c'] 32))
        have hsz : (w.alloc (.cells #[.int .i64 s, .slice A l.length c] 32)).heap.size = w.heap.size + 1 := by simp
        rw [hsz] at c1
        exact ⟨0, Nat.zero_le _, rfl, fun k hk => absurd hk (Nat.not_lt_zero _), B2.out, c1 1⟩
      case round =>
        obtain ⟨j, hj, rfl, hall, hbr, hp1⟩ := hrel
        have Hall := Lib.hid hall
        clear hall
        by_cases hlt : j < l.length
        · have hlt' : j < m.length := by have := Hl.out; omega
          obtain ⟨g, rfl, hg, hc⟩ := H.out.2 (by omega)
          obtain ⟨D, cd, hrp, hrd⟩ := hc j hlt
          obtain ⟨g', rfl, hg', hc'⟩ := H'.out.2 (by omega)
          obtain ⟨D', cd', hrp', hrd'⟩ := hc' j hlt'
          have CS := Lib.hid fun V (hV : Below w.heap.size w V) => same_below D D' _ _ cd cd' _ (itN l j).b (itN m j).b V rfl rfl (hrd.below hV (Nat.le_refl _)) (hrd'.below hV (Nat.le_refl _))
          have Hne := Lib.hid (fun (q : itN l j ≠ itN m j) => Hno.out j q)
          have Hgo := Lib.hid (fun (q : itN l j = itN m j) => show ∀ k, k < j + 1 → itN l k = itN m k from fun k hk => by
            by_cases e : k = j
            · subst e; exact q
            · exact Hall.out k (by omega))
          generalize itN l j = y at hrp CS Hne Hgo
          generalize itN m j = z at hrp' CS Hne Hgo
          have Hrp := Lib.hid (rangeAt_keep (w' := wr) hrp fun k => hbr.cell hg)
          have B1 := hbr.alloc hbr.size (.cells #[.int .i64 y.d, .int .i64 y.a, .slice D y.b.length cd] 29)
          have Hrp' := Lib.hid (rangeAt_keep hrp' fun k => B1.cell hg')
          have BB := Lib.hid (B1.alloc B1.size (.cells #[.int .i64 z.d, .int .i64 z.a, .slice D' z.b.length cd'] 29))
          have hlt1 := World.block_lt_of_cell? _ _ hp1
          have hp2 := (World.cell?_alloc_lt wr (.cells #[.int .i64 y.d, .int .i64 y.a, .slice D y.b.length cd] 29) _ hlt1).trans hp1
          have HP := Lib.hid (And.intro hlt1 hp1)
          have k0 : (0 : Int) ≤ (j : Int) := by omega
          have k1 : (j : Int) < (l.length : Int) := by omega
          have k2 : (j : Int) < (m.length : Int) := by omega
          have HX := Lib.hid (show ((y.d != z.d) = false ∧ (y.a != z.a) = false ∧ decide (y.b = z.b) = true) → y = z from fun ⟨a, b, c⟩ => It.ext' (by simpa using a) (by simpa using b) (by simpa using c))
          have HX1 := Lib.hid (show (y.d != z.d) = true → y ≠ z from fun a e => by rw [e] at a; simp at a)
          have HX2 := Lib.hid (show (y.a != z.a) = true → y ≠ z from fun a e => by rw [e] at a; simp at a)
          have HX3 := Lib.hid (show decide (y.b = z.b) = false → y ≠ z from fun a e => by rw [e] at a; simp at a)
          generalize decide (y.b = z.b) = x3 at CS HX HX3
          clear hrp hrp' hc hc' B1 hrd hrd' hp1 hlt1
          cases x1 : (y.d != z.d)
          · cases x2 : (y.a != z.a)
            · cases x3
              · have R := Lib.hid (Hne.out (HX3.out rfl))
                go_wp2_with (first
                  | ((with_reducible refine (id ?_ : wpList _ _ _ (⟨some 29, _, _, _, _, _⟩ :: _) _ _)); refine wpList_load_mid rfl 29 _ (by rfl) g (j * 3) (by rfl) [.int .i64 y.d, .int .i64 y.a, .slice D y.b.length cd] _ Hrp.out Tryd.underlying29 rfl (by kernel_rfl) ?_)
                  | ((with_reducible refine (id ?_ : wpList _ _ _ (⟨some 34, _, _, _, _, _⟩ :: _) _ _)); refine wpList_load_mid rfl 29 _ (by rfl) g' (j * 3) (by rfl) [.int .i64 z.d, .int .i64 z.a, .slice D' z.b.length cd'] _ Hrp'.out Tryd.underlying29 rfl (by kernel_rfl) ?_)
                  | (go_at_call 10; refine (CS.out _ BB.out).mono ?_; rintro e w1 ⟨rfl, hb1⟩))
                go_ret
                exact ⟨by rw [R.out]; rfl, BB.out.trans (hb1.mono BB.out.size)⟩
              · have R := Lib.hid (Hgo.out (HX.out ⟨x1, x2, rfl⟩))
                go_wp2_with (first
                  | ((with_reducible refine (id ?_ : wpList _ _ _ (⟨some 29, _, _, _, _, _⟩ :: _) _ _)); refine wpList_load_mid rfl 29 _ (by rfl) g (j * 3) (by rfl) [.int .i64 y.d, .int .i64 y.a, .slice D y.b.length cd] _ Hrp.out Tryd.underlying29 rfl (by kernel_rfl) ?_)
                  | ((with_reducible refine (id ?_ : wpList _ _ _ (⟨some 34, _, _, _, _, _⟩ :: _) _ _)); refine wpList_load_mid rfl 29 _ (by rfl) g' (j * 3) (by rfl) [.int .i64 z.d, .int .i64 z.a, .slice D' z.b.length cd'] _ Hrp'.out Tryd.underlying29 rfl (by kernel_rfl) ?_)
                  | (go_at_call 10; refine (CS.out _ BB.out).mono ?_; rintro e w1 ⟨rfl, hb1⟩))
                go_roundw
                case rel =>
                  have hz : w.heap.size + 1 < ((wr.alloc (.cells #[.int .i64 y.d, .int .i64 y.a, .slice D y.b.length cd] 29)).alloc (.cells #[.int .i64 z.d, .int .i64 z.a, .slice D' z.b.length cd'] 29)).heap.size := by have := HP.out.1; simp at this ⊢; omega
                  exact ⟨j + 1, by omega, by go_num, R.out, BB.out.trans (hb1.mono BB.out.size), (hb1.cell (p := ⟨w.heap.size + 1, 1, none⟩) hz).trans ((World.cell?_alloc_lt _ _ _ (by have := HP.out.1; simp at this ⊢; omega)).trans hp2)⟩
                case measure => simp [intOf]; omega
            · have R := Lib.hid (Hne.out (HX2.out x2))
              clear CS
              go_wp2_with (first
                | ((with_reducible refine (id ?_ : wpList _ _ _ (⟨some 29, _, _, _, _, _⟩ :: _) _ _)); refine wpList_load_mid rfl 29 _ (by rfl) g (j * 3) (by rfl) [.int .i64 y.d, .int .i64 y.a, .slice D y.b.length cd] _ Hrp.out Tryd.underlying29 rfl (by kernel_rfl) ?_)
                | ((with_reducible refine (id ?_ : wpList _ _ _ (⟨some 34, _, _, _, _, _⟩ :: _) _ _)); refine wpList_load_mid rfl 29 _ (by rfl) g' (j * 3) (by rfl) [.int .i64 z.d, .int .i64 z.a, .slice D' z.b.length cd'] _ Hrp'.out Tryd.underlying29 rfl (by kernel_rfl) ?_))
              go_ret
              exact ⟨by rw [R.out]; rfl, BB.out⟩
          · have R := Lib.hid (Hne.out (HX1.out x1))
            clear CS
            go_wp2_with (first
              | ((with_reducible refine (id ?_ : wpList _ _ _ (⟨some 29, _, _, _, _, _⟩ :: _) _ _)); refine wpList_load_mid rfl 29 _ (by rfl) g (j * 3) (by rfl) [.int .i64 y.d, .int .i64 y.a, .slice D y.b.length cd] _ Hrp.out Tryd.underlying29 rfl (by kernel_rfl) ?_)
              | ((with_reducible refine (id ?_ : wpList _ _ _ (⟨some 34, _, _, _, _, _⟩ :: _) _ _)); refine wpList_load_mid rfl 29 _ (by rfl) g' (j * 3) (by rfl) [.int .i64 z.d, .int .i64 z.a, .slice D' z.b.length cd'] _ Hrp'.out Tryd.underlying29 rfl (by kernel_rfl) ?_))
            go_ret
            exact ⟨by rw [R.out]; rfl, BB.out⟩
        · obtain rfl : j = l.length := by omega
          have R := Lib.hid (Hyes.out Hall.out)
          go_wp2
          go_ret
          exact ⟨by rw [R.out]; rfl, hbr⟩
    · have R := Lib.hid (show decide (s = s ∧ l = m) = false from decide_eq_false fun e => h2 (by rw [e.2]))
      have e0 : ((l.length : Int) != (m.length : Int)) = true := by rw [bne_iff_ne]; omega
      generalize decide (s = s ∧ l = m) = res at R
      clear h2
      go_enter Tryd.func20, Tryd.ntmps20
      go_wp2
      go_ret
      exact ⟨by rw [R.out]; rfl, B2.out⟩
  · have R := Lib.hid (show decide (s = t ∧ l = m) = false from decide_eq_false fun e => h1 e.1)
    have e0 : (s != t) = true := by rw [bne_iff_ne]; exact h1
    generalize decide (s = t ∧ l = m) = res at R
    clear h1
    go_enter Tryd.func20, Tryd.ntmps20
    go_wp2
    go_ret
    exact ⟨by rw [R.out]; rfl, B2.out⟩
end Go.Proofs.YtfgiomidlfoonaaDoor
