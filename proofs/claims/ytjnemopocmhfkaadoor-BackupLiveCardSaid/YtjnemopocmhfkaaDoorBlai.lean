/- Texts put together: Dsk, KeepCut, SyndQ. -/
import Derived.Test.YtjnemopocmhfkaaDoorBlag
import Derived.Test.YtjnemopocmhfkaaDoorBlah
import Derived.Test.YtjnemopocmhfkaaDoorBlaf
section
namespace Go.Proofs.YtjnemopocmhfkaaDoor
open Go.RowKit

theorem new_at (w : World) : DskAt (w.alloc (.cells (dcells (List.replicate 1664 0) (List.replicate 1664 0) (.slice none 0 0) false).toArray 78)) w.heap.size w.heap.size (.slice none 0 0) Dsk.new :=
  ⟨heap_alloc_new _ _, World.ownsRow_nil _ _ _ _, Nat.le_refl _, by simp [Value.ownBlock], Dsk.new_ok⟩
theorem dsk_new_any (w : World) : Calls Tryd.prog 21 #[] w fun e w' => e = .returned (.pointer (some ⟨w.heap.size, 0, none⟩)) ∧ DskAt w' w.heap.size w.heap.size (.slice none 0 0) Dsk.new ∧ Below w.heap.size w w' := by
  have H := Lib.hid (new_at w)
  have hbuild := build_new
  generalize hC : dcells (List.replicate 1664 0) (List.replicate 1664 0) (.slice none 0 0) false = C at H hbuild
  clear hC
  go_enter Tryd.func21, Tryd.ntmps21
  go_wp2_with ((refine wpList_build_run rfl 78 #[] (by rfl) #[] (by simp) (.agg C.toArray) (hbuild _) ?_))
  go_ret
  exact ⟨rfl, H.out, below1 _ _⟩
section
variable (B b : Nat) (pv : Value) (D : Dsk) (w : World) (h : DskAt w B b pv D)
include h
/-- The error of a call on sector k. -/
def reachE (f : Bool) (k : Int) : Int := if f = true then 5 else if k < 0 ∨ 52 ≤ k then 4 else 0
theorem dsk_reach_any (k : Int) (hk : -9223372036854775808 ≤ k ∧ k ≤ 9223372036854775807) : Calls Tryd.prog 48 #[.pointer (some ⟨b, 0, none⟩), .int .i64 k] w fun e w' => e = .returned (.int .i64 (reachE D.f k)) ∧ w' = w := by
  have hc := cell_df h.blk h.ok.S h.ok.now
  have HE : Hid (reachE D.f k = if D.f = true then 5 else if k < 0 ∨ 52 ≤ k then 4 else 0) := rfl
  clear h
  generalize D.f = f at hc HE ⊢
  generalize reachE f k = E at HE ⊢
  cases f
  · by_cases h1 : k < 0
    · have HE2 := Lib.hid (show E = 4 by rw [HE.out, if_neg (by simp), if_pos (.inl h1)])
      clear HE
      go_enter Tryd.func48, Tryd.ntmps48
      go_wp2
      go_ret
      exact ⟨by rw [HE2.out]; rfl, rfl⟩
    · by_cases h2 : 52 ≤ k
      · have HE2 := Lib.hid (show E = 4 by rw [HE.out, if_neg (by simp), if_pos (.inr h2)])
        clear HE
        go_enter Tryd.func48, Tryd.ntmps48
        go_wp2
        go_ret
        exact ⟨by rw [HE2.out]; rfl, rfl⟩
      · have HE2 := Lib.hid (show E = 0 by rw [HE.out, if_neg (by simp), if_neg (by omega)])
        clear HE
        go_enter Tryd.func48, Tryd.ntmps48
        go_wp2
        go_ret
        exact ⟨by rw [HE2.out]; rfl, rfl⟩
  · have HE2 := Lib.hid (show E = 5 by rw [HE.out, if_pos rfl])
    clear HE
    go_enter Tryd.func48, Tryd.ntmps48
    go_wp2
    go_ret
    exact ⟨by rw [HE2.out]; rfl, rfl⟩
/-- The error of a call that sets sector k to n bytes. -/
def takeE (f : Bool) (k : Int) (n : Nat) : Int := if reachE f k ≠ 0 then reachE f k else if n ≠ 32 then 1 else 0
theorem dsk_take_any (k : Int) (A : Option Addr) (n c : Nat) (hk : -9223372036854775808 ≤ k ∧ k ≤ 9223372036854775807) (hn : n ≤ 140737488355328) :
    Calls Tryd.prog 58 #[.pointer (some ⟨b, 0, none⟩), .int .i64 k, .slice A n c] w fun e w' => e = .returned (.int .i64 (takeE D.f k n)) ∧ w' = w := by
  have C := Lib.hid (dsk_reach_any B b pv D w h k hk)
  have HE : Hid (takeE D.f k n = if reachE D.f k ≠ 0 then reachE D.f k else if n ≠ 32 then 1 else 0) := rfl
  clear h
  generalize takeE D.f k n = E at HE ⊢
  generalize reachE D.f k = R at HE C
  by_cases h1 : R = 0
  · subst h1
    by_cases h2 : n = 32
    · have HE2 := Lib.hid (show E = 0 by rw [HE.out, if_neg (by simp), if_neg (by simp [h2])])
      have e2 : ((n : Int) != 32) = false := by subst h2; rfl
      clear HE h2
      go_enter Tryd.func58, Tryd.ntmps58
      go_wp2_with fail
      refine C.out.mono ?_
      rintro e w' ⟨rfl, rfl⟩
      go_wp2
      go_ret
      exact ⟨by rw [HE2.out]; rfl, rfl⟩
    · have HE2 := Lib.hid (show E = 1 by rw [HE.out, if_neg (by simp), if_pos h2])
      have e2 : ((n : Int) != 32) = true := by rw [bne_iff_ne]; omega
      clear HE h2
      go_enter Tryd.func58, Tryd.ntmps58
      go_wp2_with fail
      refine C.out.mono ?_
      rintro e w' ⟨rfl, rfl⟩
      go_wp2
      go_ret
      exact ⟨by rw [HE2.out]; rfl, rfl⟩
  · have HE2 := Lib.hid (show E = R by rw [HE.out, if_pos h1])
    have e2 : (R != 0) = true := by rw [bne_iff_ne]; exact h1
    clear HE h1
    go_enter Tryd.func58, Tryd.ntmps58
    go_wp2_with fail
    refine C.out.mono ?_
    rintro e w' ⟨rfl, rfl⟩
    go_wp2
    go_ret
    exact ⟨by rw [HE2.out]; rfl, rfl⟩
end
end Go.Proofs.YtjnemopocmhfkaaDoor
end
section
namespace Go.Proofs.YtjnemopocmhfkaaDoor
open Go.RowKit

end Go.Proofs.YtjnemopocmhfkaaDoor
end
section
set_option maxRecDepth 20000
namespace Go.Proofs.YtjnemopocmhfkaaDoor
open Go.RowKit

end Go.Proofs.YtjnemopocmhfkaaDoor
end
