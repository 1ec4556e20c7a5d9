/- Texts put together: RefInv, RecBox, RecMay, PlayGood, OwnIt, MapRow, SetInt. -/
import Derived.Test.YtenkkdnepmoihaaUpac
import Derived.Test.YtenkkdnepmoihaaProg
import Derived.Test.YtenkkdnepmoihaaUpaf
import Derived.Test.YtenkkdnepmoihaaUpaa
import Derived.Deep.MidRow
import Derived.Test.YtenkkdnepmoihaaUpab
import Derived.Laws.AppendOwnNone
import Derived.Maps.AppendAt
import Derived.Test.YtenkkdnepmoihaaUpad
section
namespace Go.Proofs.Ytenkkdnepmoihaa
open Go.RowKit

set_option maxRecDepth 100000 in
theorem refInv_any (a : Nat) (ha : a < 256) (w : World) : Calls Try.prog 62 #[.int .u8 (a : Int)] w fun e w' => e = .returned (.int .u8 ((ginv a : Nat) : Int)) ∧ w' = w := by
  by_cases h0 : a = 0
  · have e0 : ((a : Int) != 0) = false := by simp; omega
    have e1 : ((a : Int) == 0) = true := by simp; omega
    have Hz : Hid (ginv a = 0) := if_pos h0
    clear h0
    go_enter Try.func62, Try.ntmps62
    go_wp2
    go_loop [3] (fun vk => vk = .int .i64 1) (fun _ => 0)
    case atStart => rfl
    case round =>
      subst hrel
      go_wp2
      go_ret
      exact ⟨ret_int (by rw [Hz.out]; rfl), rfl⟩
  · have e0 : ((a : Int) != 0) = true := by simp; omega
    have e1 : ((a : Int) == 0) = false := by simp; omega
    have Hi := Lib.hid (gmul_inv ha h0)
    have Hl := ginv_lt a
    have hn := ginv_ne h0
    have Ho := Lib.hid fun j hj => inv_only (j := j) ha hj
    clear h0
    generalize ginv a = y at Hi Hl hn Ho
    go_enter Try.func62, Try.ntmps62
    go_wp2
    go_loop [3] (fun vk => ∃ k : Nat, 1 ≤ k ∧ k ≤ y ∧ vk = .int .i64 (k : Int)) (fun vk => 255 - (intOf vk).toNat)
    case atStart => exact ⟨1, by omega, by omega, rfl⟩
    case round =>
      obtain ⟨k, hk1, hk2, rfl⟩ := hrel
      by_cases hy : k = y
      · subst hy
        have Ht : Hid (((gmul a k : Nat) : Int) = 1) := by rw [Hi.out]; rfl
        go_wp2_with (go_at_call 60; refine (refMul_any a k ha Hl _).mono ?_; rintro e w' ⟨rfl, rfl⟩; rw [Ht.out])
        go_ret
        exact ⟨rfl, rfl⟩
      · have hne : gmul a k ≠ 1 := fun h => hy (Ho.out k (by omega) h)
        have Ht : (((gmul a k : Nat) : Int) == 1) = false := by simp; omega
        go_wp2_with (go_at_call 60; refine (refMul_any a k ha (by omega) _).mono ?_; rintro e w' ⟨rfl, rfl⟩)
        go_round
        case rel => exact ⟨k + 1, by omega, by omega, by go_num⟩
        case measure => simp [intOf]; omega
end Go.Proofs.Ytenkkdnepmoihaa
end
section
set_option linter.unusedVariables false
set_option linter.unusedSimpArgs false
namespace Go.Proofs.Ytenkkdnepmoihaa
open Go.RowKit

theorem rx_cell_at {w : World} {B g n cap : Nat} {e : TypeId} {size : Nat} {xs : List Value} (h : w.ownsRow B e size (.slice (some ⟨g, 0, none⟩) n cap) n xs) (j : Nat) (hj : j < xs.length) : w.cell? ⟨g, j, none⟩ = xs[j]? := by
  rcases h.2 with ⟨h1, _⟩ | ⟨g', cap', cur, h1, h2, h3, h4, h5, h6, h7⟩
  · cases h1
  · injection h1 with h8 _ h9
    injection h8 with h8
    injection h8 with h8 _ _
    subst h8 h9
    have hx := h.1
    rw [cell_of_row w g j cur e (0, 0) h3, ← h7, List.getElem?_take, if_pos (by omega), Array.getElem?_toList]
theorem rx_form {w : World} {B n : Nat} {e : TypeId} {size : Nat} {v : Value} {xs : List Value} (h : w.ownsRow B e size v n xs) : ∃ A c, v = .slice A n c ∧ n ≤ c ∧ (0 < n → ∃ g, A = some ⟨g, 0, none⟩ ∧ B ≤ g) := by
  rcases h.2 with ⟨rfl, rfl⟩ | ⟨g, cap, cur, rfl, hB, _, hc, _⟩
  · exact ⟨none, 0, rfl, Nat.le_refl _, fun h => by omega⟩
  · exact ⟨_, cap, rfl, hc, fun _ => ⟨g, rfl, hB⟩⟩
theorem rangeAt_keep {w w' : World} {b o : Nat} {cs : List Value} (h : w.rangeAt b o cs) (hk : ∀ k, w'.cell? ⟨b, k, none⟩ = w.cell? ⟨b, k, none⟩) : w'.rangeAt b o cs := fun j v hj => (hk _).trans (h j v hj)
/-- The cells of Items whose Data lie there. -/
def itcs : List It → List Value → List Value
  | x :: l, u :: xs => .int .i64 x.d :: .int .i64 x.a :: u :: itcs l xs
  | _, _ => []
theorem itcs_len : ∀ (l : List It) (xs : List Value), xs.length = l.length → (itcs l xs).length = l.length * 3
  | [], xs, _ => by simp [itcs]
  | x :: l, [], h => by simp at h
  | x :: l, u :: xs, h => by
    have := itcs_len l xs (by simpa using h)
    simp only [itcs, List.length_cons]; omega
theorem itcs_get : ∀ (l : List It) (xs : List Value) (k : Nat) (u : Value), xs.length = l.length → xs[k]? = some u → ∀ j, j < 3 → (itcs l xs)[k * 3 + j]? = [.int .i64 (itN l k).d, .int .i64 (itN l k).a, u][j]?
  | [], [], k, u, _, h, _, _ => by simp at h
  | [], _ :: _, _, _, h, _, _, _ => by simp at h
  | _ :: _, [], _, _, h, _, _, _ => by simp at h
  | x :: l, v :: xs, 0, u, _, h, j, hj => by
    obtain rfl : v = u := by simpa using h
    match j, hj with
    | 0, _ => rfl
    | 1, _ => rfl
    | 2, _ => rfl
  | x :: l, v :: xs, k + 1, u, hl, h, j, hj => by
    have := itcs_get l xs k u (by simpa using hl) (by simpa using h) j hj
    rw [show (k + 1) * 3 + j = k * 3 + j + 1 + 1 + 1 by omega]
    exact this
theorem itB_get {l : List It} {k : Nat} (hk : k < l.length) : (l.map (·.b)).getD k [] = (itN l k).b := by
  simp [itN, List.getD_eq_getElem?_getD, hk]
end Go.Proofs.Ytenkkdnepmoihaa
end
section
set_option linter.unusedVariables false
set_option linter.unusedSimpArgs false
namespace Go.Proofs.Ytenkkdnepmoihaa
open Go.RowKit

end Go.Proofs.Ytenkkdnepmoihaa
end
section
set_option linter.unusedVariables false
set_option linter.unusedSimpArgs false
namespace Go.Proofs.Ytenkkdnepmoihaa
open Go.RowKit

def pgO (n : Int) : Bool := gOk (pgL n) (pgD n) (pgC n)
def goL (n : Int) : Int := if pgO n = true then pgL n else 5
def goD (n : Int) : Int := if pgO n = true then pgD n else 3
def goC (n : Int) : Int := if pgO n = true then pgC n else 1
theorem go_ok (n : Int) : gOk (goL n) (goD n) (goC n) = true := by
  unfold goL goD goC
  cases h : pgO n
  · rfl
  · simp; exact h
theorem below_cells {W w1 : World} (hb : Below W.heap.size W w1) : (∀ b o, b < W.heap.size → w1.cell? ⟨b, o, none⟩ = W.cell? ⟨b, o, none⟩) ∧ (∀ b o, b < W.heap.size → w1.frozen? ⟨b, o, none⟩ = W.frozen? ⟨b, o, none⟩) :=
  ⟨fun b o h => hb.cell (p := ⟨b, o, none⟩) h, fun b o h => hb.frozen (p := ⟨b, o, none⟩) h⟩
set_option maxHeartbeats 1000000 in
theorem playGood_any (n : Int) (w : World) (hn : -9223372036854775808 ≤ n ∧ n ≤ 9223372036854775807) :
    Calls Try.prog 4 #[.int .i64 n] w fun e w' => e = .returned (.agg #[.int .i64 (goL n), .int .i64 (goD n), .int .i64 (goC n)]) ∧ Below w.heap.size w w' := by
  have HP := Lib.hid (fun W => playGeom_any n W hn)
  have b := pg_bd n
  have HC := Lib.hid (fun W => refCheck_any (pgL n) (pgD n) (pgC n) W (by omega) (by omega) (by omega))
  obtain ⟨L, hL⟩ : ∃ L, L = goL n := ⟨_, rfl⟩
  obtain ⟨D, hD⟩ : ∃ D, D = goD n := ⟨_, rfl⟩
  obtain ⟨C, hC⟩ : ∃ C, C = goC n := ⟨_, rfl⟩
  have HL := Lib.hid (hL.trans (show goL n = if gOk (pgL n) (pgD n) (pgC n) = true then pgL n else 5 from rfl))
  have HD := Lib.hid (hD.trans (show goD n = if gOk (pgL n) (pgD n) (pgC n) = true then pgD n else 3 from rfl))
  have HK := Lib.hid (hC.trans (show goC n = if gOk (pgL n) (pgD n) (pgC n) = true then pgC n else 1 from rfl))
  rw [← hL, ← hD, ← hC]
  clear hL hD hC
  generalize pgL n = l at b HP HC HL HD HK
  generalize pgD n = d at b HP HC HL HD HK
  generalize pgC n = c at b HP HC HL HD HK
  generalize gOk l d c = ok at HC HL HD HK
  have G := gat_new w 0 0 0 24 (0, 0)
  go_enter Try.func4, Try.ntmps4
  go_wp2_with fail
  (with_reducible refine (HP.out _).mono ?_); rintro e w1 ⟨rfl, hb⟩
  obtain ⟨hc1, hf1⟩ := below_cells hb
  have G1 := (G.below hb (by simp)).below (below1 w1 (.cells #[.int .i64 l, .int .i64 d, .int .i64 c] 24)) (by have := hb.size; simp at this; omega)
  have hz1 : w.heap.size < w1.heap.size := by have := hb.size; simp at this; omega
  have F1 := (below1 w _).trans (hb.mono (by simp))
  clear hb
  go_wp2_with fail
  (with_reducible refine (HC.out _).mono ?_); rintro e w2 ⟨rfl, hb⟩
  obtain ⟨hc2, hf2⟩ := below_cells hb
  obtain ⟨g1, g2, g3⟩ := G1.below hb (by simp; omega)
  have hz2 : w1.heap.size < w2.heap.size := by have := hb.size; simp at this; omega
  have F2 := F1.trans (((below1 w1 _).trans (hb.mono (by simp))).mono F1.size)
  clear hb F1
  cases ok
  · go_wp2_with fail
    refine bodyPost_ret (v := .agg #[.int .i64 5, .int .i64 3, .int .i64 1]) (by simp [results, Try.results4, go_sem, g1, g2, g3]) rfl ⟨?_, ?_⟩
    · rw [HL.out, HD.out, HK.out]; rfl
    · exact ((F2.setCell (Nat.le_refl _) _).setCell (Nat.le_refl _) _).setCell (Nat.le_refl _) _
  · go_wp2_with fail
    refine bodyPost_ret (v := .agg #[.int .i64 l, .int .i64 d, .int .i64 c]) (by simp [results, Try.results4, go_sem, g1, g2, g3]) rfl ⟨?_, ?_⟩
    · rw [HL.out, HD.out, HK.out]; rfl
    · exact ((F2.setCell (Nat.le_refl _) _).setCell (Nat.le_refl _) _).setCell (Nat.le_refl _) _
end Go.Proofs.Ytenkkdnepmoihaa
end
section
set_option linter.unusedVariables false
set_option linter.unusedSimpArgs false
namespace Go.Proofs.Ytenkkdnepmoihaa
open Go.RowKit

/-- Values that read as rows, none of them in block ob, all from lo on. -/
def RowsL (w : World) (lo : Nat) (ob : Option Nat) (xs : List Value) (rs : List (List UInt8)) : Prop :=
  xs.length = rs.length ∧ ∀ k, k < rs.length → ∃ A c, xs[k]? = some (.slice A (rs.getD k []).length c) ∧ (rs.getD k []).length ≤ c ∧ RdB w w.heap.size A (rs.getD k []) ∧ (0 < (rs.getD k []).length → ∀ a, A = some a → some a.block ≠ ob ∧ lo ≤ a.block)
section
variable {w w' : World} {lo : Nat} {ob ob' : Option Nat} {xs ys : List Value} {rs qs : List (List UInt8)}
theorem RowsL.nil (w : World) (lo : Nat) (ob : Option Nat) : RowsL w lo ob [] [] := ⟨rfl, fun k hk => by simp at hk⟩
theorem RowsL.le {lo' : Nat} (h : RowsL w lo ob xs rs) (hl : lo' ≤ lo) : RowsL w lo' ob xs rs :=
  ⟨h.1, fun k hk => by
    obtain ⟨A, c, h1, hc, h2, h3⟩ := h.2 k hk
    exact ⟨A, c, h1, hc, h2, fun h0 a ha => ⟨(h3 h0 a ha).1, Nat.le_trans hl (h3 h0 a ha).2⟩⟩⟩
/-- A row grows, that holds none of them. -/
theorem RowsL.grown {row : Option Nat} (h : RowsL w lo ob xs rs) (hg : w.grownBy w' row) (hr : row = ob ∨ ∃ q, row = some q ∧ q < lo) (ho : ob' = ob ∨ ob' = some w.heap.size) : RowsL w' lo ob' xs rs :=
  ⟨h.1, fun k hk => by
    obtain ⟨A, c, h1, hcap, h2, h3⟩ := h.2 k hk
    refine ⟨A, c, h1, hcap, ⟨h2.1, fun h0 => ?_⟩, fun h0 a ha => ⟨?_, (h3 h0 a ha).2⟩⟩
    · obtain ⟨b, off, e, hb, hc⟩ := h2.2 h0
      have hne := h3 h0 _ e
      have hne2 : some b ≠ row := by
        rcases hr with rfl | ⟨q, rfl, hq⟩
        · exact hne.1
        · intro e; injection e with e; have : lo ≤ b := hne.2; omega
      refine ⟨b, off, e, by have := hg.size; omega, fun j hj => ?_⟩
      rw [← hc j hj]
      exact World.cell?_of_block (w := w) (hg.block b hb hne2)
    · rcases ho with rfl | rfl
      · exact (h3 h0 a ha).1
      · obtain ⟨b, off, e, hb, hc⟩ := h2.2 h0
        rw [ha] at e
        injection e with e
        subst e
        intro e
        injection e with e
        simp at e
        omega⟩
end
theorem itcs_app : ∀ (l l2 : List It) (xs xs2 : List Value), xs.length = l.length → itcs (l ++ l2) (xs ++ xs2) = itcs l xs ++ itcs l2 xs2
  | [], _, [], _, _ => rfl
  | [], _, _ :: _, _, h => by simp at h
  | _ :: _, _, [], _, h => by simp at h
  | y :: l, l2, u :: xs, xs2, h => by
    have := itcs_app l l2 xs xs2 (by simpa using h)
    simp only [List.cons_append, itcs, this]
theorem itcs_one : ∀ (l : List It) (xs : List Value), (∀ u ∈ xs, u.oneCell' = true) → ∀ u ∈ itcs l xs, u.oneCell' = true
  | [], _, _, u, hu => by simp [itcs] at hu
  | _ :: _, [], _, u, hu => by simp [itcs] at hu
  | x :: l, v :: xs, h, u, hu => by
    simp only [itcs, List.mem_cons] at hu
    rcases hu with rfl | rfl | rfl | hu
    · rfl
    · rfl
    · exact h _ (List.mem_cons_self ..)
    · exact itcs_one l xs (fun u hu => h u (List.mem_cons_of_mem _ hu)) u hu
/-- Items of one's own: their row lies from B on; their Data from lo on, and not in that row. -/
def OwIt (e : TypeId) (w : World) (B lo : Nat) (v : Value) (l : List It) : Prop :=
  ∃ xs, w.ownsRow B e 3 v l.length (itcs l xs) ∧ RowsL w lo v.ownBlock xs (l.map (·.b)) ∧ l.length ≤ 1000000
section
variable {e : TypeId} {w w' : World} {B lo : Nat} {v : Value} {l : List It}
theorem OwIt.nil (e : TypeId) (w : World) (B lo : Nat) : OwIt e w B lo (.slice none 0 0) [] := ⟨[], World.ownsRow_nil _ _ _ _, RowsL.nil _ _ _, by simp⟩
/-- A block is written that is none of these. -/
theorem OwIt.far {q : Nat} (h : OwIt e w B lo v l) (hg : w.grownBy w' (some q)) (hB : q < B) (hl : q < lo) : OwIt e w' B lo v l := by
  obtain ⟨xs, h1, h2, h3⟩ := h
  refine ⟨xs, h1.kept hg (.inr fun e => ?_), h2.grown hg (.inr ⟨q, rfl, hl⟩) (.inl rfl), h3⟩
  have := (h1.lt q e).1; omega
theorem OwIt.le {B' lo' : Nat} (h : OwIt e w B lo v l) (hB : B' ≤ B) (hl : lo' ≤ lo) : OwIt e w B' lo' v l := by
  obtain ⟨xs, h1, h2, h3⟩ := h
  refine ⟨xs, ⟨h1.1, ?_⟩, h2.le hl, h3⟩
  rcases h1.2 with h1 | ⟨g, cap, cur, h1, h2, r⟩
  · exact .inl h1
  · exact .inr ⟨g, cap, cur, h1, by omega, r⟩
end
section
variable {P : Program} (w : World)
end
end Go.Proofs.Ytenkkdnepmoihaa
end
section
set_option maxRecDepth 20000
set_option linter.unusedVariables false
set_option linter.unusedSimpArgs false
namespace Go.Proofs.Ytenkkdnepmoihaa
open Go.RowKit

section
variable {w w' : World} {B n : Nat} {F : Int → Option Value}
end
end Go.Proofs.Ytenkkdnepmoihaa
end
section
set_option maxRecDepth 20000
namespace Go.Proofs.Ytenkkdnepmoihaa
open Go.RowKit

section
variable {w w' : World} {B : Nat} {xs : List Int}
end
end Go.Proofs.Ytenkkdnepmoihaa
end
