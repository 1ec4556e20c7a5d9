/- The document's own places: Numbers, Back. -/
import Derived.Test.YtabeadbnoifedaaRefOf
import Derived.Test.YtabeadbnoifedaaPlaceNums
import Derived.Test.YtabeadbnoifedaaPlaceBackMath
set_option linter.unusedVariables false
set_option linter.unusedSimpArgs false
set_option maxRecDepth 20000
namespace Go.Proofs.Ytabeadbnoifedaa
open Go.RowKit

theorem step_append_J {w : World} {ops : Array Oper} {o : Oper} {a : Act} {K : Act → World → Prop} {Q : Exit → Act → World → Prop} {E : Prop} (hgd : o.guard = none) (s x : Operand)
    (ho : o.op = .call { callee := .builtin .append, args := #[s, x], argTypes := #[29, 29] })
    (base : Nat) (v : Value) (zs : List Int) (hs : a.eval s = v) (hown : OwJ w base v zs) (hl : zs.length ≤ 1000000) (g : Nat) (z : Int) (hx : a.eval x = .slice (some ⟨g, 0, none⟩) 1 1) (hg : w.cell? ⟨g, 0, none⟩ = some (.int .i64 z))
    (hbase : base ≤ w.heap.size)
    (h : ∀ v' w', OwJ w' base v' (zs ++ [z]) → w.grownBy w' v.ownBlock → K (a.put o.dst v') w') :
    if Region.wanted o (yielded ops a.tmps) = true then Oper.wp Try.prog o a w K Q else E := by
  obtain ⟨i, hi, hzz⟩ := Option.map_eq_some_iff.1 info_z
  simp only [Prod.mk.injEq] at hzz
  obtain ⟨hz, hsz, hb⟩ := hzz
  refine step_append_lies w hgd s x 29 ho base 3 i (.int .i64 0) 1 8 Try.underlying29 hi hz hsz hb rfl (by omega) v zs.length (zs.map zv) hs hown ⟨g, 0, none⟩ 1 1 [zv z] hx rfl (fun j u hj => ?_) (fun u hu => ?_) (by omega) (by unfold maxLen; omega) (by omega) hbase _ rfl (fun g' cap w' h1 h2 _ _ => h _ w' ?_ h2)
  · rcases j with _ | j
    · simp at hj; subst hj; exact hg
    · simp at hj
  · simp at hu; subst hu; rfl
  · unfold OwJ
    rw [List.length_append, List.map_append]
    exact h1
theorem OwJ.lt {w : World} {B : Nat} {v : Value} {zs : List Int} (h : OwJ w B v zs) : ∀ k, v.ownBlock = some k → B ≤ k ∧ k < w.heap.size := World.ownsRow.lt h
theorem GS.grown {w0 W W' : World} {B b : Nat} {l d c : Int} {row : Option Nat} (h : GS w0 B b l d c W) (hg : W.grownBy W' row) (hB : B ≤ W.heap.size) (hr : ∀ k, row = some k → B ≤ k ∧ k ≠ b) : GS w0 B b l d c W' := by
  obtain ⟨h1, h2, h3, F⟩ := h
  have hb : W'.heap[b]? = W.heap[b]? := hg.block b (World.block_lt_of_cell? _ _ h1) (fun e => (hr b e.symm).2 rfl)
  have hc : ∀ o, W'.cell? ⟨b, o, none⟩ = W.cell? ⟨b, o, none⟩ := fun o => by unfold World.cell?; simp only [hb]
  exact ⟨(hc 0).trans h1, (hc 1).trans h2, (hc 2).trans h3, F.grown hg hB fun k e => (hr k e).1⟩
/-- The first k numbers of a row. -/
def plFirst (l d c r : Int) (k : Nat) : List Int := (List.range k).map (fun j : Nat => plN l d c r (j : Int))
theorem plFirst_succ (l d c r : Int) (k : Nat) : plFirst l d c r k ++ [plN l d c r (k : Int)] = plFirst l d c r (k + 1) := by simp [plFirst, List.range_succ]
theorem plFirst_len (l d c r : Int) (k : Nat) : (plFirst l d c r k).length = k := by simp [plFirst]
theorem plFirst_all {l d c r : Int} {n : Nat} (h : plOk l d c r = true) (hn : gWid l d c = n) : plFirst l d c r n = plNums l d c r := by
  have hg := (plOk_yes h).1
  rw [gWid_yes hg] at hn
  unfold plNums plFirst
  rw [if_pos h, hn]
  simp
set_option maxHeartbeats 1000000 in
theorem refNumbers_own (l d c r : Int) (w : World) (HT : Hid (plOk l d c r = true)) (hl : (-9223372036854775808 ≤ l ∧ l ≤ 9223372036854775807)) (hd : (-9223372036854775808 ≤ d ∧ d ≤ 9223372036854775807)) (hc : (-9223372036854775808 ≤ c ∧ c ≤ 9223372036854775807)) (hr : (-9223372036854775808 ≤ r ∧ r ≤ 9223372036854775807)) :
    Calls Try.prog 20 #[.agg #[.int .i64 l, .int .i64 d, .int .i64 c], .int .i64 r] w fun e w' => ∃ v, e = .returned v ∧ OwJ w' w.heap.size v (plNums l d c r) ∧ Below w.heap.size w w' := by
  have G := gat_new w l d c 23 (0, 0)
  obtain ⟨hg, h0, h1⟩ := plOk_yes HT.out
  have hb6 := gOk_bd hg
  have HW := Lib.hid (fun W => refWidth_any l d c W hl hd hc)
  have hw := gWid_bd l d c
  obtain ⟨n, hn⟩ : ∃ n : Nat, gWid l d c = n := ⟨(gWid l d c).toNat, by omega⟩
  have Hall := Lib.hid (plFirst_all HT.out hn)
  have HN : Hid (∀ k : Nat, plN l d c r (k : Int) = (r / c * (n : Int) + k) * c + r % c) := Lib.hid fun k => by rw [← hn, gWid_yes hg]; rfl
  rw [hn] at HW hw
  have hq := quo_bd 16 h0 h1 (show 1 ≤ c by omega)
  have hm := rem_bd r (show 1 ≤ c by omega)
  have z3 : r.tdiv c = r / c := Int.tdiv_eq_ediv_of_nonneg h0
  have z4 : r.tmod c = r % c := Int.tmod_eq_emod_of_nonneg h0
  have n2 : ¬ c = 0 := by omega
  have z5 : IntKind.i64.wrap (r / c) = r / c := IntWalk.i64_in _ (by omega)
  have hx : 0 ≤ r / c * (n : Int) ∧ r / c * (n : Int) ≤ 112 := ⟨Int.mul_nonneg hq.1 hw.1, by
    have := Int.mul_le_mul (show r / c ≤ 16 by omega) hw.2 hw.1 (by omega)
    omega⟩
  have z1 : IntKind.i64.wrap (r / c * (n : Int)) = r / c * (n : Int) := IntWalk.i64_in _ (by omega)
  clear hn hg h0 h1
  go_enter Try.func20, Try.ntmps20
  go_wp2_with fail
  (with_reducible refine (refFine_yes l d c r _ HT hl hd hc hr).mono ?_); rintro e w1 ⟨rfl, hb⟩
  have S1 := GS.later (w0 := w) (B := w.heap.size) ⟨G.1, G.2.1, G.2.2, below1 w _⟩ hb
  have q0 : w.heap.size < w1.heap.size := World.block_lt_of_cell? _ _ S1.1
  clear hb G
  go_wp2_with fail
  have H0 : OwJ w1 (w.heap.size + 1) (.slice none 0 0) (plFirst l d c r 0) := World.ownsRow_nil _ _ _ _
  go_loopw [5, 6] (fun v i wr => ∃ k : Nat, k ≤ n ∧ i = .int .i64 k ∧ OwJ wr (w.heap.size + 1) v (plFirst l d c r k) ∧ GS w w.heap.size w.heap.size l d c wr) (fun _ i _ => n - (intOf i).toNat)
  case atStart => exact ⟨0, Nat.zero_le _, rfl, H0, S1⟩
  case round =>
    obtain ⟨k, hk, rfl, hown, hS⟩ := hrel
    obtain ⟨g1, g2, g3, F⟩ := hS
    go_wp2_with fail
    (with_reducible refine (HW.out _).mono ?_); rintro e w2 ⟨rfl, hb⟩
    have S2 := GS.later (w0 := w) (B := w.heap.size) ⟨g1, g2, g3, F⟩ hb
    have hown2 := hown.below hb
    clear hb g1 g2 g3 F hown
    by_cases hlt : k < n
    · have i0 : (0 : Int) ≤ (k : Int) := by omega
      have i1 : (k : Int) < (n : Int) := by omega
      have Hk := Lib.hid (HN.out k)
      have hy : 0 ≤ (r / c * (n : Int) + (k : Int)) * c ∧ (r / c * (n : Int) + (k : Int)) * c ≤ 120 * 4 := ⟨Int.mul_nonneg (by omega) (by omega), Int.mul_le_mul (by omega) (by omega) (by omega) (by omega)⟩
      have y1 : IntKind.i64.wrap (r / c * (n : Int) + (k : Int)) = r / c * (n : Int) + (k : Int) := IntWalk.i64_in _ (by omega)
      have y2 : IntKind.i64.wrap ((r / c * (n : Int) + (k : Int)) * c) = (r / c * (n : Int) + (k : Int)) * c := IntWalk.i64_in _ (by omega)
      have y3 : IntKind.i64.wrap ((r / c * (n : Int) + (k : Int)) * c + r % c) = plN l d c r (k : Int) := by rw [Hk.out]; exact IntWalk.i64_in _ (by omega)
      have hlen := plFirst_len l d c r k
      have Hs := Lib.hid (plFirst_succ l d c r k)
      generalize plN l d c r (k : Int) = z at y3 Hs
      obtain ⟨g1, g2, g3, F⟩ := S2
      go_wp2_with fail
      have S2 : GS w w.heap.size w.heap.size l d c w2 := ⟨g1, g2, g3, F⟩
      clear g1 g2 g3 F
      have zb := S2.2.2.2.size
      have q2 : w.heap.size < w2.heap.size := World.block_lt_of_cell? _ _ S2.1
      go_region_held3 (GS w w.heap.size w.heap.size l d c)
        (first | assumption | exact GS.drew ‹_› | exact GS.later S3 (below1 _ _) | exact S9)
        (first
          | (go_at_call 28; (with_reducible refine (HW.out _).mono ?_); rintro e w3 ⟨rfl, hb⟩; have S3 := (GS.drew S2).later hb; have hown3 := OwJ.below (w := w2.drew) hown2 hb; have q3 : w.heap.size + 1 ≤ w3.heap.size := Nat.le_trans q2 hb.size; clear hb)
          | (refine step_append_J (by rfl) _ _ (by rfl) (w.heap.size + 1) u5 (plFirst l d c r k) (by rfl) (hown3.below (below1 _ _)) (by omega) _ z (by rfl) (cell_of_row _ _ 0 _ _ _ (hp_new _ _ _ rfl)) (Nat.le_trans q3 (below1 _ _).size) ?_
             intro v2 w9 hown9 hg9
             have S9 := GS.grown (GS.later S3 (below1 w3 (.cells #[.int .i64 z] 3))) hg9 (Nat.le_trans (Nat.le_of_lt q3) (below1 _ _).size) (fun j hj => by have := (hown3.lt j hj).1; omega)))
      rw [Hs.out] at hown9
      go_wp2
      go_roundw
      case rel => exact ⟨k + 1, by omega, by go_num, hown9, S9⟩
      case measure => simp [intOf]; omega
    · obtain rfl : k = n := by omega
      rw [Hall.out] at hown2
      go_wp2
      go_ret
      exact ⟨_, rfl, hown2.le (by omega), S2.2.2.2⟩
theorem refNumbers_any (l d c r : Int) (w : World) (hl : (-9223372036854775808 ≤ l ∧ l ≤ 9223372036854775807)) (hd : (-9223372036854775808 ≤ d ∧ d ≤ 9223372036854775807)) (hc : (-9223372036854775808 ≤ c ∧ c ≤ 9223372036854775807)) (hr : (-9223372036854775808 ≤ r ∧ r ≤ 9223372036854775807)) :
    Calls Try.prog 20 #[.agg #[.int .i64 l, .int .i64 d, .int .i64 c], .int .i64 r] w fun e w' => ∃ A cp, e = .returned (.slice A (plNums l d c r).length cp) ∧ RdJ w' w'.heap.size A (plNums l d c r) ∧ Below w.heap.size w w' := by
  cases hT : plOk l d c r
  · have H := Lib.hid (plNums_no hT)
    have HT := Lib.hid hT
    clear hT
    go_enter Try.func20, Try.ntmps20
    go_wp2_with fail
    (with_reducible refine (refFine_no l d c r _ HT hl hd hc hr).mono ?_); rintro e w1 ⟨rfl, hb⟩
    have F := (below1 w _).trans (hb.mono (by simp))
    clear hb
    go_wp2_with fail
    go_ret
    exact ⟨none, 0, by rw [H.out]; rfl, by rw [H.out]; exact RdJ.nil _ _ _, F⟩
  · refine (refNumbers_own l d c r w (Lib.hid hT) hl hd hc hr).mono ?_
    rintro e w' ⟨v, rfl, ho, hb⟩
    have hw := gWid_bd l d c
    obtain ⟨A, cp, rfl, hr⟩ := ho.rd (by rw [plNums_len hT]; omega)
    exact ⟨A, cp, rfl, hr, hb⟩
end Go.Proofs.Ytabeadbnoifedaa
