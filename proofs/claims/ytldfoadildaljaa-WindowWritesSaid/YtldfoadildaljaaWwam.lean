/- Texts put together: RowLose, RefNums, RefBack. -/
import Derived.Test.YtldfoadildaljaaWwai
import Derived.Test.YtldfoadildaljaaWwae
section
set_option linter.unusedVariables false
set_option linter.unusedSimpArgs false
namespace Go.Proofs.Ytldfoadildaljaa

end Go.Proofs.Ytldfoadildaljaa
end
section
set_option linter.unusedVariables false
set_option linter.unusedSimpArgs false
set_option maxRecDepth 20000
namespace Go.Proofs.Ytldfoadildaljaa
open Go.RowKit

theorem step_append_J {w : World} {ops : Array Oper} {o : Oper} {a : Act} {K : Act → World → Prop} {Q : Exit → Act → World → Prop} {E : Prop} (hgd : o.guard = none) (s x : Operand)
    (ho : o.op = .call { callee := .builtin .append, args := #[s, x], argTypes := #[36, 36] })
    (base : Nat) (v : Value) (zs : List Int) (hs : a.eval s = v) (hown : OwJ w base v zs) (hl : zs.length ≤ 1000000) (g : Nat) (z : Int) (hx : a.eval x = .slice (some ⟨g, 0, none⟩) 1 1) (hg : w.cell? ⟨g, 0, none⟩ = some (.int .i64 z))
    (hbase : base ≤ w.heap.size)
    (h : ∀ v' w', OwJ w' base v' (zs ++ [z]) → w.grownBy w' v.ownBlock → K (a.put o.dst v') w') :
    if Region.wanted o (yielded ops a.tmps) = true then Oper.wp Try.prog o a w K Q else E := by
  obtain ⟨i, hi, hzz⟩ := Option.map_eq_some_iff.1 info_z
  simp only [Prod.mk.injEq] at hzz
  obtain ⟨hz, hsz, hb⟩ := hzz
  refine step_append_lies w hgd s x 36 ho base 3 i (.int .i64 0) 1 8 Try.underlying36 hi hz hsz hb rfl (by omega) v zs.length (zs.map zv) hs hown ⟨g, 0, none⟩ 1 1 [zv z] hx rfl (fun j u hj => ?_) (fun u hu => ?_) (by omega) (by unfold maxLen; omega) (by omega) hbase _ rfl (fun g' cap w' h1 h2 _ _ => h _ w' ?_ h2)
  · rcases j with _ | j
    · simp at hj; subst hj; exact hg
    · simp at hj
  · simp at hu; subst hu; rfl
  · unfold OwJ
    rw [List.length_append, List.map_append]
    exact h1
theorem OwJ.lt {w : World} {B : Nat} {v : Value} {zs : List Int} (h : OwJ w B v zs) : ∀ k, v.ownBlock = some k → B ≤ k ∧ k < w.heap.size := World.ownsRow.lt h
theorem GS.grown {w0 W W' : World} {B b : Nat} {l d c : Int} {row : Option Nat} (h : GS w0 B b l d c W) (hg : W.grownBy W' row) (hB : B ≤ W.heap.size) (hr : ∀ k, row = some k → B ≤ k ∧ k ≠ b) : GS w0 B b l d c W' := by
  obtain ⟨h1, h2, h3, F⟩ := h
  have hb : W'.heap[b]? = W.heap[b]? := hg.block b (World.block_lt_of_cell? _ _ h1) (fun e => (hr b e.symm).2 rfl)
  have hc : ∀ o, W'.cell? ⟨b, o, none⟩ = W.cell? ⟨b, o, none⟩ := fun o => by unfold World.cell?; simp only [hb]
  exact ⟨(hc 0).trans h1, (hc 1).trans h2, (hc 2).trans h3, F.grown hg hB fun k e => (hr k e).1⟩
/-- The first k numbers of a row. -/
def plFirst (l d c r : Int) (k : Nat) : List Int := (List.range k).map (fun j : Nat => plN l d c r (j : Int))
theorem plFirst_succ (l d c r : Int) (k : Nat) : plFirst l d c r k ++ [plN l d c r (k : Int)] = plFirst l d c r (k + 1) := by simp [plFirst, List.range_succ]
theorem plFirst_len (l d c r : Int) (k : Nat) : (plFirst l d c r k).length = k := by simp [plFirst]
theorem plFirst_all {l d c r : Int} {n : Nat} (h : plOk l d c r = true) (hn : gWid l d c = n) : plFirst l d c r n = plNums l d c r := by
  have hg := (plOk_yes h).1
  rw [gWid_yes hg] at hn
  unfold plNums plFirst
  rw [if_pos h, hn]
  simp
set_option maxHeartbeats 1000000 in
theorem refNumbers_own (l d c r : Int) (w : World) (HT : Hid (plOk l d c r = true)) (hl : (-9223372036854775808 ≤ l ∧ l ≤ 9223372036854775807)) (hd : (-9223372036854775808 ≤ d ∧ d ≤ 9223372036854775807)) (hc : (-9223372036854775808 ≤ c ∧ c ≤ 9223372036854775807)) (hr : (-9223372036854775808 ≤ r ∧ r ≤ 9223372036854775807)) :
    Calls Try.prog 22 #[.agg #[.int .i64 l, .int .i64 d, .int .i64 c], .int .i64 r] w fun e w' => ∃ v, e = .returned v ∧ OwJ w' w.heap.size v (plNums l d c r) ∧ Below w.heap.size w w' := by
  have G := gat_new w l d c 23 (0, 0)
  obtain ⟨hg, h0, h1⟩ := plOk_yes HT.out
  have hb6 := gOk_bd hg
  have HW := Lib.hid (fun W => refWidth_any l d c W hl hd hc)
  have hw := gWid_bd l d c
  obtain ⟨n, hn⟩ : ∃ n : Nat, gWid l d c = n := ⟨(gWid l d c).toNat, by omega⟩
  have Hall := Lib.hid (plFirst_all HT.out hn)
  have HN : Hid (∀ k : Nat, plN l d c r (k : Int) = (r / c * (n : Int) + k) * c + r % c) := Lib.hid fun k => by rw [← hn, gWid_yes hg]; rfl
  rw [hn] at HW hw
  have hq := quo_bd 16 h0 h1 (show 1 ≤ c by omega)
  have hm := rem_bd r (show 1 ≤ c by omega)
  have z3 : r.tdiv c = r / c := Int.tdiv_eq_ediv_of_nonneg h0
  have z4 : r.tmod c = r % c := Int.tmod_eq_emod_of_nonneg h0
  have n2 : ¬ c = 0 := by omega
  have z5 : IntKind.i64.wrap (r / c) = r / c := IntWalk.i64_in _ (by omega)
  have hx : 0 ≤ r / c * (n : Int) ∧ r / c * (n : Int) ≤ 112 := ⟨Int.mul_nonneg hq.1 hw.1, by
    have := Int.mul_le_mul (show r / c ≤ 16 by omega) hw.2 hw.1 (by omega)
    omega⟩
  have z1 : IntKind.i64.wrap (r / c * (n : Int)) = r / c * (n : Int) := IntWalk.i64_in _ (by omega)
  clear hn hg h0 h1
  go_enter Try.func22, Try.ntmps22
  go_wp2_with fail
  (with_reducible refine (refFine_yes l d c r _ HT hl hd hc hr).mono ?_); rintro e w1 ⟨rfl, hb⟩
  have S1 := GS.later (w0 := w) (B := w.heap.size) ⟨G.1, G.2.1, G.2.2, below1 w _⟩ hb
  have q0 : w.heap.size < w1.heap.size := World.block_lt_of_cell? _ _ S1.1
  clear hb G
  go_wp2_with fail
  have H0 : OwJ w1 (w.heap.size + 1) (.slice none 0 0) (plFirst l d c r 0) := World.ownsRow_nil _ _ _ _
  go_loopw [5, 6] (fun v i wr => ∃ k : Nat, k ≤ n ∧ i = .int .i64 k ∧ OwJ wr (w.heap.size + 1) v (plFirst l d c r k) ∧ GS w w.heap.size w.heap.size l d c wr) (fun _ i _ => n - (intOf i).toNat)
  case atStart => exact ⟨0, Nat.zero_le _, rfl, H0, S1⟩
  case round =>
    obtain ⟨k, hk, rfl, hown, hS⟩ := hrel
    obtain ⟨g1, g2, g3, F⟩ := hS
    go_wp2_with fail
    (with_reducible refine (HW.out _).mono ?_); rintro e w2 ⟨rfl, hb⟩
    have S2 := GS.later (w0 := w) (B := w.heap.size) ⟨g1, g2, g3, F⟩ hb
    have hown2 := hown.below hb
    clear hb g1 g2 g3 F hown
    by_cases hlt : k < n
    · have i0 : (0 : Int) ≤ (k : Int) := by omega
      have i1 : (k : Int) < (n : Int) := by omega
      have Hk := Lib.hid (HN.out k)
      have hy : 0 ≤ (r / c * (n : Int) + (k : Int)) * c ∧ (r / c * (n : Int) + (k : Int)) * c ≤ 120 * 4 := ⟨Int.mul_nonneg (by omega) (by omega), Int.mul_le_mul (by omega) (by omega) (by omega) (by omega)⟩
      have y1 : IntKind.i64.wrap (r / c * (n : Int) + (k : Int)) = r / c * (n : Int) + (k : Int) := IntWalk.i64_in _ (by omega)
      have y2 : IntKind.i64.wrap ((r / c * (n : Int) + (k : Int)) * c) = (r / c * (n : Int) + (k : Int)) * c := IntWalk.i64_in _ (by omega)
      have y3 : IntKind.i64.wrap ((r / c * (n : Int) + (k : Int)) * c + r % c) = plN l d c r (k : Int) := by rw [Hk.out]; exact IntWalk.i64_in _ (by omega)
      have hlen := plFirst_len l d c r k
      have Hs := Lib.hid (plFirst_succ l d c r k)
      generalize plN l d c r (k : Int) = z at y3 Hs
      obtain ⟨g1, g2, g3, F⟩ := S2
      go_wp2_with fail
      have S2 : GS w w.heap.size w.heap.size l d c w2 := ⟨g1, g2, g3, F⟩
      clear g1 g2 g3 F
      have zb := S2.2.2.2.size
      have q2 : w.heap.size < w2.heap.size := World.block_lt_of_cell? _ _ S2.1
      go_region_held3 (GS w w.heap.size w.heap.size l d c)
        (first | assumption | exact GS.drew ‹_› | exact GS.later S3 (below1 _ _) | exact S9)
        (first
          | (go_at_call 31; (with_reducible refine (HW.out _).mono ?_); rintro e w3 ⟨rfl, hb⟩; have S3 := (GS.drew S2).later hb; have hown3 := OwJ.below (w := w2.drew) hown2 hb; have q3 : w.heap.size + 1 ≤ w3.heap.size := Nat.le_trans q2 hb.size; clear hb)
          | (refine step_append_J (by rfl) _ _ (by rfl) (w.heap.size + 1) u5 (plFirst l d c r k) (by rfl) (hown3.below (below1 _ _)) (by omega) _ z (by rfl) (cell_of_row _ _ 0 _ _ _ (hp_new _ _ _ rfl)) (Nat.le_trans q3 (below1 _ _).size) ?_
             intro v2 w9 hown9 hg9
             have S9 := GS.grown (GS.later S3 (below1 w3 (.cells #[.int .i64 z] 3))) hg9 (Nat.le_trans (Nat.le_of_lt q3) (below1 _ _).size) (fun j hj => by have := (hown3.lt j hj).1; omega)))
      rw [Hs.out] at hown9
      go_wp2
      go_roundw
      case rel => exact ⟨k + 1, by omega, by go_num, hown9, S9⟩
      case measure => simp [intOf]; omega
    · obtain rfl : k = n := by omega
      rw [Hall.out] at hown2
      go_wp2
      go_ret
      exact ⟨_, rfl, hown2.le (by omega), S2.2.2.2⟩
theorem refNumbers_any (l d c r : Int) (w : World) (hl : (-9223372036854775808 ≤ l ∧ l ≤ 9223372036854775807)) (hd : (-9223372036854775808 ≤ d ∧ d ≤ 9223372036854775807)) (hc : (-9223372036854775808 ≤ c ∧ c ≤ 9223372036854775807)) (hr : (-9223372036854775808 ≤ r ∧ r ≤ 9223372036854775807)) :
    Calls Try.prog 22 #[.agg #[.int .i64 l, .int .i64 d, .int .i64 c], .int .i64 r] w fun e w' => ∃ A cp, e = .returned (.slice A (plNums l d c r).length cp) ∧ RdJ w' w'.heap.size A (plNums l d c r) ∧ Below w.heap.size w w' := by
  cases hT : plOk l d c r
  · have H := Lib.hid (plNums_no hT)
    have HT := Lib.hid hT
    clear hT
    go_enter Try.func22, Try.ntmps22
    go_wp2_with fail
    (with_reducible refine (refFine_no l d c r _ HT hl hd hc hr).mono ?_); rintro e w1 ⟨rfl, hb⟩
    have F := (below1 w _).trans (hb.mono (by simp))
    clear hb
    go_wp2_with fail
    go_ret
    exact ⟨none, 0, by rw [H.out]; rfl, by rw [H.out]; exact RdJ.nil _ _ _, F⟩
  · refine (refNumbers_own l d c r w (Lib.hid hT) hl hd hc hr).mono ?_
    rintro e w' ⟨v, rfl, ho, hb⟩
    have hw := gWid_bd l d c
    obtain ⟨A, cp, rfl, hr⟩ := ho.rd (by rw [plNums_len hT]; omega)
    exact ⟨A, cp, rfl, hr, hb⟩
end Go.Proofs.Ytldfoadildaljaa
end
section
set_option linter.unusedVariables false
set_option linter.unusedSimpArgs false
namespace Go.Proofs.Ytldfoadildaljaa
open Go.RowKit

set_option maxHeartbeats 1000000 in
theorem refBack_any (l d c i r : Int) (w : World) (hl : (-9223372036854775808 ≤ l ∧ l ≤ 9223372036854775807)) (hd : (-9223372036854775808 ≤ d ∧ d ≤ 9223372036854775807)) (hc : (-9223372036854775808 ≤ c ∧ c ≤ 9223372036854775807)) (hi : (-9223372036854775808 ≤ i ∧ i ≤ 9223372036854775807)) (hr : (-9223372036854775808 ≤ r ∧ r ≤ 9223372036854775807)) :
    Calls Try.prog 28 #[.agg #[.int .i64 l, .int .i64 d, .int .i64 c], .int .i64 i, .int .i64 r] w fun e w' => e = .returned (.tuple #[.int .i64 (plBk l d c i r), .int .i64 (plBn l d c i r), .bool (plBOk l d c i r)]) ∧ Below w.heap.size w w' := by
  have G := gat_new w l d c 23 (0, 0)
  have HK : Hid (∀ b, plBOk l d c i r = b → plBk l d c i r = if b = true then (if i = plP l d c r then 1 else if i = plQ l d c r then 2 else 0) else 0) := Lib.hid (fun b h => by subst h; rfl)
  have HN : Hid (∀ b, plBOk l d c i r = b → plBn l d c i r = if b = true then (if i = plP l d c r then 0 else if i = plQ l d c r then 0 else plN l d c r (plK l d c i r)) else 0) := Lib.hid (fun b h => by subst h; rfl)
  cases hT : plOk l d c r
  · have H := Lib.hid (plBOk_no (l := l) (d := d) (c := c) (i := i) (r := r) (by rw [hT]; simp))
    have H1 := Lib.hid ((HK.out false H.out).trans (if_neg (by decide)))
    have H2 := Lib.hid ((HN.out false H.out).trans (if_neg (by decide)))
    have HT := Lib.hid hT
    clear hT
    go_enter Try.func28, Try.ntmps28
    go_wp2_with fail
    (with_reducible refine (refFine_no l d c r _ HT hl hd hc hr).mono ?_); rintro e w1 ⟨rfl, hb⟩
    have F := (below1 w _).trans (hb.mono (by simp))
    clear hb
    go_wp2_with fail
    go_ret3
    exact ⟨by rw [H.out, H1.out, H2.out]; rfl, F⟩
  · have HT := Lib.hid hT
    by_cases h0 : i < 0
    · have H := Lib.hid (plBOk_no (l := l) (d := d) (c := c) (i := i) (r := r) (by omega))
      have H1 := Lib.hid ((HK.out false H.out).trans (if_neg (by decide)))
      have H2 := Lib.hid ((HN.out false H.out).trans (if_neg (by decide)))
      have e0 : decide (i < 0) = true := decide_eq_true h0
      clear hT
      go_enter Try.func28, Try.ntmps28
      go_wp2_with fail
      (with_reducible refine (refFine_yes l d c r _ HT hl hd hc hr).mono ?_); rintro e w1 ⟨rfl, hb⟩
      have F := (below1 w _).trans (hb.mono (by simp))
      clear hb
      go_wp2_with fail
      go_ret3
      exact ⟨by rw [H.out, H1.out, H2.out]; rfl, F⟩
    · have e0 : decide (i < 0) = false := decide_eq_false h0
      by_cases h1 : d ≤ i
      · have H := Lib.hid (plBOk_no (l := l) (d := d) (c := c) (i := i) (r := r) (by omega))
        have H1 := Lib.hid ((HK.out false H.out).trans (if_neg (by decide)))
        have H2 := Lib.hid ((HN.out false H.out).trans (if_neg (by decide)))
        have e1 : decide (d ≤ i) = true := decide_eq_true h1
        clear hT
        go_enter Try.func28, Try.ntmps28
        go_wp2_with fail
        (with_reducible refine (refFine_yes l d c r _ HT hl hd hc hr).mono ?_); rintro e w1 ⟨rfl, hb⟩
        have S1 := GS.later (w0 := w) (B := w.heap.size) ⟨G.1, G.2.1, G.2.2, below1 w _⟩ hb
        clear hb G
        obtain ⟨g1, g2, g3, F⟩ := S1
        go_wp2_with fail
        go_ret3
        exact ⟨by rw [H.out, H1.out, H2.out]; rfl, F⟩
      · have e1 : decide (d ≤ i) = false := decide_eq_false h1
        have hok : plBOk l d c i r = true := by unfold plBOk; rw [hT, decide_eq_true (by omega)]; rfl
        have H := Lib.hid hok
        have K1 := Lib.hid ((HK.out true H.out).trans (if_pos rfl))
        have K2 := Lib.hid ((HN.out true H.out).trans (if_pos rfl))
        obtain ⟨hg, h00, h11⟩ := plOk_yes hT
        have hw := gWid_bd l d c
        have HP := Lib.hid (fun W => refParity_any l d c r W hl hd hc hr)
        have HNm := Lib.hid (fun W => refNumbers_any l d c r W hl hd hc hr)
        have HD := Lib.hid (fun (k : Nat) (hk : k ≤ 7) W => refDisk_any l d c r (k : Int) W hl hd hc hr (by omega))
        obtain ⟨n, hn⟩ : ∃ n : Nat, gWid l d c = n := ⟨(gWid l d c).toNat, by omega⟩
        have hlen : (plNums l d c r).length = n := by rw [plNums_len hT, hn]; rfl
        have HS := Lib.hid (fun hp hq => plK_spec (l := l) (d := d) (c := c) (i := i) (r := r) hok hp hq)
        have HO := Lib.hid (fun (k : Nat) (hk : k < n) (he : plD l d c r (k : Int) = i) => plK_only (l := l) (d := d) (c := c) (i := i) (r := r) (k := (k : Int)) (by unfold plDok; rw [hT, decide_eq_true (by omega)]; rfl) he)
        have HG := Lib.hid (fun (k : Nat) (hk : k < n) => plNums_get hT (k := k) (by omega))
        generalize plP l d c r = p at HP K1 K2 HS
        generalize plQ l d c r = q at HP K1 K2 HS
        clear hT hg h00 h11 HK HN h0 h1 hok
        by_cases hp : i = p
        · have H1 := Lib.hid (K1.out.trans (if_pos hp))
          have H2 := Lib.hid (K2.out.trans (if_pos hp))
          have ep : (i == p) = true := beq_iff_eq.2 hp
          clear hp hn
          go_enter Try.func28, Try.ntmps28
          go_wp2_with fail
          (with_reducible refine (refFine_yes l d c r _ HT hl hd hc hr).mono ?_); rintro e w1 ⟨rfl, hb⟩
          have S1 := GS.later (w0 := w) (B := w.heap.size) ⟨G.1, G.2.1, G.2.2, below1 w _⟩ hb
          clear hb G
          obtain ⟨g1, g2, g3, F⟩ := S1
          go_wp2_with fail
          (with_reducible refine (HP.out _).mono ?_); rintro e w2 ⟨rfl, hb⟩
          have S2 := GS.later (w0 := w) (B := w.heap.size) ⟨g1, g2, g3, F⟩ hb
          clear hb g1 g2 g3 F
          go_wp2_with fail
          go_ret3
          exact ⟨by rw [H.out, H1.out, H2.out]; rfl, S2.2.2.2⟩
        · have L1 := Lib.hid (K1.out.trans (if_neg hp))
          have L2 := Lib.hid (K2.out.trans (if_neg hp))
          have ep : (i == p) = false := ibeq_no hp
          by_cases hq : i = q
          · have H1 := Lib.hid (L1.out.trans (if_pos hq))
            have H2 := Lib.hid (L2.out.trans (if_pos hq))
            have eq : (i == q) = true := beq_iff_eq.2 hq
            clear hq hp hn
            go_enter Try.func28, Try.ntmps28
            go_wp2_with fail
            (with_reducible refine (refFine_yes l d c r _ HT hl hd hc hr).mono ?_); rintro e w1 ⟨rfl, hb⟩
            have S1 := GS.later (w0 := w) (B := w.heap.size) ⟨G.1, G.2.1, G.2.2, below1 w _⟩ hb
            clear hb G
            obtain ⟨g1, g2, g3, F⟩ := S1
            go_wp2_with fail
            (with_reducible refine (HP.out _).mono ?_); rintro e w2 ⟨rfl, hb⟩
            have S2 := GS.later (w0 := w) (B := w.heap.size) ⟨g1, g2, g3, F⟩ hb
            clear hb g1 g2 g3 F
            go_wp2_with fail
            go_ret3
            exact ⟨by rw [H.out, H1.out, H2.out]; rfl, S2.2.2.2⟩
          · have H1 := Lib.hid (L1.out.trans (if_neg hq))
            have H2 := Lib.hid (L2.out.trans (if_neg hq))
            have eq : (i == q) = false := ibeq_no hq
            have HS2 := Lib.hid (HS.out hp hq)
            clear hp hq
            rw [hn] at hw
            have Hn := Lib.hid hn
            clear hn
            generalize plNums l d c r = ns at HNm hlen HG
            go_enter Try.func28, Try.ntmps28
            go_wp2_with fail
            (with_reducible refine (refFine_yes l d c r _ HT hl hd hc hr).mono ?_); rintro e w1 ⟨rfl, hb⟩
            have S1 := GS.later (w0 := w) (B := w.heap.size) ⟨G.1, G.2.1, G.2.2, below1 w _⟩ hb
            clear hb G
            obtain ⟨g1, g2, g3, F⟩ := S1
            go_wp2_with fail
            (with_reducible refine (HP.out _).mono ?_); rintro e w2 ⟨rfl, hb⟩
            have S2 := GS.later (w0 := w) (B := w.heap.size) ⟨g1, g2, g3, F⟩ hb
            clear hb g1 g2 g3 F
            obtain ⟨g1, g2, g3, F⟩ := S2
            go_wp2_with fail
            (with_reducible refine (HNm.out _).mono ?_); rintro e w3 ⟨A, cp, rfl, hrd, hb⟩
            have S3 := GS.later (w0 := w) (B := w.heap.size) ⟨g1, g2, g3, F⟩ hb
            clear hb g1 g2 g3 F
            subst hlen
            go_wp2_with fail
            go_loopw [44] (fun o wr => ∃ k : Nat, k ≤ ns.length ∧ o = .int .i64 k ∧ (∀ j : Nat, j < k → plD l d c r (j : Int) ≠ i) ∧ Below w3.heap.size w3 wr) (fun o _ => ns.length - (intOf o).toNat)
            case atStart => exact ⟨0, Nat.zero_le _, rfl, fun j hj => absurd hj (Nat.not_lt_zero _), Below.refl _ _⟩
            case round =>
              obtain ⟨k, hk, rfl, hno, hbr⟩ := hrel
              have Hno := Lib.hid hno
              clear hno
              by_cases hlt : k < ns.length
              · obtain ⟨b, off, rfl, hb, hc⟩ := hrd.2 (by omega)
                have h1 := hc k hlt
                rw [← hbr.cell (p := ⟨b, off + k, none⟩) hb] at h1
                have i0 : (0 : Int) ≤ (k : Int) := by omega
                have i1 : (k : Int) < (ns.length : Int) := by omega
                have HGk := Lib.hid (HG.out k hlt)
                have HOk := Lib.hid (HO.out k hlt)
                have HDk := Lib.hid (HD.out k (by omega))
                have Hsn : Hid (plD l d c r (k : Int) ≠ i → ∀ j : Nat, j < k + 1 → plD l d c r (j : Int) ≠ i) := Lib.hid fun h j hj => by
                  by_cases e : j = k
                  · rw [e]; exact h
                  · exact Hno.out j (by omega)
                generalize ns.getD k 0 = z at h1 HGk
                generalize plD l d c r (k : Int) = y at HDk HOk Hsn
                obtain ⟨g1, g2, g3, F⟩ := S3.later hbr
                have ybd : True := trivial
                clear hc
                go_wp2_with fail
                (with_reducible refine (HDk.out _).mono ?_); rintro e w4 ⟨rfl, hb4⟩
                have S4 := GS.later (w0 := w) (B := w.heap.size) ⟨g1, g2, g3, F⟩ hb4
                have hb5 := hbr.trans (hb4.mono hbr.size)
                clear hb4 g1 g2 g3 F
                by_cases hy : y = i
                · have ey : (y == i) = true := beq_iff_eq.2 hy
                  have H3 := Lib.hid (HOk.out hy)
                  clear hy
                  go_wp2_with fail
                  go_ret3
                  exact ⟨by rw [H.out, H1.out, H2.out, ← H3.out, ← HGk.out]; rfl, S4.2.2.2⟩
                · have ey : (y == i) = false := ibeq_no hy
                  have H3 := Lib.hid (Hsn.out hy)
                  clear hy
                  go_wp2_with fail
                  go_roundw
                  case rel => exact ⟨k + 1, by omega, by go_num, H3.out, hb5⟩
                  case measure => simp [intOf]; omega
              · exfalso
                obtain ⟨q0, q1, q2⟩ := HS2.out
                rw [Hn.out] at q1
                refine Hno.out (plK l d c i r).toNat (by omega) ?_
                rw [Int.toNat_of_nonneg q0]
                exact q2
end Go.Proofs.Ytldfoadildaljaa
end
