/- Texts put together: RbdFld, ScrMath, RbdParted, RbdRenew, Rbd. -/
import Derived.Test.YtadmofpipfdedaaSfba
import Derived.Test.YtadmofpipfdedaaSfaw
import Derived.Test.YtadmofpipfdedaaSfay
import Derived.Test.YtadmofpipfdedaaSfaa
import Derived.Test.YtadmofpipfdedaaSfac
section
set_option linter.unusedVariables false
set_option linter.unusedSimpArgs false
namespace Go.Proofs.Ytadmofpipfdedaa

/-- What stands at sector k of disk i: the rows below s, and of row s what is on disks below j; zeros elsewhere. -/
def fbV (fl : Nat → List (List UInt8)) (s j i k : Nat) : List UInt8 := if 36 ≤ k ∧ (k - 36 < s ∨ (k - 36 = s ∧ i < j)) ∧ i < (fl (k - 36)).length then (fl (k - 36)).getD i [] else zeroL 32
structure Fb (N : Bch) (m : Nat) (fl : Nat → List (List UInt8)) (s j : Nat) : Prop where
  gd : Gd N m
  at' : ∀ i, i < m → ∀ k, k < 52 → secAt (N.D i).now k = fbV fl s j i k
theorem sec_zeroS {k : Nat} (hk : k < 52) : secAt zeroS k = zeroL 32 := by
  apply List.ext_getElem?
  intro i
  rw [secAt_get]
  unfold zeroS zeroL
  split
  · next h => rw [List.getElem?_replicate, if_pos (by omega), List.getElem?_replicate, if_pos h]
  · next h => rw [List.getElem?_replicate, if_neg h]
theorem fb_new (m : Nat) (fl : Nat → List (List UInt8)) : Fb (Bch.new m) m fl 0 0 := ⟨gd_new m, fun i _ k hk => by
  unfold fbV
  rw [if_neg (by omega)]
  exact sec_zeroS hk⟩
theorem fb_damage {N : Bch} {m : Nat} {fl : Nat → List (List UInt8)} {s j : Nat} (h : Fb N m fl s j) (hj : j < m) (hs : s < 16) (hl : j < (fl s).length) (hx : ((fl s).getD j []).length = 32) : Fb (N.damage (j : Int) ((36 + s : Nat) : Int) ((fl s).getD j [])) m fl s (j + 1) := by
  refine ⟨gd_damage h.gd hj (by omega) hx, fun i hi k hk => ?_⟩
  rw [sec_damage h.gd hj (by omega) hx, h.at' i hi k hk]
  unfold fbV
  by_cases e : i = j ∧ k = 36 + s
  · rw [if_pos e]
    obtain ⟨rfl, rfl⟩ := e
    rw [show 36 + s - 36 = s by omega, if_pos ⟨by omega, .inr ⟨rfl, by omega⟩, hl⟩]
  · rw [if_neg e]
    by_cases c : 36 ≤ k ∧ (k - 36 < s ∨ (k - 36 = s ∧ i < j)) ∧ i < (fl (k - 36)).length
    · rw [if_pos c, if_pos ⟨c.1, by omega, c.2.2⟩]
    · rw [if_neg c, if_neg]
      rintro ⟨c1, c2, c3⟩
      exact c ⟨c1, by omega, c3⟩
theorem fb_next {N : Bch} {m D : Nat} {fl : Nat → List (List UInt8)} {s : Nat} (h : Fb N m fl s D) (hD : (fl s).length = D) : Fb N m fl (s + 1) 0 := ⟨h.gd, fun i hi k hk => by
  rw [h.at' i hi k hk]
  unfold fbV
  by_cases c : 36 ≤ k ∧ (k - 36 < s ∨ (k - 36 = s ∧ i < D)) ∧ i < (fl (k - 36)).length
  · rw [if_pos c, if_pos ⟨c.1, by omega, c.2.2⟩]
  · rw [if_neg c, if_neg]
    rintro ⟨c1, c2, c3⟩
    refine c ⟨c1, ?_, c3⟩
    by_cases e : k - 36 = s
    · rw [e, hD] at c3; omega
    · omega⟩
/-- Filled. -/
theorem Fb.row {N : Bch} {m : Nat} {fl : Nat → List (List UInt8)} (h : Fb N m fl 16 0) {i t : Nat} (hi : i < m) (ht : t < 16) : secAt (N.D i).now (36 + t) = if i < (fl t).length then (fl t).getD i [] else zeroL 32 := by
  rw [h.at' i hi _ (by omega)]
  unfold fbV
  rw [show 36 + t - 36 = t by omega]
  by_cases c : i < (fl t).length
  · rw [if_pos ⟨by omega, .inl ht, c⟩, if_pos c]
  · rw [if_neg (fun e => c e.2.2), if_neg c]
/-- A row of two geometries' rows, filled by numbers. -/
def rowG (G : RG) (zs : List Int) (t : Nat) : List (List UInt8) := fillL (G.D t).toNat (roF (G.L t) (G.D t) (G.C t) (t : Int)) (datL zs t (roW (G.L t) (G.D t)))
theorem rowG_len (G : RG) (zs : List Int) (t : Nat) : (rowG G zs t).length = (G.D t).toNat := fillL_len _ _ _
/-- Each row's geometry. -/
theorem RG.gr {G : RG} (h : G.ok = true) {t : Nat} (ht : t < 16) : ∃ D : Nat, G.D t = (D : Int) ∧ Gr 0 (G.L t) (G.C t) (t : Int) D (roF (G.L t) (G.D t) (G.C t) (t : Int)) (roW (G.L t) (G.D t)) := by
  have hg := RG.good h t
  have hb := gOk_bd hg
  obtain ⟨D, hD⟩ : ∃ D : Nat, G.D t = (D : Int) := ⟨(G.D t).toNat, by omega⟩
  rw [hD] at hg ⊢
  exact ⟨D, rfl, gr_mk hg (by omega) (by omega)⟩
theorem rowG_32 {G : RG} (h : G.ok = true) {zs : List Int} {t i : Nat} (ht : t < 16) (hi : i < (G.D t).toNat) : ((rowG G zs t).getD i []).length = 32 := by
  obtain ⟨D, hD, gr⟩ := RG.gr h ht
  unfold rowG
  have e : (G.D t).toNat = D := by omega
  rw [e] at hi ⊢
  exact gr.fills (datL_len _ _ _) datL_mem hi
end Go.Proofs.Ytadmofpipfdedaa
end
section
set_option linter.unusedVariables false
set_option linter.unusedSimpArgs false
namespace Go.Proofs.Ytadmofpipfdedaa

/-- All disks of a row serve. -/
def scS (N : Bch) (lv : List Bool) (D : Nat) : Bool := (List.range D).all (srvD N lv)
theorem scS_yes {N : Bch} {lv : List Bool} {D : Nat} (h : ∀ i, i < D → srvD N lv i = true) : scS N lv D = true := List.all_eq_true.2 fun i hi => h i (List.mem_range.1 hi)
theorem scS_no {N : Bch} {lv : List Bool} {D i : Nat} (hi : i < D) (h : srvD N lv i = false) : scS N lv D = false := by
  cases e : scS N lv D with
  | false => rfl
  | true => rw [List.all_eq_true.1 e i (List.mem_range.2 hi)] at h; cases h
/-- A row that is asked, and does not agree. -/
def scB (N : Bch) (lv : List Bool) (G : RG) (r : Nat) : Bool := scS N lv (G.D r).toNat && !roRight (G.L r) (G.D r) (G.C r) (r : Int) (ssL N lv (36 + r) (G.D r).toNat)
def scrTo (N : Bch) (lv : List Bool) (G : RG) (k : Nat) : List Nat := (List.range k).filter (scB N lv G)
theorem scrTo_succ (N : Bch) (lv : List Bool) (G : RG) (k : Nat) : scrTo N lv G (k + 1) = if scB N lv G k = true then scrTo N lv G k ++ [k] else scrTo N lv G k := by
  unfold scrTo
  rw [List.range_succ, List.filter_append]
  split
  · next h => rw [List.filter_cons, if_pos h]; rfl
  · next h => rw [List.filter_cons, if_neg h]; simp
theorem scrTo_len (N : Bch) (lv : List Bool) (G : RG) (k : Nat) : (scrTo N lv G k).length ≤ k := by
  have := List.length_filter_le (scB N lv G) (List.range k)
  rw [List.length_range] at this
  exact this
def scE (N : Bch) (G : RG) : Int := if G.ok = false then 1 else if N.down = true then 6 else 0
def scL (N : Bch) (lv : List Bool) (G : RG) : List Nat := if scE N G = 0 then scrTo N lv G 16 else []
theorem scE_bad {N : Bch} {G : RG} (h : G.ok = false) : scE N G = 1 := if_pos h
theorem scE_down {N : Bch} {G : RG} (h : G.ok = true) (hd : N.down = true) : scE N G = 6 := by unfold scE; rw [if_neg (by simp [h]), if_pos hd]
theorem scE_ok {N : Bch} {G : RG} (h : G.ok = true) (hd : N.down = false) : scE N G = 0 := by unfold scE; rw [if_neg (by simp [h]), if_neg (by simp [hd])]
theorem scL_ok {N : Bch} {lv : List Bool} {G : RG} (h : G.ok = true) (hd : N.down = false) : scL N lv G = scrTo N lv G 16 := if_pos (scE_ok h hd)
theorem scL_no {N : Bch} {lv : List Bool} {G : RG} (h : scE N G ≠ 0) : scL N lv G = [] := if_neg h
end Go.Proofs.Ytadmofpipfdedaa
end
section
set_option maxRecDepth 20000
set_option linter.unusedVariables false
set_option linter.unusedSimpArgs false
namespace Go.Proofs.Ytadmofpipfdedaa
open Go.RowKit

/-- Whole numbers of 64 bits. -/
structure RG64 (G : RG) : Prop where
  l : (-9223372036854775808 ≤ G.l ∧ G.l ≤ 9223372036854775807)
  d : (-9223372036854775808 ≤ G.d ∧ G.d ≤ 9223372036854775807)
  c : (-9223372036854775808 ≤ G.c ∧ G.c ≤ 9223372036854775807)
  l' : (-9223372036854775808 ≤ G.l' ∧ G.l' ≤ 9223372036854775807)
  d' : (-9223372036854775808 ≤ G.d' ∧ G.d' ≤ 9223372036854775807)
  c' : (-9223372036854775808 ≤ G.c' ∧ G.c' ≤ 9223372036854775807)
  s : (-9223372036854775808 ≤ G.s ∧ G.s ≤ 9223372036854775807)
def RG.e (G : RG) : Int := if G.ok = true then 0 else 1
set_option maxHeartbeats 800000 in
theorem partedCheck_any (G : RG) (w : World) (h : RG64 G) :
    Calls Try.prog 46 #[.agg #[.int .i64 G.l, .int .i64 G.d, .int .i64 G.c], .agg #[.int .i64 G.l', .int .i64 G.d', .int .i64 G.c'], .int .i64 G.s] w fun e w' => e = .returned (.int .i64 G.e) ∧ Below w.heap.size w w' := by
  have CK : Hid (∀ W, Calls Try.prog 70 #[.agg #[.int .i64 G.l, .int .i64 G.d, .int .i64 G.c]] W fun e w' => e = .returned (.int .i64 (gErr G.l G.d G.c)) ∧ Below W.heap.size W w') := Lib.hid fun W => check_any G.l G.d G.c W h.l h.d h.c
  have CT : Hid (∀ W, Calls Try.prog 70 #[.agg #[.int .i64 G.l', .int .i64 G.d', .int .i64 G.c']] W fun e w' => e = .returned (.int .i64 (gErr G.l' G.d' G.c')) ∧ Below W.heap.size W w') := Lib.hid fun W => check_any G.l' G.d' G.c' W h.l' h.d' h.c'
  have HG : Hid (G.e = if (gOk G.l G.d G.c && (decide (0 ≤ G.s) && (decide (G.s ≤ 16) && (decide (G.s = 0) || gOk G.l' G.d' G.c')))) = true then 0 else 1) := rfl
  have hs := h.s
  generalize G.e = ge at HG ⊢
  clear h
  generalize G.l = l at CK HG
  generalize G.d = d at CK HG
  generalize G.c = c at CK HG
  generalize G.l' = l' at CT HG
  generalize G.d' = d' at CT HG
  generalize G.c' = c' at CT HG
  generalize G.s = s at hs HG
  have G2 := (gat_new (w.alloc (.cells #[.int .i64 l, .int .i64 d, .int .i64 c] 25)) l' d' c' 25 (0, 0))
  have B2 := below2 w (.cells #[.int .i64 l, .int .i64 d, .int .i64 c] 25) (.cells #[.int .i64 l', .int .i64 d', .int .i64 c'] 25)
  have hz : (w.alloc (.cells #[.int .i64 l, .int .i64 d, .int .i64 c] 25)).heap.size = w.heap.size + 1 := by simp
  rw [hz] at G2
  clear hz
  have HB2 := Lib.hid B2
  have HG2 := Lib.hid G2
  clear B2 G2
  have hgo : ∀ x y z : Int, gErr x y z = if gOk x y z = true then 0 else 1 := fun _ _ _ => rfl
  rw [hgo] at CK CT
  clear hgo
  cases hg : gOk l d c with
  | false =>
    rw [hg] at CK HG
    have CK := CK
    simp only [Bool.false_eq_true, if_false] at CK
    clear hg CT
    go_enter Try.func46, Try.ntmps46
    go_wp2_with fail
    (with_reducible refine (CK.out _).mono ?_); rintro e w1 ⟨rfl, hb⟩
    have F := HB2.out.trans (hb.mono HB2.out.size)
    clear hb
    go_wp2_with fail
    go_ret
    exact ⟨by rw [HG.out]; rfl, F⟩
  | true =>
    rw [hg] at CK HG
    simp only [if_true] at CK
    clear hg
    by_cases h0 : s < 0
    · have R := Lib.hid (show ge = 1 by rw [HG.out, decide_eq_false (by omega : ¬ 0 ≤ s)]; rfl)
      clear HG CT
      go_enter Try.func46, Try.ntmps46
      go_wp2_with fail
      (with_reducible refine (CK.out _).mono ?_); rintro e w1 ⟨rfl, hb⟩
      have F := HB2.out.trans (hb.mono HB2.out.size)
      clear hb
      go_wp2_with fail
      go_ret
      exact ⟨by rw [R.out]; rfl, F⟩
    · by_cases h1 : 16 < s
      · have R := Lib.hid (show ge = 1 by rw [HG.out, decide_eq_false (by omega : ¬ s ≤ 16)]; simp)
        clear HG CT
        go_enter Try.func46, Try.ntmps46
        go_wp2_with fail
        (with_reducible refine (CK.out _).mono ?_); rintro e w1 ⟨rfl, hb⟩
        have F := HB2.out.trans (hb.mono HB2.out.size)
        clear hb
        go_wp2_with fail
        go_ret
        exact ⟨by rw [R.out]; rfl, F⟩
      · by_cases h2 : s = 0
        · have R := Lib.hid (show ge = 0 by rw [HG.out, h2]; rfl)
          subst h2
          clear HG CT
          go_enter Try.func46, Try.ntmps46
          go_wp2_with fail
          (with_reducible refine (CK.out _).mono ?_); rintro e w1 ⟨rfl, hb⟩
          have F := HB2.out.trans (hb.mono HB2.out.size)
          clear hb
          go_wp2_with fail
          go_ret
          exact ⟨by rw [R.out]; rfl, F⟩
        · have R := Lib.hid (show ge = if gOk l' d' c' = true then 0 else 1 by rw [HG.out, decide_eq_true (by omega : 0 ≤ s), decide_eq_true (by omega : s ≤ 16), decide_eq_false h2]; rfl)
          have e2 : (s == 0) = false := ibeq_no h2
          clear HG h2
          generalize (if gOk l' d' c' = true then (0 : Int) else 1) = y at CT R
          go_enter Try.func46, Try.ntmps46
          go_wp2_with fail
          (with_reducible refine (CK.out _).mono ?_); rintro e w1 ⟨rfl, hb⟩
          have F := HB2.out.trans (hb.mono HB2.out.size)
          obtain ⟨g1, g2, g3⟩ := HG2.out.below hb (by simp)
          clear hb
          go_wp2_with fail
          (with_reducible refine (CT.out _).mono ?_); rintro e w2 ⟨rfl, hb⟩
          have F2 := F.trans (hb.mono F.size)
          clear hb
          go_wp2_with fail
          go_ret
          exact ⟨by rw [R.out]; rfl, F2⟩
set_option maxHeartbeats 800000 in
theorem partedOf_any (G : RG) (r : Nat) (hr : r < 16) (w : World) (h : RG64 G) :
    Calls Try.prog 48 #[.agg #[.int .i64 G.l, .int .i64 G.d, .int .i64 G.c], .agg #[.int .i64 G.l', .int .i64 G.d', .int .i64 G.c'], .int .i64 G.s, .int .i64 (r : Int)] w fun e w' => e = .returned (.agg #[.int .i64 (G.L r), .int .i64 (G.D r), .int .i64 (G.C r)]) ∧ Below w.heap.size w w' := by
  have HL := Lib.hid (show G.L r = rg G.s G.l G.l' r from rfl)
  have HD := Lib.hid (show G.D r = rg G.s G.d G.d' r from rfl)
  have HC := Lib.hid (show G.C r = rg G.s G.c G.c' r from rfl)
  have hs := h.s
  have hl := h.l
  have hd := h.d
  have hc := h.c
  have hl' := h.l'
  have hd' := h.d'
  have hc' := h.c'
  generalize G.L r = L at HL ⊢
  generalize G.D r = D at HD ⊢
  generalize G.C r = C at HC ⊢
  clear h
  generalize G.l = l at hl HL
  generalize G.d = d at hd HD
  generalize G.c = c at hc HC
  generalize G.l' = l' at hl' HL
  generalize G.d' = d' at hd' HD
  generalize G.c' = c' at hc' HC
  generalize G.s = s at hs HL HD HC
  by_cases hs2 : (r : Int) < s
  · have e1 := Lib.hid (HL.out.trans (if_pos hs2))
    have e2 := Lib.hid (HD.out.trans (if_pos hs2))
    have e3 := Lib.hid (HC.out.trans (if_pos hs2))
    clear HL HD HC
    go_enter Try.func48, Try.ntmps48
    go_wp2_with fail
    refine bodyPost_ret (v := .agg #[.int .i64 l', .int .i64 d', .int .i64 c']) (by simp [results, Try.results48, go_sem]) rfl ⟨?_, ?_⟩
    · rw [e1.out, e2.out, e3.out]
    · exact below3 w _ _ _
  · have e1 := Lib.hid (HL.out.trans (if_neg hs2))
    have e2 := Lib.hid (HD.out.trans (if_neg hs2))
    have e3 := Lib.hid (HC.out.trans (if_neg hs2))
    clear HL HD HC
    go_enter Try.func48, Try.ntmps48
    go_wp2_with fail
    refine bodyPost_ret (v := .agg #[.int .i64 l, .int .i64 d, .int .i64 c]) (by simp [results, Try.results48, go_sem]) rfl ⟨?_, ?_⟩
    · rw [e1.out, e2.out, e3.out]
    · exact below3 w _ _ _
end Go.Proofs.Ytadmofpipfdedaa
end
section
set_option maxRecDepth 20000
set_option linter.unusedVariables false
set_option linter.unusedSimpArgs false
namespace Go.Proofs.Ytadmofpipfdedaa
open Go.RowKit

end Go.Proofs.Ytadmofpipfdedaa
end
section
set_option maxRecDepth 20000
set_option linter.unusedVariables false
set_option linter.unusedSimpArgs false
namespace Go.Proofs.Ytadmofpipfdedaa
open Go.RowKit

theorem cells3_one (x y z : Int) : ∀ u ∈ [Value.int .i64 x, .int .i64 y, .int .i64 z], u.oneCell' = true := by
  intro u hu
  simp only [List.mem_cons, List.not_mem_nil, or_false] at hu
  rcases hu with rfl | rfl | rfl <;> rfl
end Go.Proofs.Ytadmofpipfdedaa
end
