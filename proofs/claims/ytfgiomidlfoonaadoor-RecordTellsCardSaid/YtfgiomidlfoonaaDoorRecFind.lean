/- slices.ContainsFunc as record asks it: with an Item's own meets, over Items; with unlikeSector, over sectors. slices.EqualFunc with bytes.Equal. -/
import Derived.Test.YtfgiomidlfoonaaDoorRecMay
import Derived.Test.YtfgiomidlfoonaaDoorStr
import Derived.Test.YtfgiomidlfoonaaDoorOpsKit
set_option maxRecDepth 8000
set_option linter.unusedVariables false
set_option linter.unusedSimpArgs false
namespace Go.Proofs.YtfgiomidlfoonaaDoor
open Go.RowKit

theorem its_take {l : List It} {i : Nat} (hi : i < l.length) : l.take (i + 1) = l.take i ++ [itN l i] := by
  rw [List.take_succ_eq_append_getElem hi]; simp [itN, hi]
set_option maxHeartbeats 800000 in
theorem idxI_any (A : Option Addr) (n c : Nat) (l : List It) (x : It) (D : Option Addr) (m cd : Nat) (w : World) (hn : l.length = n) (h : RdI w w.heap.size A l) :
    Calls Tryd.prog 38 #[.slice A n c, .func (.func 25) #[.agg #[.int .i64 x.d, .int .i64 x.a, .slice D m cd]] #[]] w fun e w' => ∃ r : Int, e = .returned (.int .i64 r) ∧ decide (0 ≤ r) = l.any (meetsB x) ∧ Below w.heap.size w w' := by
  subst hn
  have H := Lib.hid h
  have hmx := h.1
  clear h
  go_enter Tryd.func38, Tryd.ntmps38
  go_wp2
  go_loopw [8] (fun i wr => ∃ j : Nat, j ≤ l.length ∧ i = .int .i64 j ∧ (l.take j).any (meetsB x) = false ∧ Below w.heap.size w wr) (fun i _ => l.length - (intOf i).toNat)
  case atStart => exact ⟨0, Nat.zero_le _, rfl, by simp, Below.refl _ _⟩
  case round =>
    obtain ⟨j, hj, rfl, hall, hbr⟩ := hrel
    have Hall := Lib.hid hall
    clear hall
    by_cases hlt : j < l.length
    · obtain ⟨g, rfl, hg, hc⟩ := (H.out.below hbr (Nat.le_refl _)).2 (by omega)
      obtain ⟨D', c', hrp, _⟩ := hc j hlt
      clear hc
      have Hts := Lib.hid (its_take hlt)
      have Hm := Lib.hid (itN_mem hlt)
      generalize itN l j = y at hrp Hts Hm
      have CL := Lib.hid (meets_any x y D D' m cd y.b.length c' wr)
      have Hrp := Lib.hid hrp
      have k0 : (0 : Int) ≤ (j : Int) := by omega
      have k1 : (j : Int) < (l.length : Int) := by omega
      clear hrp
      cases hpk : meetsB x y with
      | true =>
        rw [hpk] at CL
        have Hpk := Lib.hid hpk
        clear hpk
        go_wp2_with (first
          | ((with_reducible refine (id ?_ : wpList _ _ _ (⟨some 15, _, _, _, _, _⟩ :: _) _ _)); refine wpList_load_mid rfl 29 _ (by rfl) g (j * 3) (by rfl) [.int .i64 y.d, .int .i64 y.a, .slice D' y.b.length c'] _ Hrp.out Tryd.underlying29 rfl (by kernel_rfl) ?_)
          | (go_at_call 25; refine CL.out.mono ?_; rintro e w1 ⟨rfl, hb1⟩))
        go_ret
        exact ⟨(j : Int), rfl, by rw [decide_eq_true (by omega)]; exact (List.any_eq_true.2 ⟨y, Hm.out, Hpk.out⟩).symm, hbr.trans (hb1.mono hbr.size)⟩
      | false =>
        rw [hpk] at CL
        have Hpk := Lib.hid hpk
        clear hpk
        go_wp2_with (first
          | ((with_reducible refine (id ?_ : wpList _ _ _ (⟨some 15, _, _, _, _, _⟩ :: _) _ _)); refine wpList_load_mid rfl 29 _ (by rfl) g (j * 3) (by rfl) [.int .i64 y.d, .int .i64 y.a, .slice D' y.b.length c'] _ Hrp.out Tryd.underlying29 rfl (by kernel_rfl) ?_)
          | (go_at_call 25; refine CL.out.mono ?_; rintro e w1 ⟨rfl, hb1⟩))
        go_roundw
        case rel => exact ⟨j + 1, by omega, by go_num, by rw [Hts.out, List.any_append, Hall.out]; simpa using Hpk.out, hbr.trans (hb1.mono hbr.size)⟩
        case measure => simp [intOf]; omega
    · obtain rfl : j = l.length := by omega
      go_wp2
      go_ret
      exact ⟨-1, rfl, by have := Hall.out; rw [List.take_length] at this; rw [this]; decide, hbr⟩
theorem anyI_any (A : Option Addr) (n c : Nat) (l : List It) (x : It) (D : Option Addr) (m cd : Nat) (w : World) (hn : l.length = n) (h : RdI w w.heap.size A l) :
    Calls Tryd.prog 24 #[.slice A n c, .func (.func 25) #[.agg #[.int .i64 x.d, .int .i64 x.a, .slice D m cd]] #[]] w fun e w' => e = .returned (.bool (l.any (meetsB x))) ∧ Below w.heap.size w w' := by
  have C := Lib.hid (idxI_any A n c l x D m cd w hn h)
  clear h hn
  go_enter Tryd.func24, Tryd.ntmps24
  go_wp2_with fail
  refine C.out.mono ?_
  rintro e w1 ⟨r, rfl, hr, hb1⟩
  have Hr := Lib.hid hr
  clear hr
  go_wp2
  go_ret
  exact ⟨by rw [← Hr.out]; rfl, hb1⟩
def unl (b : List UInt8) : Bool := (b.length : Int) != 32
theorem rs_take {rs : List (List UInt8)} {i : Nat} (hi : i < rs.length) : rs.take (i + 1) = rs.take i ++ [rs.getD i []] := by
  rw [List.take_succ_eq_append_getElem hi]; simp [hi]
theorem idxU_any (A : Option Addr) (n c : Nat) (rs : List (List UInt8)) (w : World) (hn : rs.length = n) (h : RdR w w.heap.size A rs) :
    Calls Tryd.prog 39 #[.slice A n c, .func (.func 27) #[] #[]] w fun e w' => ∃ r : Int, e = .returned (.int .i64 r) ∧ decide (0 ≤ r) = rs.any unl ∧ Below w.heap.size w w' := by
  subst hn
  have H := Lib.hid h
  have hmx := h.1
  clear h
  go_enter Tryd.func39, Tryd.ntmps39
  go_wp2
  go_loopw [8] (fun i wr => ∃ j : Nat, j ≤ rs.length ∧ i = .int .i64 j ∧ (rs.take j).any unl = false ∧ wr = w) (fun i _ => rs.length - (intOf i).toNat)
  case atStart => exact ⟨0, Nat.zero_le _, rfl, by simp, rfl⟩
  case round =>
    obtain ⟨j, hj, rfl, hall, rfl⟩ := hrel
    have Hall := Lib.hid hall
    clear hall
    by_cases hlt : j < rs.length
    · obtain ⟨g, off, rfl, hg, hc⟩ := H.out.2 (by omega)
      obtain ⟨D', c', hrp, _⟩ := hc j hlt
      clear hc
      have Hts := Lib.hid (rs_take hlt)
      have Hm := Lib.hid (show rs.getD j [] ∈ rs by simp [hlt])
      have CL := Lib.hid (unlike_any D' (rs.getD j []).length c' wr (unl (rs.getD j [])) rfl)
      generalize rs.getD j [] = y at hrp Hts Hm CL
      have k0 : (0 : Int) ≤ (j : Int) := by omega
      have k1 : (j : Int) < (rs.length : Int) := by omega
      generalize y.length = yl at hrp CL
      cases hpk : unl y with
      | true =>
        rw [hpk] at CL
        have Hpk := Lib.hid hpk
        clear hpk
        go_wp2_with (go_at_call 27; refine CL.out.mono ?_; rintro e w1 ⟨rfl, rfl⟩)
        go_ret
        exact ⟨(j : Int), rfl, by rw [decide_eq_true (by omega)]; exact (List.any_eq_true.2 ⟨y, Hm.out, Hpk.out⟩).symm, Below.refl _ _⟩
      | false =>
        rw [hpk] at CL
        have Hpk := Lib.hid hpk
        clear hpk
        go_wp2_with (go_at_call 27; refine CL.out.mono ?_; rintro e w1 ⟨rfl, rfl⟩)
        go_roundw
        case rel => exact ⟨j + 1, by omega, by go_num, by rw [Hts.out, List.any_append, Hall.out]; simpa using Hpk.out, trivial⟩
        case measure => simp [intOf]; omega
    · obtain rfl : j = rs.length := by omega
      go_wp2
      go_ret
      exact ⟨-1, rfl, by have := Hall.out; rw [List.take_length] at this; rw [this]; decide, Below.refl _ _⟩
theorem anyU_any (A : Option Addr) (n c : Nat) (rs : List (List UInt8)) (w : World) (hn : rs.length = n) (h : RdR w w.heap.size A rs) :
    Calls Tryd.prog 26 #[.slice A n c, .func (.func 27) #[] #[]] w fun e w' => e = .returned (.bool (rs.any unl)) ∧ Below w.heap.size w w' := by
  have C := Lib.hid (idxU_any A n c rs w hn h)
  clear h hn
  go_enter Tryd.func26, Tryd.ntmps26
  go_wp2_with fail
  refine C.out.mono ?_
  rintro e w1 ⟨r, rfl, hr, hb1⟩
  have Hr := Lib.hid hr
  clear hr
  go_wp2
  go_ret
  exact ⟨by rw [← Hr.out]; rfl, hb1⟩
theorem bytesEqual_any (A A' : Option Addr) (n n' c c' B B' : Nat) (bs bs' : List UInt8) (w : World) (hn : n = bs.length) (hn' : n' = bs'.length) (hr : RdB w B A bs) (hr' : RdB w B' A' bs') :
    Calls Tryd.prog 30 #[.slice A n c, .slice A' n' c'] w fun e w' => e = .returned (.bool (bs == bs')) ∧ w' = w := by
  have h1 := conv_str A bs n c B w hn hr
  have h2 := conv_str A' bs' n' c' B' w hn' hr'
  clear hn hn' hr hr'
  have h3 := str_eql 9 bs bs' w
  have h4 : ∀ x y, (eqGuard .eql 9 x y (str bs) (str bs')) = pure () := fun _ _ => by unfold str; rw [eqGuard_at_string]
  generalize str bs = s1 at h1 h3 h4
  generalize str bs' = s2 at h2 h3 h4
  go_enter Tryd.func30, Tryd.ntmps30
  go_wp2
  go_ret
  exact ⟨rfl, rfl⟩
theorem rs_ext {rs qs : List (List UInt8)} (hl : rs.length = qs.length) (h : ∀ k, k < rs.length → rs.getD k [] = qs.getD k []) : rs = qs := by
  apply List.ext_getElem hl
  intro k h1 h2
  have := h k h1
  simpa [List.getD_eq_getElem?_getD, h1, h2] using this
set_option maxHeartbeats 800000 in
theorem equalR_any (A A' : Option Addr) (n n' c c' : Nat) (rs qs : List (List UInt8)) (w : World) (hn : rs.length = n) (hn' : qs.length = n') (h : RdR w w.heap.size A rs) (h' : RdR w w.heap.size A' qs) :
    Calls Tryd.prog 29 #[.slice A n c, .slice A' n' c', .func (.func 30) #[] #[]] w fun e w' => e = .returned (.bool (decide (rs = qs))) ∧ Below w.heap.size w w' := by
  subst hn hn'
  have H := Lib.hid h
  have H' := Lib.hid h'
  have hmx := h.1
  have hmx' := h'.1
  clear h h'
  by_cases hl : rs.length = qs.length
  · have Hext := Lib.hid (@rs_ext rs qs hl)
    have e0 : ((rs.length : Int) != (qs.length : Int)) = false := by rw [hl]; exact bne_self_eq_false _
    have Hl := Lib.hid hl
    clear hl
    go_enter Tryd.func29, Tryd.ntmps29
    go_wp2
    go_loopw [17] (fun i wr => ∃ j : Nat, j ≤ rs.length ∧ i = .int .i64 j ∧ (∀ k, k < j → rs.getD k [] = qs.getD k []) ∧ wr = w) (fun i _ => rs.length - (intOf i).toNat)
    case atStart => exact ⟨0, Nat.zero_le _, rfl, fun k hk => absurd hk (Nat.not_lt_zero _), rfl⟩
    case round =>
      obtain ⟨j, hj, rfl, hall, rfl⟩ := hrel
      have Hall := Lib.hid hall
      clear hall
      by_cases hlt : j < rs.length
      · have hlt' : j < qs.length := by have := Hl.out; omega
        obtain ⟨g, off, rfl, hg, hc⟩ := H.out.2 (by omega)
        obtain ⟨D, cd, hrp, hrd⟩ := hc j hlt
        obtain ⟨g', off', rfl, hg', hc'⟩ := H'.out.2 (by omega)
        obtain ⟨D', cd', hrp', hrd'⟩ := hc' j hlt'
        clear hc hc'
        have CL := Lib.hid (bytesEqual_any D D' _ _ cd cd' _ _ (rs.getD j []) (qs.getD j []) wr rfl rfl hrd hrd')
        have Hno := Lib.hid (show rs.getD j [] ≠ qs.getD j [] → decide (rs = qs) = false from fun q => decide_eq_false fun e => q (by rw [e]))
        have Hyes := Lib.hid (show rs.getD j [] = qs.getD j [] → ∀ k, k < j + 1 → rs.getD k [] = qs.getD k [] from fun q k hk => by
          by_cases e : k = j
          · subst e; exact q
          · exact Hall.out k (by omega))
        clear hrd hrd'
        generalize rs.getD j [] = y at hrp CL Hno Hyes
        generalize qs.getD j [] = z at hrp' CL Hno Hyes
        have k0 : (0 : Int) ≤ (j : Int) := by omega
        have k1 : (j : Int) < (rs.length : Int) := by omega
        have k2 : (j : Int) < (qs.length : Int) := by omega
        generalize y.length = yl at hrp CL
        generalize z.length = zl at hrp' CL
        cases hpk : (y == z) with
        | false =>
          rw [hpk] at CL
          have R := Lib.hid (Hno.out (beq_eq_false_iff_ne.1 hpk))
          clear hpk
          go_wp2_with (go_at_call 30; refine CL.out.mono ?_; rintro e w1 ⟨rfl, rfl⟩)
          go_ret
          exact ⟨by rw [R.out]; rfl, Below.refl _ _⟩
        | true =>
          rw [hpk] at CL
          have R := Lib.hid (Hyes.out (beq_iff_eq.1 hpk))
          clear hpk
          go_wp2_with (go_at_call 30; refine CL.out.mono ?_; rintro e w1 ⟨rfl, rfl⟩)
          go_roundw
          case rel => exact ⟨j + 1, by omega, by go_num, R.out, trivial⟩
          case measure => simp [intOf]; omega
      · obtain rfl : j = rs.length := by omega
        have R := Lib.hid (show decide (rs = qs) = true from decide_eq_true (Hext.out Hall.out))
        go_wp2
        go_ret
        exact ⟨by rw [R.out]; rfl, Below.refl _ _⟩
  · have R := Lib.hid (show decide (rs = qs) = false from decide_eq_false fun e => hl (by rw [e]))
    have e0 : ((rs.length : Int) != (qs.length : Int)) = true := by rw [bne_iff_ne]; omega
    clear hl
    go_enter Tryd.func29, Tryd.ntmps29
    go_wp2
    go_ret
    exact ⟨by rw [R.out]; rfl, Below.refl _ _⟩
end Go.Proofs.YtfgiomidlfoonaaDoor
