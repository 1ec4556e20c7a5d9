/- Texts put together: RecFind, CloneB, Take, Ord, OrdSkip. -/
import Derived.Test.YtfgiomidlfoonaaDoorRaab
import Derived.Test.YtfgiomidlfoonaaDoorRaaa
import Derived.StillTail
import Derived.OrdersHeld
import Derived.Deep.MidRow
section
set_option maxRecDepth 8000
set_option linter.unusedVariables false
set_option linter.unusedSimpArgs false
namespace Go.Proofs.YtfgiomidlfoonaaDoor
open Go.RowKit

theorem its_take {l : List It} {i : Nat} (hi : i < l.length) : l.take (i + 1) = l.take i ++ [itN l i] := by
  rw [List.take_succ_eq_append_getElem hi]; simp [itN, hi]
set_option maxHeartbeats 800000 in
theorem idxI_any (A : Option Addr) (n c : Nat) (l : List It) (x : It) (D : Option Addr) (m cd : Nat) (w : World) (hn : l.length = n) (h : RdI w w.heap.size A l) :
    Calls Tryd.prog 38 #[.slice A n c, .func (.func 25) #[.agg #[.int .i64 x.d, .int .i64 x.a, .slice D m cd]] #[]] w fun e w' => ∃ r : Int, e = .returned (.int .i64 r) ∧ decide (0 ≤ r) = l.any (meetsB x) ∧ Below w.heap.size w w' := by
  subst hn
  have H := Lib.hid h
  have hmx := h.1
  clear h
  go_enter Tryd.func38, Tryd.ntmps38
  go_wp2
  go_loopw [8] (fun i wr => ∃ j : Nat, j ≤ l.length ∧ i = .int .i64 j ∧ (l.take j).any (meetsB x) = false ∧ Below w.heap.size w wr) (fun i _ => l.length - (intOf i).toNat)
  case atStart => exact ⟨0, Nat.zero_le _, rfl, by simp, Below.refl _ _⟩
  case round =>
    obtain ⟨j, hj, rfl, hall, hbr⟩ := hrel
    have Hall := Lib.hid hall
    clear hall
    by_cases hlt : j < l.length
    · obtain ⟨g, rfl, hg, hc⟩ := (H.out.below hbr (Nat.le_refl _)).2 (by omega)
      obtain ⟨D', c', hrp, _⟩ := hc j hlt
      clear hc
      have Hts := Lib.hid (its_take hlt)
      have Hm := Lib.hid (itN_mem hlt)
      generalize itN l j = y at hrp Hts Hm
      have CL := Lib.hid (meets_any x y D D' m cd y.b.length c' wr)
      have Hrp := Lib.hid hrp
      have k0 : (0 : Int) ≤ (j : Int) := by omega
      have k1 : (j : Int) < (l.length : Int) := by omega
      clear hrp
      cases hpk : meetsB x y with
      | true =>
        rw [hpk] at CL
        have Hpk := Lib.hid hpk
        clear hpk
        go_wp2_with (first
          | ((with_reducible refine (id ?_ : wpList _ _ _ (⟨some 15, _, _, _, _, _⟩ :: _) _ _)); refine wpList_load_mid rfl 29 _ (by rfl) g (j * 3) (by rfl) [.int .i64 y.d, .int .i64 y.a, .slice D' y.b.length c'] _ Hrp.out Tryd.underlying29 rfl (by kernel_rfl) ?_)
          | (go_at_call 25; refine CL.out.mono ?_; rintro e w1 ⟨rfl, hb1⟩))
        go_ret
        exact ⟨(j : Int), rfl, by rw [decide_eq_true (by omega)]; exact (List.any_eq_true.2 ⟨y, Hm.out, Hpk.out⟩).symm, hbr.trans (hb1.mono hbr.size)⟩
      | false =>
        rw [hpk] at CL
        have Hpk := Lib.hid hpk
        clear hpk
        go_wp2_with (first
          | ((with_reducible refine (id ?_ : wpList _ _ _ (⟨some 15, _, _, _, _, _⟩ :: _) _ _)); refine wpList_load_mid rfl 29 _ (by rfl) g (j * 3) (by rfl) [.int .i64 y.d, .int .i64 y.a, .slice D' y.b.length c'] _ Hrp.out Tryd.underlying29 rfl (by kernel_rfl) ?_)
          | (go_at_call 25; refine CL.out.mono ?_; rintro e w1 ⟨rfl, hb1⟩))
        go_roundw
        case rel => exact ⟨j + 1, by omega, by go_num, by rw [Hts.out, List.any_append, Hall.out]; simpa using Hpk.out, hbr.trans (hb1.mono hbr.size)⟩
        case measure => simp [intOf]; omega
    · obtain rfl : j = l.length := by omega
      go_wp2
      go_ret
      exact ⟨-1, rfl, by have := Hall.out; rw [List.take_length] at this; rw [this]; decide, hbr⟩
theorem anyI_any (A : Option Addr) (n c : Nat) (l : List It) (x : It) (D : Option Addr) (m cd : Nat) (w : World) (hn : l.length = n) (h : RdI w w.heap.size A l) :
    Calls Tryd.prog 24 #[.slice A n c, .func (.func 25) #[.agg #[.int .i64 x.d, .int .i64 x.a, .slice D m cd]] #[]] w fun e w' => e = .returned (.bool (l.any (meetsB x))) ∧ Below w.heap.size w w' := by
  have C := Lib.hid (idxI_any A n c l x D m cd w hn h)
  clear h hn
  go_enter Tryd.func24, Tryd.ntmps24
  go_wp2_with fail
  refine C.out.mono ?_
  rintro e w1 ⟨r, rfl, hr, hb1⟩
  have Hr := Lib.hid hr
  clear hr
  go_wp2
  go_ret
  exact ⟨by rw [← Hr.out]; rfl, hb1⟩
def unl (b : List UInt8) : Bool := (b.length : Int) != 32
theorem rs_take {rs : List (List UInt8)} {i : Nat} (hi : i < rs.length) : rs.take (i + 1) = rs.take i ++ [rs.getD i []] := by
  rw [List.take_succ_eq_append_getElem hi]; simp [hi]
theorem idxU_any (A : Option Addr) (n c : Nat) (rs : List (List UInt8)) (w : World) (hn : rs.length = n) (h : RdR w w.heap.size A rs) :
    Calls Tryd.prog 39 #[.slice A n c, .func (.func 27) #[] #[]] w fun e w' => ∃ r : Int, e = .returned (.int .i64 r) ∧ decide (0 ≤ r) = rs.any unl ∧ Below w.heap.size w w' := by
  subst hn
  have H := Lib.hid h
  have hmx := h.1
  clear h
  go_enter Tryd.func39, Tryd.ntmps39
  go_wp2
  go_loopw [8] (fun i wr => ∃ j : Nat, j ≤ rs.length ∧ i = .int .i64 j ∧ (rs.take j).any unl = false ∧ wr = w) (fun i _ => rs.length - (intOf i).toNat)
  case atStart => exact ⟨0, Nat.zero_le _, rfl, by simp, rfl⟩
  case round =>
    obtain ⟨j, hj, rfl, hall, rfl⟩ := hrel
    have Hall := Lib.hid hall
    clear hall
    by_cases hlt : j < rs.length
    · obtain ⟨g, off, rfl, hg, hc⟩ := H.out.2 (by omega)
      obtain ⟨D', c', hrp, _⟩ := hc j hlt
      clear hc
      have Hts := Lib.hid (rs_take hlt)
      have Hm := Lib.hid (show rs.getD j [] ∈ rs by simp [hlt])
      have CL := Lib.hid (unlike_any D' (rs.getD j []).length c' wr (unl (rs.getD j [])) rfl)
      generalize rs.getD j [] = y at hrp Hts Hm CL
      have k0 : (0 : Int) ≤ (j : Int) := by omega
      have k1 : (j : Int) < (rs.length : Int) := by omega
      generalize y.length = yl at hrp CL
      cases hpk : unl y with
      | true =>
        rw [hpk] at CL
        have Hpk := Lib.hid hpk
        clear hpk
        go_wp2_with (go_at_call 27; refine CL.out.mono ?_; rintro e w1 ⟨rfl, rfl⟩)
        go_ret
        exact ⟨(j : Int), rfl, by rw [decide_eq_true (by omega)]; exact (List.any_eq_true.2 ⟨y, Hm.out, Hpk.out⟩).symm, Below.refl _ _⟩
      | false =>
        rw [hpk] at CL
        have Hpk := Lib.hid hpk
        clear hpk
        go_wp2_with (go_at_call 27; refine CL.out.mono ?_; rintro e w1 ⟨rfl, rfl⟩)
        go_roundw
        case rel => exact ⟨j + 1, by omega, by go_num, by rw [Hts.out, List.any_append, Hall.out]; simpa using Hpk.out, trivial⟩
        case measure => simp [intOf]; omega
    · obtain rfl : j = rs.length := by omega
      go_wp2
      go_ret
      exact ⟨-1, rfl, by have := Hall.out; rw [List.take_length] at this; rw [this]; decide, Below.refl _ _⟩
theorem anyU_any (A : Option Addr) (n c : Nat) (rs : List (List UInt8)) (w : World) (hn : rs.length = n) (h : RdR w w.heap.size A rs) :
    Calls Tryd.prog 26 #[.slice A n c, .func (.func 27) #[] #[]] w fun e w' => e = .returned (.bool (rs.any unl)) ∧ Below w.heap.size w w' := by
  have C := Lib.hid (idxU_any A n c rs w hn h)
  clear h hn
  go_enter Tryd.func26, Tryd.ntmps26
  go_wp2_with fail
  refine C.out.mono ?_
  rintro e w1 ⟨r, rfl, hr, hb1⟩
  have Hr := Lib.hid hr
  clear hr
  go_wp2
  go_ret
  exact ⟨by rw [← Hr.out]; rfl, hb1⟩
theorem bytesEqual_any (A A' : Option Addr) (n n' c c' B B' : Nat) (bs bs' : List UInt8) (w : World) (hn : n = bs.length) (hn' : n' = bs'.length) (hr : RdB w B A bs) (hr' : RdB w B' A' bs') :
    Calls Tryd.prog 30 #[.slice A n c, .slice A' n' c'] w fun e w' => e = .returned (.bool (bs == bs')) ∧ w' = w := by
  have h1 := conv_str A bs n c B w hn hr
  have h2 := conv_str A' bs' n' c' B' w hn' hr'
  clear hn hn' hr hr'
  have h3 := str_eql 9 bs bs' w
  have h4 : ∀ x y, (eqGuard .eql 9 x y (str bs) (str bs')) = pure () := fun _ _ => by unfold str; rw [eqGuard_at_string]
  generalize str bs = s1 at h1 h3 h4
  generalize str bs' = s2 at h2 h3 h4
  go_enter Tryd.func30, Tryd.ntmps30
  go_wp2
  go_ret
  exact ⟨rfl, rfl⟩
theorem rs_ext {rs qs : List (List UInt8)} (hl : rs.length = qs.length) (h : ∀ k, k < rs.length → rs.getD k [] = qs.getD k []) : rs = qs := by
  apply List.ext_getElem hl
  intro k h1 h2
  have := h k h1
  simpa [List.getD_eq_getElem?_getD, h1, h2] using this
set_option maxHeartbeats 800000 in
theorem equalR_any (A A' : Option Addr) (n n' c c' : Nat) (rs qs : List (List UInt8)) (w : World) (hn : rs.length = n) (hn' : qs.length = n') (h : RdR w w.heap.size A rs) (h' : RdR w w.heap.size A' qs) :
    Calls Tryd.prog 29 #[.slice A n c, .slice A' n' c', .func (.func 30) #[] #[]] w fun e w' => e = .returned (.bool (decide (rs = qs))) ∧ Below w.heap.size w w' := by
  subst hn hn'
  have H := Lib.hid h
  have H' := Lib.hid h'
  have hmx := h.1
  have hmx' := h'.1
  clear h h'
  by_cases hl : rs.length = qs.length
  · have Hext := Lib.hid (@rs_ext rs qs hl)
    have e0 : ((rs.length : Int) != (qs.length : Int)) = false := by rw [hl]; exact bne_self_eq_false _
    have Hl := Lib.hid hl
    clear hl
    go_enter Tryd.func29, Tryd.ntmps29
    go_wp2
    go_loopw [17] (fun i wr => ∃ j : Nat, j ≤ rs.length ∧ i = .int .i64 j ∧ (∀ k, k < j → rs.getD k [] = qs.getD k []) ∧ wr = w) (fun i _ => rs.length - (intOf i).toNat)
    case atStart => exact ⟨0, Nat.zero_le _, rfl, fun k hk => absurd hk (Nat.not_lt_zero _), rfl⟩
    case round =>
      obtain ⟨j, hj, rfl, hall, rfl⟩ := hrel
      have Hall := Lib.hid hall
      clear hall
      by_cases hlt : j < rs.length
      · have hlt' : j < qs.length := by have := Hl.out; omega
        obtain ⟨g, off, rfl, hg, hc⟩ := H.out.2 (by omega)
        obtain ⟨D, cd, hrp, hrd⟩ := hc j hlt
        obtain ⟨g', off', rfl, hg', hc'⟩ := H'.out.2 (by omega)
        obtain ⟨D', cd', hrp', hrd'⟩ := hc' j hlt'
        clear hc hc'
        have CL := Lib.hid (bytesEqual_any D D' _ _ cd cd' _ _ (rs.getD j []) (qs.getD j []) wr rfl rfl hrd hrd')
        have Hno := Lib.hid (show rs.getD j [] ≠ qs.getD j [] → decide (rs = qs) = false from fun q => decide_eq_false fun e => q (by rw [e]))
        have Hyes := Lib.hid (show rs.getD j [] = qs.getD j [] → ∀ k, k < j + 1 → rs.getD k [] = qs.getD k [] from fun q k hk => by
          by_cases e : k = j
          · subst e; exact q
          · exact Hall.out k (by omega))
        clear hrd hrd'
        generalize rs.getD j [] = y at hrp CL Hno Hyes
        generalize qs.getD j [] = z at hrp' CL Hno Hyes
        have k0 : (0 : Int) ≤ (j : Int) := by omega
        have k1 : (j : Int) < (rs.length : Int) := by omega
        have k2 : (j : Int) < (qs.length : Int) := by omega
        generalize y.length = yl at hrp CL
        generalize z.length = zl at hrp' CL
        cases hpk : (y == z) with
        | false =>
          rw [hpk] at CL
          have R := Lib.hid (Hno.out (beq_eq_false_iff_ne.1 hpk))
          clear hpk
          go_wp2_with (go_at_call 30; refine CL.out.mono ?_; rintro e w1 ⟨rfl, rfl⟩)
          go_ret
          exact ⟨by rw [R.out]; rfl, Below.refl _ _⟩
        | true =>
          rw [hpk] at CL
          have R := Lib.hid (Hyes.out (beq_iff_eq.1 hpk))
          clear hpk
          go_wp2_with (go_at_call 30; refine CL.out.mono ?_; rintro e w1 ⟨rfl, rfl⟩)
          go_roundw
          case rel => exact ⟨j + 1, by omega, by go_num, R.out, trivial⟩
          case measure => simp [intOf]; omega
      · obtain rfl : j = rs.length := by omega
        have R := Lib.hid (show decide (rs = qs) = true from decide_eq_true (Hext.out Hall.out))
        go_wp2
        go_ret
        exact ⟨by rw [R.out]; rfl, Below.refl _ _⟩
  · have R := Lib.hid (show decide (rs = qs) = false from decide_eq_false fun e => hl (by rw [e]))
    have e0 : ((rs.length : Int) != (qs.length : Int)) = true := by rw [bne_iff_ne]; omega
    clear hl
    go_enter Tryd.func29, Tryd.ntmps29
    go_wp2
    go_ret
    exact ⟨by rw [R.out]; rfl, Below.refl _ _⟩
end Go.Proofs.YtfgiomidlfoonaaDoor
end
section
set_option maxRecDepth 8000
namespace Go.Proofs.YtfgiomidlfoonaaDoor
open Go.RowKit

theorem own_empty (w : World) : OwB 5 (w.alloc (.cells #[] 5)) w.heap.size (.slice (some ⟨w.heap.size, 0, none⟩) 0 0) [] :=
  ⟨World.ownsRow_lit w #[] 0 (Nat.le_refl _) (by unfold maxLen; omega) rfl, by simp⟩
theorem clone_any (A : Option Addr) (bs : List UInt8) (n c : Nat) (w : World) (hn : n = bs.length) (hp : 0 < bs.length) (hr : RdB w w.heap.size A bs) :
    Calls Tryd.prog 40 #[.slice A n c] w fun e w' => ∃ v, e = .returned v ∧ OwB 5 w' w.heap.size v bs ∧ Below w.heap.size w w' := by
  have hl := hr.1
  obtain ⟨b, off, rfl, hb, hc⟩ := hr.2 hp
  subst hn
  have ho := own_empty w
  have hq : ∀ W : World, (binOp .eql 22 (.slice (some ⟨b, off, none⟩) bs.length c) (.slice none 0 0)).run Tryd.prog W = .ok (.bool false) W := fun _ => rfl
  have hr1 := hr.below (below1 w (.cells #[] 5)) (Nat.le_refl _)
  go_enter Tryd.func40, Tryd.ntmps40
  go_wp2_with (at_builtin; refine wpList_append_B _ rfl _ _ _ rfl w.heap.size 5 Tryd.underlying22 info_u8 (.slice (some ⟨w.heap.size, 0, none⟩) 0 0) [] rfl ho w.heap.size (some ⟨b, off, none⟩) bs.length c bs rfl rfl hr1 (by simpa using hl) (by simp) ?_; intro v' w' hown hg hat)
  have hbw := (below1 w (.cells #[] 5)).grown hg (by simp) (by simp [Value.ownBlock])
  rw [List.nil_append] at hown
  go_ret
  exact ⟨v', rfl, hown, hbw⟩
end Go.Proofs.YtfgiomidlfoonaaDoor
end
section
namespace Go.Proofs.YtfgiomidlfoonaaDoor
open Go.RowKit

section
variable {P : Program} {ops : Array Oper} {Q : Exit → Act → World → Prop} {md : Region.Mode} {S : World → Prop} {n : Nat}
/-- Whatever order is picked, S holds behind each operation but those from n on. -/
def anyE (P : Program) (md : Region.Mode) (ops : Array Oper) (Q : Exit → Act → World → Prop) (S : World → Prop) (n : Nat) : Nat → Array Bool → Act → World → Prop
  | 0, listed, a, w => Region.ready md ops listed = [] ∧ Q .normal a w
  | f + 1, listed, a, w => (Region.ready md ops listed = [] → Q .normal a w) ∧
    ∀ i ∈ Region.ready md ops listed, wpOp P ops Q i (fun a' w' => (i < n → S w') ∧ anyE P md ops Q S n f (listed.setIfInBounds i true) a' w') a w
theorem any_of_E : ∀ (f : Nat) (listed : Array Bool) (a : Act) (w : World), anyE P md ops Q S n f listed a w → wpAny P md ops Q f listed a w
  | 0, _, _, _, h => h
  | f + 1, _, _, _, h => ⟨h.1, fun i hi => wpOp_mono (fun a' w' h' => any_of_E f _ a' w' h'.2) (h.2 i hi)⟩
theorem anyE_first {i : Nat} {oi : Oper} {v : Value} (hi : ops[i]? = some oi) (hsel : ∀ (j : Nat) (o : Oper) cs b, ops[j]? = some o → o.op ≠ .select cs b) (hQ : ∀ c a w, Q (.panic c) (a.put oi.dst v) w → Q (.panic c) a w)
    (hs : Region.sinkB md ops n = true) (hc : Region.chainB md ops n = true) (hn : n < ops.size) (hin : i < n) :
    ∀ (f : Nat) (listed : Array Bool) (a : Act) (w : World), HeadInv md ops n listed →
      (∀ j oj, ops[j]? = some oj → j ≠ i → listed.getD j true = false → (∀ e ∈ oj.after, Region.binds md e = true → e.on ≠ i) → oi.apart ops oj = true) →
      i ∈ Region.ready md ops listed → YieldsIf P ops S oi v a → S w →
      anyE P md ops Q S n f (listed.setIfInBounds i true) (a.put oi.dst v) w → anyE P md ops Q S n (f + 1) listed a w := by
  intro f
  induction f with
  | zero =>
    intro listed a w _ _ hr hy hS H
    refine ⟨fun h => (by rw [h] at hr; cases hr), fun j hj => ?_⟩
    by_cases hji : j = i
    · subst hji; exact hy.wpOp hi hS ⟨fun _ => hS, H⟩
    · have h1 := ready_mono (i := i) hj hji
      rw [H.1] at h1
      cases h1
  | succ f ih =>
    intro listed a w inv hfree hr hy hS H
    have hun := (mem_ready.1 hr).1
    refine ⟨fun h => (by rw [h] at hr; cases hr), fun j hj => ?_⟩
    have hjn : j < n := Nat.lt_of_not_le fun h => tail_waits hs hc hn inv _ i rfl hin hun j h hj
    by_cases hji : j = i
    · subst hji; exact hy.wpOp hi hS ⟨fun _ => hS, H⟩
    · obtain ⟨hjun, oj, hoj, hall⟩ := mem_ready.1 hj
      have hnot : ∀ e ∈ oj.after, Region.binds md e = true → e.on ≠ i := fun e he hb heq => by
        have h1 := hall e he hb
        rw [heq, getD_both hun] at h1
        cases h1
      have hap := hfree j oj hoj hji hjun hnot
      have h2 := wpOp_putIf hoj hap (fun cs b => hsel i oi cs b hi) (fun cs b => hsel j oj cs b hoj) hQ hy (H.2 j (ready_mono hj hji))
      refine wpOp_mono (fun a' w' h3 => ⟨h3.2.1, ?_⟩) h2
      refine ih (listed.setIfInBounds j true) a' w' (inv.set hj hjn) (fun k ok hk hki hku hno => hfree k ok hk hki ?_ hno) (ready_mono hr (Ne.symm hji)) h3.1 (h3.2.1 hjn) ?_
      · by_cases hjk : j = k
        · subst hjk; exact hjun
        · rw [getD_set_ne true hjk] at hku; exact hku
      · rw [Array.setIfInBounds_comm _ _ hji]
        exact h3.2.2
/-- These operations, one by one, each of which yields wherever S holds. -/
def takesE (P : Program) (ops : Array Oper) (S : World → Prop) (K : Act → Prop) : List Oper → Act → Prop
  | [], a => K a
  | o :: rest, a => ∃ v, YieldsIf P ops S o v a ∧ takesE P ops S K rest (a.put o.dst v)
/-- One operation. -/
def opE (P : Program) (ops : Array Oper) (Q : Exit → Act → World → Prop) (o : Oper) (K : Act → World → Prop) (a : Act) (w : World) : Prop :=
  if Region.wanted o (yielded ops a.tmps) then o.wp P a w K Q ∨ (o.asks P a w ∧ LetsOut Q) else K (a.put o.dst undef) w
/-- The rest, one by one; S holds behind each but the last. -/
def listE (P : Program) (ops : Array Oper) (Q : Exit → Act → World → Prop) (S : World → Prop) : List Oper → Act → World → Prop
  | [], a, w => Q .normal a w
  | o :: rest, a, w => opE P ops Q o (fun a' w' => (rest ≠ [] → S w') ∧ listE P ops Q S rest a' w') a w
theorem wpOp_of_opE {i : Nat} {o : Oper} {K : Act → World → Prop} {a : Act} {w : World} (hi : ops[i]? = some o) (h : opE P ops Q o K a w) : wpOp P ops Q i K a w := by
  unfold opE at h
  unfold wpOp
  simp only [hi]
  split at h
  · rename_i hw; simp only [hw, if_true]; exact h
  · rename_i hw; simp only [hw]; exact h
theorem anyE_of_list : ∀ (l : List Oper) (k : Nat) (listed : Array Bool) (a : Act) (w : World), (∀ j, l[j]? = ops[k + j]?) → (l = [] ∨ k + l.length = n + 1) →
    Region.seqB md ops l.length k listed = true → listE P ops Q S l a w → anyE P md ops Q S n l.length listed a w
  | [], k, listed, a, w, _, _, hB, h => ⟨by simpa [Region.seqB] using hB, h⟩
  | o :: l, k, listed, a, w, hl, hk, hB, h => by
    have h0 : ops[k]? = some o := by simpa using (hl 0).symm
    have hk' : k + (l.length + 1) = n + 1 := by
      rcases hk with h | h
      · cases h
      · simpa using h
    simp only [List.length_cons, Region.seqB, Bool.and_eq_true, decide_eq_true_eq] at hB
    refine ⟨fun h1 => (by rw [hB.1] at h1; cases h1), fun i hi => ?_⟩
    rw [hB.1] at hi
    obtain rfl : i = k := by simpa using hi
    refine wpOp_mono (fun a' w' h' => ⟨fun hin => h'.1 (by intro e; subst e; simp at hk'; omega), ?_⟩) (wpOp_of_opE h0 h)
    refine anyE_of_list l (i + 1) _ a' w' (fun j => by have := hl (j + 1); simpa [Nat.add_assoc, Nat.add_comm 1 j] using this) ?_ hB.2 h'.2
    by_cases he : l = []
    · exact .inl he
    · exact .inr (by omega)
theorem anyE_of_takes {g k0 : Nat} (hsel : ∀ (j : Nat) (o : Oper) cs b, ops[j]? = some o → o.op ≠ .select cs b) (hQ : ∀ c a d v w, Q (.panic c) (Act.put a d v) w → Q (.panic c) a w)
    (hs : Region.sinkB md ops n = true) (hc : Region.chainB md ops n = true) (hn : n < ops.size) (hkn : k0 ≤ n) {w : World} (hS : S w) {K : Act → Prop}
    (hK : ∀ listed a, Region.seqB md ops g k0 listed = true → K a → anyE P md ops Q S n g listed a w) :
    ∀ (l : List Oper) (k : Nat) (listed : Array Bool) (a : Act), (∀ j, j < l.length → l[j]? = ops[k + j]?) → k + l.length = k0 → HeadInv md ops n listed → Region.lexHead md ops g l.length k listed = true →
    takesE P ops S K l a → anyE P md ops Q S n (l.length + g) listed a w
  | [], k, listed, a, _, hk, _, hB, h => by
    obtain rfl : k = k0 := by simpa using hk
    rw [List.length_nil, Nat.zero_add]
    exact hK listed a (by simpa [Region.lexHead] using hB) h
  | o :: l, k, listed, a, hl, hk, inv, hB, h => by
    have h0 : ops[k]? = some o := by simpa using (hl 0 (by simp)).symm
    simp only [List.length_cons, Region.lexHead, Bool.and_eq_true] at hB
    obtain ⟨⟨hr, hf⟩, hB'⟩ := hB
    have hkn' : k < n := by simp only [List.length_cons] at hk; omega
    have hr' : k ∈ Region.ready md ops listed := by simpa using hr
    obtain ⟨v, hy, hT⟩ := h
    have ih := anyE_of_takes hsel hQ hs hc hn hkn hS hK l (k + 1) (listed.setIfInBounds k true) (a.put o.dst v) (fun j hj => by have := hl (j + 1) (by simp; omega); simpa [Nat.add_assoc, Nat.add_comm 1 j] using this)
      (by simp only [List.length_cons] at hk; omega) (inv.set hr' hkn') hB' hT
    rw [List.length_cons, show l.length + 1 + g = (l.length + g) + 1 by omega]
    exact anyE_first h0 hsel (fun c a w h => hQ c a _ _ w h) hs hc hn hkn' _ listed a w inv (Region.free_spec h0 hf) hr' hy hS ih
def takeB (md : Region.Mode) (ops : Array Oper) (k : Nat) : Bool :=
  Region.noSelect ops && decide (k < ops.size) && Region.sinkB md ops (ops.size - 1) && Region.chainB md ops (ops.size - 1) && Region.lexHead md ops (ops.size - k) k 0 (Array.replicate ops.size false)
theorem region_take {id : Nat} {a : Act} {w : World} {l : List Oper} (k : Nat) (S : World → Prop) (hm : P.follows .mixedOrders = true) (hB : takeB .any l.toArray k = true) (hQ : ∀ c a d v w, Q (.panic c) (Act.put a d v) w → Q (.panic c) a w)
    (hS : S w.drew) (h : takesE P l.toArray S (fun a' => listE P l.toArray Q S (l.drop k) a' w.drew) (l.take k) a) : (Code.region id l.toArray true).wp P Q a w := by
  simp only [takeB, Bool.and_eq_true, decide_eq_true_eq] at hB
  obtain ⟨⟨⟨⟨hsel, hk⟩, hs⟩, hc⟩, hlex⟩ := hB
  have hk' : k < l.length := by simpa using hk
  have hsz : l.toArray.size = l.length := by simp
  have htl : (l.take k).length = k := by simp; omega
  have hdl : (l.drop k).length = l.toArray.size - k := by simp
  have inv0 : HeadInv .any l.toArray (l.toArray.size - 1) (Array.replicate l.toArray.size false) :=
    ⟨by simp, fun j oj _ hl => (by rw [getD_replicate_false] at hl; cases hl), fun t _ ht => getD_in (by simpa using ht) (getD_replicate_false _ _)⟩
  refine wp_region_any hm (any_of_E (S := S) (n := l.toArray.size - 1) _ _ _ _ ?_)
  have := anyE_of_takes (md := .any) (P := P) (Q := Q) (S := S) (n := l.toArray.size - 1) (g := l.toArray.size - k) (k0 := k) (Region.noSelect_spec hsel) hQ hs hc (by omega) (by omega) (w := w.drew) hS
    (K := fun a' => listE P l.toArray Q S (l.drop k) a' w.drew) (fun listed a' hseq hK => by
      have := anyE_of_list (md := .any) (P := P) (Q := Q) (S := S) (n := l.toArray.size - 1) (l.drop k) k listed a' w.drew (fun j => by simp [List.getElem?_drop]) (.inr (by rw [hdl]; omega)) (by rw [hdl]; exact hseq) hK
      rwa [hdl] at this) (l.take k) 0 _ a (fun j hj => by
      have hj' : j < k := by rw [htl] at hj; exact hj
      simp [hj']) (by simpa using htl) inv0 (by rw [htl]; exact hlex) h
  rw [htl, show k + (l.toArray.size - k) = l.toArray.size by omega] at this
  exact this
/-! The moves. -/
theorem take_of {o : Oper} {rest : List Oper} {K : Act → Prop} {a : Act} {v : Value} (hw : Region.wanted o (yielded ops a.tmps) = true) (hv : ∀ w, S w → (execOp a.eval o).run P w = .ok (.value v) w) (h : takesE P ops S K rest (a.put o.dst v)) : takesE P ops S K (o :: rest) a :=
  ⟨v, .inl ⟨hw, hv⟩, h⟩
theorem take_mid {op : Oper} {rest : List Oper} {K : Act → Prop} {a : Act} (hw : Region.wanted op (yielded ops a.tmps) = true) (ty : TypeId) (x : Operand) (ho : op.op = .load ty x) (b o : Nat) (hx : a.eval x = .pointer (some ⟨b, o, none⟩)) (cs : List Value) (d : TypeDesc)
    (hS : ∀ w, S w → w.rangeAt b o cs) (hu : P.underlying ty = some d) (hd : d.isRow = true) (hi : (P.info? ty).map (·.size) = some cs.length) (h : takesE P ops S K rest (a.put op.dst (.agg cs.toArray))) : takesE P ops S K (op :: rest) a :=
  ⟨_, yieldsIf_load_mid hw ty x ho b o hx cs d hS hu hd hi, h⟩
/-- The last operation. -/
theorem listE_last {o : Oper} {a : Act} {w : World} (h : wpList P ops Q [o] a w) : listE P ops Q S [o] a w := by
  unfold listE opE
  have h' : (if Region.wanted o (yielded ops a.tmps) then o.wp P a w (wpList P ops Q []) Q ∨ (o.asks P a w ∧ LetsOut Q) else wpList P ops Q [] (a.put o.dst undef) w) := h
  split at h'
  · rename_i hw; rw [if_pos hw]; exact h'.imp (Oper.wp_mono fun a w h => ⟨fun e => absurd rfl e, h⟩) id
  · rename_i hw; rw [if_neg hw]; exact ⟨fun e => absurd rfl e, h'⟩
/-- An operation ahead of the last. -/
theorem listE_step {o o2 : Oper} {rest : List Oper} {a : Act} {w : World} (h : ∀ K : Act → World → Prop, (∀ a' w', S w' → listE P ops Q S (o2 :: rest) a' w' → K a' w') → if Region.wanted o (yielded ops a.tmps) = true then o.wp P a w K Q else K (a.put o.dst undef) w) : listE P ops Q S (o :: o2 :: rest) a w := by
  have h' := h (fun a' w' => (o2 :: rest ≠ [] → S w') ∧ listE P ops Q S (o2 :: rest) a' w') fun a' w' h1 h2 => ⟨fun _ => h1, h2⟩
  rw [listE, opE]
  split at h'
  · rename_i hw; rw [if_pos hw]; exact .inl h'
  · rename_i hw; rw [if_neg hw]; exact h'
end
end Go.Proofs.YtfgiomidlfoonaaDoor
end
section
namespace Go.Proofs.YtfgiomidlfoonaaDoor
open Go.RowKit

/-- The operations behind which S holds: those below n, but ex. -/
def hd (n : Nat) (ex : List Nat) (i : Nat) : Bool := decide (i < n) && !ex.contains i
section
variable {P : Program} {ops : Array Oper} {Q : Exit → Act → World → Prop} {md : Region.Mode} {S : World → Prop} {n : Nat} {ex : List Nat}
/-- Whatever order is picked, S holds behind each operation of the head. -/
def anyH (P : Program) (md : Region.Mode) (ops : Array Oper) (Q : Exit → Act → World → Prop) (S : World → Prop) (n : Nat) (ex : List Nat) : Nat → Array Bool → Act → World → Prop
  | 0, listed, a, w => Region.ready md ops listed = [] ∧ Q .normal a w
  | f + 1, listed, a, w => (Region.ready md ops listed = [] → Q .normal a w) ∧
    ∀ i ∈ Region.ready md ops listed, wpOp P ops Q i (fun a' w' => (hd n ex i = true → S w') ∧ anyH P md ops Q S n ex f (listed.setIfInBounds i true) a' w') a w
theorem any_of_H : ∀ (f : Nat) (listed : Array Bool) (a : Act) (w : World), anyH P md ops Q S n ex f listed a w → wpAny P md ops Q f listed a w
  | 0, _, _, _, h => h
  | f + 1, _, _, _, h => ⟨h.1, fun i hi => wpOp_mono (fun a' w' h' => any_of_H f _ a' w' h'.2) (h.2 i hi)⟩
/-- What is done is done with all that it waited for. -/
structure OInv (md : Region.Mode) (ops : Array Oper) (listed : Array Bool) : Prop where
  size : listed.size = ops.size
  closed : ∀ j oj, ops[j]? = some oj → listed.getD j false = true → ∀ e ∈ oj.after, Region.binds md e = true → listed.getD e.on false = true
theorem OInv.set {i : Nat} {listed : Array Bool} (inv : OInv md ops listed) (hi : i ∈ Region.ready md ops listed) : OInv md ops (listed.setIfInBounds i true) := by
  obtain ⟨_, oi, hoi, hall⟩ := mem_ready.1 hi
  refine ⟨by simp [inv.size], fun j oj hj hl e he hb => ?_⟩
  by_cases hij : i = j
  · subst hij
    have : oj = oi := Option.some.inj (hj.symm.trans hoi)
    subst this
    exact getD_set_true (hall e he hb)
  · rw [getD_set_ne false hij] at hl
    exact getD_set_true (inv.closed j oj hj hl e he hb)
/-- j waits for i, at once or through others. -/
def behind (md : Region.Mode) (ops : Array Oper) (i : Nat) : Nat → Nat → Bool
  | 0, _ => false
  | f + 1, j => match ops[j]? with
    | some o => o.after.any (fun e => Region.binds md e && e.on == i) || o.after.any (fun e => Region.binds md e && behind md ops i f e.on)
    | none => false
theorem behind_done {i : Nat} {listed : Array Bool} (inv : OInv md ops listed) (hun : listed.getD i true = false) : ∀ (f j : Nat) (oj : Oper), ops[j]? = some oj → (∀ e ∈ oj.after, Region.binds md e = true → listed.getD e.on false = true) → behind md ops i f j = true → False
  | 0, _, _, _, _, h => by cases h
  | f + 1, j, oj, hj, hall, h => by
    unfold behind at h
    simp only [hj, Bool.or_eq_true] at h
    rcases h with h | h
    · obtain ⟨e, he, hb⟩ := Array.any_eq_true'.1 h
      simp only [Bool.and_eq_true, beq_iff_eq] at hb
      have h2 := hall e he hb.1
      rw [hb.2, getD_both hun] at h2
      cases h2
    · obtain ⟨e, he, hb⟩ := Array.any_eq_true'.1 h
      simp only [Bool.and_eq_true] at hb
      have h2 := hall e he hb.1
      rcases ho : ops[e.on]? with _ | oe
      · have h3 := hb.2
        cases f with
        | zero => cases h3
        | succ f => unfold behind at h3; simp [ho] at h3
      · exact behind_done inv hun f e.on oe ho (inv.closed e.on oe ho h2) hb.2
theorem anyH_first {i : Nat} {oi : Oper} {v : Value} (hi : ops[i]? = some oi) (hsel : ∀ (j : Nat) (o : Oper) cs b, ops[j]? = some o → o.op ≠ .select cs b) (hQ : ∀ c a w, Q (.panic c) (a.put oi.dst v) w → Q (.panic c) a w) {g : Nat} :
    ∀ (f : Nat) (listed : Array Bool) (a : Act) (w : World), OInv md ops listed → (∀ j, hd n ex j = false → listed.getD j true = false → behind md ops i g j = true) →
      (∀ j oj, ops[j]? = some oj → j ≠ i → listed.getD j true = false → (∀ e ∈ oj.after, Region.binds md e = true → e.on ≠ i) → oi.apart ops oj = true) →
      i ∈ Region.ready md ops listed → YieldsIf P ops S oi v a → S w →
      anyH P md ops Q S n ex f (listed.setIfInBounds i true) (a.put oi.dst v) w → anyH P md ops Q S n ex (f + 1) listed a w := by
  intro f
  induction f with
  | zero =>
    intro listed a w _ _ _ hr hy hS H
    refine ⟨fun h => (by rw [h] at hr; cases hr), fun j hj => ?_⟩
    by_cases hji : j = i
    · subst hji; exact hy.wpOp hi hS ⟨fun _ => hS, H⟩
    · have h1 := ready_mono (i := i) hj hji
      rw [H.1] at h1
      cases h1
  | succ f ih =>
    intro listed a w inv hW hfree hr hy hS H
    have hun := (mem_ready.1 hr).1
    refine ⟨fun h => (by rw [h] at hr; cases hr), fun j hj => ?_⟩
    obtain ⟨hjun, oj, hoj, hall⟩ := mem_ready.1 hj
    have hjn : hd n ex j = true := by
      cases hh : hd n ex j with
      | true => rfl
      | false => exact (behind_done inv hun g j oj hoj hall (hW j hh hjun)).elim
    by_cases hji : j = i
    · subst hji; exact hy.wpOp hi hS ⟨fun _ => hS, H⟩
    · have hnot : ∀ e ∈ oj.after, Region.binds md e = true → e.on ≠ i := fun e he hb heq => by
        have h1 := hall e he hb
        rw [heq, getD_both hun] at h1
        cases h1
      have hap := hfree j oj hoj hji hjun hnot
      have h2 := wpOp_putIf hoj hap (fun cs b => hsel i oi cs b hi) (fun cs b => hsel j oj cs b hoj) hQ hy (H.2 j (ready_mono hj hji))
      have hkeep : ∀ k, (listed.setIfInBounds j true).getD k true = false → listed.getD k true = false := fun k hku => by
        by_cases hjk : j = k
        · subst hjk; exact hjun
        · rwa [getD_set_ne true hjk] at hku
      refine wpOp_mono (fun a' w' h3 => ⟨h3.2.1, ?_⟩) h2
      refine ih (listed.setIfInBounds j true) a' w' (inv.set hj) (fun k hk hku => hW k hk (hkeep k hku)) (fun k ok hk hki hku hno => hfree k ok hk hki (hkeep k hku) hno) (ready_mono hr (Ne.symm hji)) h3.1 (h3.2.1 hjn) ?_
      · rw [Array.setIfInBounds_comm _ _ hji]
        exact h3.2.2
/-- What needs nothing of the memory, first. -/
theorem anyH_free {i : Nat} {oi : Oper} {v : Value} (hi : ops[i]? = some oi) (hsel : ∀ (j : Nat) (o : Oper) cs b, ops[j]? = some o → o.op ≠ .select cs b) (hQ : ∀ c a w, Q (.panic c) (a.put oi.dst v) w → Q (.panic c) a w) (hh : hd n ex i = false) :
    ∀ (f : Nat) (listed : Array Bool) (a : Act) (w : World),
      (∀ j oj, ops[j]? = some oj → j ≠ i → listed.getD j true = false → (∀ e ∈ oj.after, Region.binds md e = true → e.on ≠ i) → oi.apart ops oj = true) →
      i ∈ Region.ready md ops listed → YieldsIf P ops (fun _ => True) oi v a →
      anyH P md ops Q S n ex f (listed.setIfInBounds i true) (a.put oi.dst v) w → anyH P md ops Q S n ex (f + 1) listed a w := by
  intro f
  induction f with
  | zero =>
    intro listed a w _ hr hy H
    refine ⟨fun h => (by rw [h] at hr; cases hr), fun j hj => ?_⟩
    by_cases hji : j = i
    · subst hji; exact hy.wpOp hi trivial ⟨fun h => (by rw [hh] at h; cases h), H⟩
    · have h1 := ready_mono (i := i) hj hji
      rw [H.1] at h1
      cases h1
  | succ f ih =>
    intro listed a w hfree hr hy H
    have hun := (mem_ready.1 hr).1
    refine ⟨fun h => (by rw [h] at hr; cases hr), fun j hj => ?_⟩
    obtain ⟨hjun, oj, hoj, hall⟩ := mem_ready.1 hj
    by_cases hji : j = i
    · subst hji; exact hy.wpOp hi trivial ⟨fun h => (by rw [hh] at h; cases h), H⟩
    · have hnot : ∀ e ∈ oj.after, Region.binds md e = true → e.on ≠ i := fun e he hb heq => by
        have h1 := hall e he hb
        rw [heq, getD_both hun] at h1
        cases h1
      have hap := hfree j oj hoj hji hjun hnot
      have h2 := wpOp_putIf hoj hap (fun cs b => hsel i oi cs b hi) (fun cs b => hsel j oj cs b hoj) hQ hy (H.2 j (ready_mono hj hji))
      refine wpOp_mono (fun a' w' h3 => ⟨h3.2.1, ?_⟩) h2
      refine ih (listed.setIfInBounds j true) a' w' (fun k ok hk hki hku hno => hfree k ok hk hki ?_ hno) (ready_mono hr (Ne.symm hji)) h3.1 ?_
      · by_cases hjk : j = k
        · subst hjk; exact hjun
        · rwa [getD_set_ne true hjk] at hku
      · rw [Array.setIfInBounds_comm _ _ hji]
        exact h3.2.2
/-- What is fixed of a region. -/
structure Reg (ops : Array Oper) (Q : Exit → Act → World → Prop) : Prop where
  sel : ∀ (j : Nat) (o : Oper) cs b, ops[j]? = some o → o.op ≠ .select cs b
  panic : ∀ c (a : Act) d v w, Q (.panic c) (a.put d v) w → Q (.panic c) a w
def anyI (P : Program) (ops : Array Oper) (Q : Exit → Act → World → Prop) (S : World → Prop) (n : Nat) (ex : List Nat) (f : Nat) (listed : Array Bool) (a : Act) (w : World) : Prop := OInv .any ops listed → anyH P .any ops Q S n ex f listed a w
theorem region_ord {id : Nat} {a : Act} {w : World} {l : List Oper} (n : Nat) (ex : List Nat) (S : World → Prop) (hm : P.follows .mixedOrders = true) (hB : Region.noSelect l.toArray = true)
    (hQ : ∀ c (a : Act) d v w, Q (.panic c) (a.put d v) w → Q (.panic c) a w) (h : Reg l.toArray Q → anyI P l.toArray Q S n ex l.toArray.size (Array.replicate l.toArray.size false) a w.drew) : (Code.region id l.toArray true).wp P Q a w :=
  wp_region_any hm (any_of_H _ _ _ _ (h ⟨Region.noSelect_spec hB, hQ⟩ ⟨by simp, fun j oj _ hl => (by rw [getD_replicate_false] at hl; cases hl)⟩))
def waitB (ops : Array Oper) (n : Nat) (ex : List Nat) (listed : Array Bool) (i : Nat) : Bool := (List.range ops.size).all fun j => hd n ex j || listed.getD j true || behind .any ops i ops.size j
theorem anyI_take (R : Reg ops Q) (i : Nat) {oi : Oper} {v : Value} {f : Nat} {listed : Array Bool} {a : Act} {w : World} (hi : ops[i]? = some oi) (hB : ((Region.ready .any ops listed).contains i && Region.free .any ops listed i && waitB ops n ex listed i) = true)
    (hw : Region.wanted oi (yielded ops a.tmps) = true) (hv : ∀ w, S w → (execOp a.eval oi).run P w = .ok (.value v) w) (hS : S w) (h : anyI P ops Q S n ex f (listed.setIfInBounds i true) (a.put oi.dst v) w) : anyI P ops Q S n ex (f + 1) listed a w := fun inv => by
  simp only [Bool.and_eq_true] at hB
  obtain ⟨⟨hr, hf⟩, hW⟩ := hB
  have hr' : i ∈ Region.ready .any ops listed := by simpa using hr
  refine anyH_first (g := ops.size) hi R.sel (fun c a w h => R.panic c a _ _ w h) f listed a w inv (fun j hj hun => ?_) (Region.free_spec hi hf) hr' (.inl ⟨hw, hv⟩) hS (h (inv.set hr'))
  rcases Nat.lt_or_ge j ops.size with hlt | hge
  · have h1 := List.all_eq_true.1 hW j (List.mem_range.2 hlt)
    simpa [hj, hun] using h1
  · rw [← inv.size] at hge
    simp [Array.getElem?_eq_none hge] at hun
theorem anyI_free (R : Reg ops Q) (i : Nat) {oi : Oper} {v : Value} {f : Nat} {listed : Array Bool} {a : Act} {w : World} (hi : ops[i]? = some oi) (hB : ((Region.ready .any ops listed).contains i && Region.free .any ops listed i && !hd n ex i) = true)
    (hw : Region.wanted oi (yielded ops a.tmps) = true) (hv : ∀ w, (execOp a.eval oi).run P w = .ok (.value v) w) (h : anyI P ops Q S n ex f (listed.setIfInBounds i true) (a.put oi.dst v) w) : anyI P ops Q S n ex (f + 1) listed a w := fun inv => by
  simp only [Bool.and_eq_true, Bool.not_eq_true'] at hB
  obtain ⟨⟨hr, hf⟩, hn⟩ := hB
  have hr' : i ∈ Region.ready .any ops listed := by simpa using hr
  exact anyH_free hi R.sel (fun c a w h => R.panic c a _ _ w h) hn f listed a w (Region.free_spec hi hf) hr' (.inl ⟨hw, fun w _ => hv w⟩) (h (inv.set hr'))
theorem anyI_two (i j : Nat) {oi oj : Oper} {f : Nat} {listed : Array Bool} {a : Act} {w : World} (hrs : Region.ready .any ops listed = [i, j]) (hi : ops[i]? = some oi) (hj : ops[j]? = some oj)
    (h1 : opE P ops Q oi (fun a' w' => S w' ∧ anyI P ops Q S n ex f (listed.setIfInBounds i true) a' w') a w) (h2 : opE P ops Q oj (fun a' w' => S w' ∧ anyI P ops Q S n ex f (listed.setIfInBounds j true) a' w') a w) : anyI P ops Q S n ex (f + 1) listed a w := fun inv => by
  refine ⟨fun h => (by rw [hrs] at h; cases h), fun t ht => ?_⟩
  have ht' := ht
  rw [hrs] at ht
  rcases List.mem_cons.1 ht with rfl | ht
  · exact wpOp_mono (fun a' w' h => ⟨fun _ => h.1, h.2 (inv.set ht')⟩) (wpOp_of_opE hi h1)
  · obtain rfl := List.mem_singleton.1 ht
    exact wpOp_mono (fun a' w' h => ⟨fun _ => h.1, h.2 (inv.set ht')⟩) (wpOp_of_opE hj h2)
theorem anyI_one (i : Nat) {oi : Oper} {f : Nat} {listed : Array Bool} {a : Act} {w : World} (hrs : Region.ready .any ops listed = [i]) (hi : ops[i]? = some oi)
    (h1 : opE P ops Q oi (fun a' w' => S w' ∧ anyI P ops Q S n ex f (listed.setIfInBounds i true) a' w') a w) : anyI P ops Q S n ex (f + 1) listed a w := fun inv => by
  refine ⟨fun h => (by rw [hrs] at h; cases h), fun t ht => ?_⟩
  have ht' := ht
  rw [hrs] at ht
  obtain rfl := List.mem_singleton.1 ht
  exact wpOp_mono (fun a' w' h => ⟨fun _ => h.1, h.2 (inv.set ht')⟩) (wpOp_of_opE hi h1)
theorem anyH_of_seq : ∀ (l : List Oper) (k : Nat) (listed : Array Bool) (a : Act) (w : World), n ≤ k → (∀ j, l[j]? = ops[k + j]?) → Region.seqB .any ops l.length k listed = true → wpList P ops Q l a w → anyH P .any ops Q S n ex l.length listed a w
  | [], k, listed, a, w, _, _, hB, h => ⟨by simpa [Region.seqB] using hB, h⟩
  | o :: l, k, listed, a, w, hk, hl, hB, h => by
    have h0 : ops[k]? = some o := by simpa using (hl 0).symm
    simp only [List.length_cons, Region.seqB, Bool.and_eq_true, decide_eq_true_eq] at hB
    refine ⟨fun h1 => (by rw [hB.1] at h1; cases h1), fun i hi => ?_⟩
    rw [hB.1] at hi
    have hik : i = k := by simpa using hi
    subst hik
    have hw : wpOp P ops Q i (wpList P ops Q l) a w := by unfold wpOp; simp only [h0]; exact h
    exact wpOp_mono (fun a' w' h' => ⟨fun h => (by simp [hd] at h; omega), anyH_of_seq l (i + 1) _ a' w' (by omega) (fun j => by have := hl (j + 1); simpa [Nat.add_assoc, Nat.add_comm 1 j] using this) hB.2 h'⟩) hw
theorem anyI_tail {l : List Oper} {f : Nat} {listed : Array Bool} {a : Act} {w : World} (hB : (decide (f = l.length - n) && Region.seqB .any l.toArray (l.length - n) n listed) = true) (h : wpList P l.toArray Q (l.drop n) a w) : anyI P l.toArray Q S n ex f listed a w := fun _ => by
  simp only [Bool.and_eq_true, decide_eq_true_eq] at hB
  obtain ⟨rfl, hB⟩ := hB
  have hdl : (l.drop n).length = l.length - n := by simp
  have := anyH_of_seq (P := P) (Q := Q) (S := S) (n := n) (ex := ex) (l.drop n) n listed a w (Nat.le_refl _) (fun j => by simp [List.getElem?_drop]) (by rw [hdl]; exact hB) h
  rwa [hdl] at this
theorem opE_step {o : Oper} {K : Act → World → Prop} {a : Act} {w : World} (h : if Region.wanted o (yielded ops a.tmps) = true then o.wp P a w K Q else K (a.put o.dst undef) w) : opE P ops Q o K a w := by
  unfold opE
  split at h
  · rename_i hw; rw [if_pos hw]; exact .inl h
  · rename_i hw; rw [if_neg hw]; exact h
end
end Go.Proofs.YtfgiomidlfoonaaDoor
end
section
namespace Go.Proofs.YtfgiomidlfoonaaDoor
open Go.RowKit

section
variable {P : Program} {ops : Array Oper} {Q : Exit → Act → World → Prop} {S : World → Prop} {n : Nat} {ex : List Nat}
theorem anyI_skip (R : Reg ops Q) (i : Nat) {oi : Oper} {f : Nat} {listed : Array Bool} {a : Act} {w : World} (hi : ops[i]? = some oi) (hB : ((Region.ready .any ops listed).contains i && Region.free .any ops listed i && waitB ops n ex listed i) = true)
    (hw : Region.wanted oi (yielded ops a.tmps) = false) (hS : S w) (h : anyI P ops Q S n ex f (listed.setIfInBounds i true) (a.put oi.dst undef) w) : anyI P ops Q S n ex (f + 1) listed a w := fun inv => by
  simp only [Bool.and_eq_true] at hB
  obtain ⟨⟨hr, hf⟩, hW⟩ := hB
  have hr' : i ∈ Region.ready .any ops listed := by simpa using hr
  refine anyH_first (g := ops.size) hi R.sel (fun c a w h => R.panic c a _ _ w h) f listed a w inv (fun j hj hun => ?_) (Region.free_spec hi hf) hr' (.inr ⟨hw, rfl⟩) hS (h (inv.set hr'))
  rcases Nat.lt_or_ge j ops.size with hlt | hge
  · have h1 := List.all_eq_true.1 hW j (List.mem_range.2 hlt)
    simpa [hj, hun] using h1
  · rw [← inv.size] at hge
    simp [Array.getElem?_eq_none hge] at hun
end
end Go.Proofs.YtfgiomidlfoonaaDoor
end
