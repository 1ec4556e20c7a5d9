/- The document's CheckRecord. -/
import Derived.Test.YtoomdgidpplpfaaDoorRefRec
set_option maxRecDepth 8000
set_option linter.unusedVariables false
set_option linter.unusedSimpArgs false
namespace Go.Proofs.YtoomdgidpplpfaaDoor
open Go.RowKit

theorem recOk_all {s : Int} {l : List It} (h1 : 1 ≤ s) (h2 : s < 2147483648) (h3 : l.length ≤ 3) (h : fineN l l.length = true) : recOk s l = true := (recOk_iff s l).2 ⟨⟨h1, by omega, h3⟩, h⟩
theorem may_yes {y : It} (h1 : ¬ y.d < 0) (h2 : ¬ 8 ≤ y.d) (h3 : ¬ y.a < 36) (h4 : ¬ 52 ≤ y.a) (h5 : y.b.length = 32) : mayB y = true := (mayB_iff y).2 ⟨by omega, by omega, by omega, by omega, h5⟩
theorem may_nope {y : It} (h : y.d < 0 ∨ 8 ≤ y.d ∨ y.a < 36 ∨ 52 ≤ y.a ∨ y.b.length ≠ 32) : mayB y = false := by
  rw [← Bool.not_eq_true, mayB_iff]; intro h'; omega
theorem fine_next {l : List It} {j : Nat} (h : fineN l j = true) (h1 : mayB (itN l j) = true) (h2 : ∀ k, k < j → meetsB (itN l j) (itN l k) = false) : fineN l (j + 1) = true := by
  rw [fineN_iff] at h ⊢
  intro k hk
  by_cases e : k = j
  · subst e; exact ⟨h1, h2⟩
  · exact h k (by omega)
/-- What stays while one Item is held against those ahead of it. -/
def CrS (w : World) (q : Nat) (x : It) (V : World) : Prop := V.cell? ⟨q, 0, none⟩ = some (.int .i64 x.d) ∧ V.cell? ⟨q, 1, none⟩ = some (.int .i64 x.a) ∧ Below w.heap.size w V
theorem CrS.later {w V V' : World} {q : Nat} {x : It} (h : CrS w q x V) (hb : Below V.heap.size V V') : CrS w q x V' := by
  have hq := World.block_lt_of_cell? _ _ h.1
  exact ⟨(hb.cell (p := ⟨q, 0, none⟩) hq).trans h.1, (hb.cell (p := ⟨q, 1, none⟩) hq).trans h.2.1, h.2.2.trans (hb.mono h.2.2.size)⟩
set_option maxHeartbeats 8000000 in
theorem refCheckRec_any (A : Option Addr) (n c : Nat) (s : Int) (l : List It) (w : World) (hn : l.length = n) (hnc : n ≤ c) (hs : (-9223372036854775808 ≤ s ∧ s ≤ 9223372036854775807)) (h : RdI w w.heap.size A l) :
    Calls Tryd.prog 23 #[.int .i64 s, .slice A n c] w fun e w' => e = .returned (.bool (recOk s l)) ∧ Below w.heap.size w w' := by
  subst hn
  have H := Lib.hid h
  clear h
  by_cases h1 : 1 ≤ s
  · by_cases h2 : s < 2147483648
    · by_cases h3 : l.length ≤ 3
      · have HE := Lib.hid (@recOk_all s l h1 h2 h3)
        have HA := Lib.hid (fun (j : Nat) (hj : j < l.length) (q : mayB (itN l j) = false) => recOk_at (s := s) j hj q)
        have HT := Lib.hid (fun (j k : Nat) (hj : j < l.length) (hk : k < j) (q : meetsB (itN l j) (itN l k) = true) => recOk_two (s := s) j k hj hk q)
        generalize recOk s l = res at HE HA HT
        have h3' : (l.length : Int) ≤ 3 := by omega
        go_enter Tryd.func23, Tryd.ntmps23
        go_wp2
        clear h3'
        go_loopw [22] (fun i wr => ∃ j : Nat, j ≤ l.length ∧ i = .int .i64 j ∧ fineN l j = true ∧ Below w.heap.size w wr) (fun i _ => l.length - (intOf i).toNat)
        case atStart => exact ⟨0, Nat.zero_le _, rfl, by simp [fineN], Below.refl _ _⟩
        case round =>
          obtain ⟨j, hj, rfl, hall, hbr⟩ := hrel
          have Hall := Lib.hid hall
          clear hall
          by_cases hlt : j < l.length
          · obtain ⟨g, rfl, hg, hc⟩ := H.out.2 (by omega)
            obtain ⟨D, cd, hrp, _⟩ := hc j hlt
            have HN := Lib.hid (HA.out j hlt)
            have HW := Lib.hid (fun k hk => HT.out j k hlt hk)
            have HF := Lib.hid (fun q1 q2 => fine_next (l := l) (j := j) Hall.out q1 q2)
            generalize itN l j = y at hrp HN HW HF
            have Hrp := Lib.hid (rangeAt_keep (w' := wr) hrp fun k => hbr.cell hg)
            have c' := fun i => cell_of_row _ _ i _ _ _ (heap_alloc_new wr (.cells #[.int .i64 y.d, .int .i64 y.a, .slice D y.b.length cd] 60))
            have S0 : Hid (CrS w wr.heap.size y (wr.alloc (.cells #[.int .i64 y.d, .int .i64 y.a, .slice D y.b.length cd] 60))) := Lib.hid ⟨c' 0, c' 1, hbr.alloc hbr.size _⟩
            have k0 : (0 : Int) ≤ (j : Int) := by omega
            have k1 : (j : Int) < (l.length : Int) := by omega
            have k2 : (j : Int) ≤ (c : Int) := by omega
            clear hrp c'
            by_cases t1 : y.d < 0
            · have R := Lib.hid (HN.out (may_nope (.inl t1)))
              go_wp2_with (
                ((with_reducible refine (id ?_ : wpList _ _ _ (⟨some 26, _, _, _, _, _⟩ :: _) _ _)); refine wpList_load_mid rfl 60 _ (by rfl) g (j * 3) (by rfl) [.int .i64 y.d, .int .i64 y.a, .slice D y.b.length cd] _ Hrp.out Tryd.underlying60 rfl (by kernel_rfl) ?_))
              go_ret
              exact ⟨by rw [R.out]; rfl, S0.out.2.2⟩
            · by_cases t2 : 8 ≤ y.d
              · have R := Lib.hid (HN.out (may_nope (.inr (.inl t2))))
                go_wp2_with (
                  ((with_reducible refine (id ?_ : wpList _ _ _ (⟨some 26, _, _, _, _, _⟩ :: _) _ _)); refine wpList_load_mid rfl 60 _ (by rfl) g (j * 3) (by rfl) [.int .i64 y.d, .int .i64 y.a, .slice D y.b.length cd] _ Hrp.out Tryd.underlying60 rfl (by kernel_rfl) ?_))
                go_ret
                exact ⟨by rw [R.out]; rfl, S0.out.2.2⟩
              · by_cases t3 : y.a < 36
                · have R := Lib.hid (HN.out (may_nope (.inr (.inr (.inl t3)))))
                  go_wp2_with (
                    ((with_reducible refine (id ?_ : wpList _ _ _ (⟨some 26, _, _, _, _, _⟩ :: _) _ _)); refine wpList_load_mid rfl 60 _ (by rfl) g (j * 3) (by rfl) [.int .i64 y.d, .int .i64 y.a, .slice D y.b.length cd] _ Hrp.out Tryd.underlying60 rfl (by kernel_rfl) ?_))
                  go_ret
                  exact ⟨by rw [R.out]; rfl, S0.out.2.2⟩
                · by_cases t4 : 52 ≤ y.a
                  · have R := Lib.hid (HN.out (may_nope (.inr (.inr (.inr (.inl t4))))))
                    go_wp2_with (
                      ((with_reducible refine (id ?_ : wpList _ _ _ (⟨some 26, _, _, _, _, _⟩ :: _) _ _)); refine wpList_load_mid rfl 60 _ (by rfl) g (j * 3) (by rfl) [.int .i64 y.d, .int .i64 y.a, .slice D y.b.length cd] _ Hrp.out Tryd.underlying60 rfl (by kernel_rfl) ?_))
                    go_ret
                    exact ⟨by rw [R.out]; rfl, S0.out.2.2⟩
                  · by_cases t5 : y.b.length = 32
                    · have HG := Lib.hid (HF.out (may_yes t1 t2 t3 t4 t5))
                      have t6 : ((y.b.length : Int) != 32) = false := by rw [t5]; rfl
                      clear t5
                      go_wp2_with (
                        ((with_reducible refine (id ?_ : wpList _ _ _ (⟨some 26, _, _, _, _, _⟩ :: _) _ _)); refine wpList_load_mid rfl 60 _ (by rfl) g (j * 3) (by rfl) [.int .i64 y.d, .int .i64 y.a, .slice D y.b.length cd] _ Hrp.out Tryd.underlying60 rfl (by kernel_rfl) ?_))
                      clear t1 t2 t3 t4 t6
                      obtain ⟨p, hp⟩ : ∃ p, wr.heap.size = p := ⟨_, rfl⟩
                      rw [hp] at S0
                      try rw [hp]
                      go_name_world w5 hw5
                      rw [hw5] at S0
                      clear hw5 hp
                      go_loopw [55] (fun i wi => ∃ k : Nat, k ≤ j ∧ i = .int .i64 k ∧ (∀ q, q < k → meetsB y (itN l q) = false) ∧ CrS w p y wi) (fun i _ => j - (intOf i).toNat)
                      case atStart => exact ⟨0, Nat.zero_le _, rfl, fun q hq => absurd hq (Nat.not_lt_zero _), S0.out⟩
                      case round =>
                        obtain ⟨k, hk, rfl, hno, hst⟩ := hrel
                        rename World => wi
                        have Hno := Lib.hid hno
                        have Hst := Lib.hid hst
                        clear hno hst
                        by_cases hkj : k < j
                        · obtain ⟨D2, cd2, hrp2, _⟩ := hc k (by omega)
                          have HK := Lib.hid (HW.out k hkj)
                          have HM := Lib.hid (fun (q : meetsB y (itN l k) = false) => show ∀ r, r < k + 1 → meetsB y (itN l r) = false from fun r hr => by
                            by_cases e : r = k
                            · subst e; exact q
                            · exact Hno.out r (by omega))
                          generalize itN l k = z at hrp2 HK HM
                          have Hrp2 := Lib.hid (rangeAt_keep (w' := wi) hrp2 fun k => Hst.out.2.2.cell hg)
                          have S1 := Lib.hid (Hst.out.later (below1 wi (.cells #[.int .i64 z.d, .int .i64 z.a, .slice D2 z.b.length cd2] 60)))
                          obtain ⟨q0, q1, _⟩ := S1.out
                          have i0 : (0 : Int) ≤ (k : Int) := by omega
                          have i1 : (k : Int) < (j : Int) := by omega
                          clear hrp2
                          cases e1 : (y.d == z.d)
                          · have e2 : meetsB y z = false := by rw [← Bool.not_eq_true, meetsB_iff]; intro h; rw [h.1] at e1; simp at e1
                            have R := Lib.hid (HM.out e2)
                            clear e2
                            go_wp2_with (
                              ((with_reducible refine (id ?_ : wpList _ _ _ (⟨some 58, _, _, _, _, _⟩ :: _) _ _)); refine wpList_load_mid rfl 60 _ (by rfl) g (k * 3) (by rfl) [.int .i64 z.d, .int .i64 z.a, .slice D2 z.b.length cd2] _ Hrp2.out Tryd.underlying60 rfl (by kernel_rfl) ?_))
                            go_roundw
                            case rel => exact ⟨k + 1, by omega, by go_num, R.out, S1.out⟩
                            case measure => simp [intOf]; omega
                          · cases e2 : (y.a == z.a)
                            · have e3 : meetsB y z = false := by rw [← Bool.not_eq_true, meetsB_iff]; intro h; rw [h.2] at e2; simp at e2
                              have R := Lib.hid (HM.out e3)
                              clear e3
                              go_wp2_with (
                                ((with_reducible refine (id ?_ : wpList _ _ _ (⟨some 58, _, _, _, _, _⟩ :: _) _ _)); refine wpList_load_mid rfl 60 _ (by rfl) g (k * 3) (by rfl) [.int .i64 z.d, .int .i64 z.a, .slice D2 z.b.length cd2] _ Hrp2.out Tryd.underlying60 rfl (by kernel_rfl) ?_))
                              go_roundw
                              case rel => exact ⟨k + 1, by omega, by go_num, R.out, S1.out⟩
                              case measure => simp [intOf]; omega
                            · have e3 : meetsB y z = true := (meetsB_iff y z).2 ⟨by simpa using e1, by simpa using e2⟩
                              have R := Lib.hid (HK.out e3)
                              clear e3
                              go_wp2_with (
                                ((with_reducible refine (id ?_ : wpList _ _ _ (⟨some 58, _, _, _, _, _⟩ :: _) _ _)); refine wpList_load_mid rfl 60 _ (by rfl) g (k * 3) (by rfl) [.int .i64 z.d, .int .i64 z.a, .slice D2 z.b.length cd2] _ Hrp2.out Tryd.underlying60 rfl (by kernel_rfl) ?_))
                              go_ret
                              exact ⟨by rw [R.out]; rfl, S1.out.2.2⟩
                        · obtain rfl : k = j := by omega
                          have R := Lib.hid (HG.out Hno.out)
                          go_wp2
                          go_roundw
                          case rel => exact ⟨k + 1, by omega, by go_num, R.out, Hst.out.2.2⟩
                          case measure => simp [intOf]; omega
                    · have R := Lib.hid (HN.out (may_nope (.inr (.inr (.inr (.inr t5))))))
                      have t6 : ((y.b.length : Int) != 32) = true := by rw [bne_iff_ne]; omega
                      clear t5
                      go_wp2_with (
                        ((with_reducible refine (id ?_ : wpList _ _ _ (⟨some 26, _, _, _, _, _⟩ :: _) _ _)); refine wpList_load_mid rfl 60 _ (by rfl) g (j * 3) (by rfl) [.int .i64 y.d, .int .i64 y.a, .slice D y.b.length cd] _ Hrp.out Tryd.underlying60 rfl (by kernel_rfl) ?_))
                      go_ret
                      exact ⟨by rw [R.out]; rfl, S0.out.2.2⟩
          · obtain rfl : j = l.length := by omega
            have R := Lib.hid (HE.out Hall.out)
            go_wp2
            go_ret
            exact ⟨by rw [R.out]; rfl, hbr⟩
      · have R := Lib.hid (recOk_no (s := s) (l := l) (by omega))
        have h3' : ¬ (l.length : Int) ≤ 3 := by omega
        clear h3
        go_enter Tryd.func23, Tryd.ntmps23
        go_wp2
        go_ret
        exact ⟨by rw [R.out]; rfl, Below.refl _ _⟩
    · have R := Lib.hid (recOk_no (s := s) (l := l) (by omega))
      go_enter Tryd.func23, Tryd.ntmps23
      go_wp2
      go_ret
      exact ⟨by rw [R.out]; rfl, Below.refl _ _⟩
  · have R := Lib.hid (recOk_no (s := s) (l := l) (by omega))
    go_enter Tryd.func23, Tryd.ntmps23
    go_wp2
    go_ret
    exact ⟨by rw [R.out]; rfl, Below.refl _ _⟩
end Go.Proofs.YtoomdgidpplpfaaDoor
