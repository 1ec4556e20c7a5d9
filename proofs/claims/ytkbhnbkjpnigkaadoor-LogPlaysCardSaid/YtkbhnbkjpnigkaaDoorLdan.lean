/- Texts put together: DskLeft, Off, RefRec, RefRecC, RefNumR. -/
import Derived.Test.YtkbhnbkjpnigkaaDoorLdak
import Derived.Test.YtkbhnbkjpnigkaaDoorLdac
import Derived.Test.YtkbhnbkjpnigkaaDoorLdaj
import Derived.Test.YtkbhnbkjpnigkaaDoorLdaf
section
namespace Go.Proofs.YtkbhnbkjpnigkaaDoor
open Go.RowKit

end Go.Proofs.YtkbhnbkjpnigkaaDoor
end
section
namespace Go.Proofs.YtkbhnbkjpnigkaaDoor
open Go.RowKit

def Off (v : Value) (b : Nat) (pv : Value) : Prop := ∀ k, v.ownBlock = some k → ¬ DF b pv k
/-- Two disks beside one another. -/
def Apart (b : Nat) (pv : Value) (b2 : Nat) (pv2 : Value) : Prop := ∀ k, DF b pv k → ¬ DF b2 pv2 k
end Go.Proofs.YtkbhnbkjpnigkaaDoor
end
section
set_option maxRecDepth 8000
set_option linter.unusedVariables false
set_option linter.unusedSimpArgs false
namespace Go.Proofs.YtkbhnbkjpnigkaaDoor
open Go.RowKit

/-- Items that are read, with their rooms. -/
def RdIc (w : World) (B : Nat) (A : Option Addr) (l : List It) : Prop :=
  l.length ≤ 140737488355328 ∧ (0 < l.length → ∃ b, A = some ⟨b, 0, none⟩ ∧ b < B ∧ ∀ k, k < l.length → ∃ D c, w.rangeAt b (k * 3) [.int .i64 (itN l k).d, .int .i64 (itN l k).a, .slice D (itN l k).b.length c] ∧ RdB w B D (itN l k).b ∧ (itN l k).b.length ≤ c)
theorem infoRI : (Tryd.prog.info? 60).map (fun i => (i.zero, i.size, i.bytes)) = some (some (.agg #[.int .i64 0, .int .i64 0, .slice none 0 0]), 3, 40) := by kernel_rfl
set_option maxHeartbeats 4000000 in
theorem refRecs_any (A : Option Addr) (n c : Nat) (l : List It) (w : World) (hn : l.length = n) (hl : n ≤ 1000) (h : RdIc w w.heap.size A l) :
    Calls Tryd.prog 24 #[.slice A n c] w fun e w' => ∃ v, e = .returned v ∧ OwIt 60 w' w.heap.size 0 v l ∧ Below w.heap.size w w' := by
  subst hn
  have H := Lib.hid h
  clear h
  go_enter Tryd.func24, Tryd.ntmps24
  go_wp2
  go_loopw [3, 8] (fun v i wr => ∃ j : Nat, j ≤ l.length ∧ i = .int .i64 j ∧ OwIt 60 wr w.heap.size 0 v (l.take j) ∧ Below w.heap.size w wr) (fun _ i _ => l.length - (intOf i).toNat)
  case atStart => exact ⟨0, Nat.zero_le _, rfl, OwIt.nil _ _ _ _, Below.refl _ _⟩
  case round =>
    obtain ⟨j, hj, rfl, ho, hbr⟩ := hrel
    by_cases hlt : j < l.length
    · obtain ⟨g, rfl, hg, hc⟩ := H.out.2 (by omega)
      obtain ⟨D, cd, hrp, hrd, hcap⟩ := hc j hlt
      have Hts := Lib.hid (its_take hlt)
      generalize itN l j = y at hrp hrd hcap Hts
      have Hrp := Lib.hid (rangeAt_keep (w' := wr) hrp fun k => hbr.cell hg)
      have BX := below1 wr (.cells #[.int .i64 y.d, .int .i64 y.a, .slice D y.b.length cd] 43)
      have c' := fun i => cell_of_row _ _ i _ _ _ (heap_alloc_new wr (.cells #[.int .i64 y.d, .int .i64 y.a, .slice D y.b.length cd] 43))
      have BB := hbr.alloc hbr.size (.cells #[.int .i64 y.d, .int .i64 y.a, .slice D y.b.length cd] 43)
      have hbz := hbr.size
      generalize hW1 : wr.alloc (.cells #[.int .i64 y.d, .int .i64 y.a, .slice D y.b.length cd] 43) = W1 at BX c' BB
      have B2 := below1 W1 (.cells #[.int .i64 y.d, .int .i64 y.a, .slice D y.b.length cd] 60)
      have ho2 := Lib.hid ((ho.below BX).below B2)
      have hrd2 : RdB (W1.alloc (.cells #[.int .i64 y.d, .int .i64 y.a, .slice D y.b.length cd] 60)) (W1.alloc (.cells #[.int .i64 y.d, .int .i64 y.a, .slice D y.b.length cd] 60)).heap.size D y.b := ((hrd.below BB (Nat.le_refl _)).more BB.size |>.below B2 (Nat.le_refl _)).more B2.size
      have HS := Lib.hid (fun (ob : Option Nat) (hob : ob = u3.ownBlock) => src_one (lo := 0) (ob := ob) (x := y) (c := cd) (heap_alloc_new W1 (.cells #[.int .i64 y.d, .int .i64 y.a, .slice D y.b.length cd] 60)) hrd2 hcap (fun h0 a ha => by
        refine ⟨fun e => ?_, Nat.zero_le _⟩
        rw [hob] at e
        obtain ⟨b', off', e2, hb', _⟩ := hrd.2 h0
        rw [ha] at e2
        injection e2 with e2
        subst e2
        have := (ho.lt b' e.symm).1
        omega))
      have BB2 := Lib.hid (BB.alloc BB.size (.cells #[.int .i64 y.d, .int .i64 y.a, .slice D y.b.length cd] 60))
      have hzz := Lib.hid (BB2.out.size)
      have hjl : (l.take j).length = j := by simp; omega
      have k0 : (0 : Int) ≤ (j : Int) := by omega
      have k1 : (j : Int) < (l.length : Int) := by omega
      obtain ⟨b0, b1, b2⟩ := And.intro (c' 0) (And.intro (c' 1) (c' 2))
      have Hlt := Lib.hid (ho.lt)
      clear hrp hrd hcap hc ho BX BB B2 hrd2 c'
      go_wp2_with (first
        | ((with_reducible refine (id ?_ : wpList _ _ _ (⟨some 11, _, _, _, _, _⟩ :: _) _ _)); refine wpList_load_mid rfl 43 _ (by rfl) g (j * 3) (by rfl) [.int .i64 y.d, .int .i64 y.a, .slice D y.b.length cd] _ Hrp.out Tryd.underlying43 rfl (by kernel_rfl) ?_)
        | ((with_reducible refine (id ?_ : wpList _ _ _ (⟨some 15, _, _, _, _, _⟩ :: _) _ _)); refine wpList_append_I _ (by rfl) _ _ _ (by rfl) w.heap.size 0 60 Tryd.underlying54 infoRI u3 _ (by rfl) ho2.out (some ⟨W1.heap.size, 0, none⟩) 1 1 _ (by rfl) (by rfl) (HS.out _ rfl) (by rw [hjl]; show j + 1 ≤ _; omega) hzz.out ?_
           intro v4 w4 O4 g4 _))
      go_roundw
      case rel =>
        refine ⟨j + 1, by omega, by go_num, ?_, ?_⟩
        · rw [Hts.out]; exact O4
        · exact BB2.out.grown g4 BB2.out.size (fun k e => (Hlt.out k e).1)
      case measure => simp [intOf]; omega
    · obtain rfl : j = l.length := by omega
      rw [List.take_length] at ho
      have Ho := Lib.hid ho
      clear ho
      go_wp2
      go_ret
      exact ⟨_, rfl, Ho.out, hbr⟩
end Go.Proofs.YtkbhnbkjpnigkaaDoor
end
section
set_option maxRecDepth 8000
set_option linter.unusedVariables false
set_option linter.unusedSimpArgs false
namespace Go.Proofs.YtkbhnbkjpnigkaaDoor
open Go.RowKit

theorem recOk_all {s : Int} {l : List It} (h1 : 1 ≤ s) (h2 : s < 2147483648) (h3 : l.length ≤ 3) (h : fineN l l.length = true) : recOk s l = true := (recOk_iff s l).2 ⟨⟨h1, by omega, h3⟩, h⟩
theorem may_yes {y : It} (h1 : ¬ y.d < 0) (h2 : ¬ 8 ≤ y.d) (h3 : ¬ y.a < 36) (h4 : ¬ 52 ≤ y.a) (h5 : y.b.length = 32) : mayB y = true := (mayB_iff y).2 ⟨by omega, by omega, by omega, by omega, h5⟩
theorem may_nope {y : It} (h : y.d < 0 ∨ 8 ≤ y.d ∨ y.a < 36 ∨ 52 ≤ y.a ∨ y.b.length ≠ 32) : mayB y = false := by
  rw [← Bool.not_eq_true, mayB_iff]; intro h'; omega
theorem fine_next {l : List It} {j : Nat} (h : fineN l j = true) (h1 : mayB (itN l j) = true) (h2 : ∀ k, k < j → meetsB (itN l j) (itN l k) = false) : fineN l (j + 1) = true := by
  rw [fineN_iff] at h ⊢
  intro k hk
  by_cases e : k = j
  · subst e; exact ⟨h1, h2⟩
  · exact h k (by omega)
/-- What stays while one Item is held against those ahead of it. -/
def CrS (w : World) (q : Nat) (x : It) (V : World) : Prop := V.cell? ⟨q, 0, none⟩ = some (.int .i64 x.d) ∧ V.cell? ⟨q, 1, none⟩ = some (.int .i64 x.a) ∧ Below w.heap.size w V
set_option maxHeartbeats 8000000 in
theorem refCheckRec_any (A : Option Addr) (n c : Nat) (s : Int) (l : List It) (w : World) (hn : l.length = n) (hnc : n ≤ c) (hs : (-9223372036854775808 ≤ s ∧ s ≤ 9223372036854775807)) (h : RdI w w.heap.size A l) :
    Calls Tryd.prog 23 #[.int .i64 s, .slice A n c] w fun e w' => e = .returned (.bool (recOk s l)) ∧ Below w.heap.size w w' := by
  subst hn
  have H := Lib.hid h
  clear h
  by_cases h1 : 1 ≤ s
  · by_cases h2 : s < 2147483648
    · by_cases h3 : l.length ≤ 3
      · have HE := Lib.hid (@recOk_all s l h1 h2 h3)
        have HA := Lib.hid (fun (j : Nat) (hj : j < l.length) (q : mayB (itN l j) = false) => recOk_at (s := s) j hj q)
        have HT := Lib.hid (fun (j k : Nat) (hj : j < l.length) (hk : k < j) (q : meetsB (itN l j) (itN l k) = true) => recOk_two (s := s) j k hj hk q)
        generalize recOk s l = res at HE HA HT
        have h3' : (l.length : Int) ≤ 3 := by omega
        go_enter Tryd.func23, Tryd.ntmps23
        go_wp2
        clear h3'
        go_loopw [22] (fun i wr => ∃ j : Nat, j ≤ l.length ∧ i = .int .i64 j ∧ fineN l j = true ∧ Below w.heap.size w wr) (fun i _ => l.length - (intOf i).toNat)
        case atStart => exact ⟨0, Nat.zero_le _, rfl, by simp [fineN], Below.refl _ _⟩
        case round =>
          obtain ⟨j, hj, rfl, hall, hbr⟩ := hrel
          have Hall := Lib.hid hall
          clear hall
          by_cases hlt : j < l.length
          · obtain ⟨g, rfl, hg, hc⟩ := H.out.2 (by omega)
            obtain ⟨D, cd, hrp, _⟩ := hc j hlt
            have HN := Lib.hid (HA.out j hlt)
            have HW := Lib.hid (fun k hk => HT.out j k hlt hk)
            have HF := Lib.hid (fun q1 q2 => fine_next (l := l) (j := j) Hall.out q1 q2)
            generalize itN l j = y at hrp HN HW HF
            have Hrp := Lib.hid (rangeAt_keep (w' := wr) hrp fun k => hbr.cell hg)
            have c' := fun i => cell_of_row _ _ i _ _ _ (heap_alloc_new wr (.cells #[.int .i64 y.d, .int .i64 y.a, .slice D y.b.length cd] 60))
            have S0 : Hid (CrS w wr.heap.size y (wr.alloc (.cells #[.int .i64 y.d, .int .i64 y.a, .slice D y.b.length cd] 60))) := Lib.hid ⟨c' 0, c' 1, hbr.alloc hbr.size _⟩
            have k0 : (0 : Int) ≤ (j : Int) := by omega
            have k1 : (j : Int) < (l.length : Int) := by omega
            have k2 : (j : Int) ≤ (c : Int) := by omega
            clear hrp c'
            by_cases t1 : y.d < 0
            · have R := Lib.hid (HN.out (may_nope (.inl t1)))
              go_wp2_with (
                ((with_reducible refine (id ?_ : wpList _ _ _ (⟨some 26, _, _, _, _, _⟩ :: _) _ _)); refine wpList_load_mid rfl 60 _ (by rfl) g (j * 3) (by rfl) [.int .i64 y.d, .int .i64 y.a, .slice D y.b.length cd] _ Hrp.out Tryd.underlying60 rfl (by kernel_rfl) ?_))
              go_ret
              exact ⟨by rw [R.out]; rfl, S0.out.2.2⟩
            · by_cases t2 : 8 ≤ y.d
              · have R := Lib.hid (HN.out (may_nope (.inr (.inl t2))))
                go_wp2_with (
                  ((with_reducible refine (id ?_ : wpList _ _ _ (⟨some 26, _, _, _, _, _⟩ :: _) _ _)); refine wpList_load_mid rfl 60 _ (by rfl) g (j * 3) (by rfl) [.int .i64 y.d, .int .i64 y.a, .slice D y.b.length cd] _ Hrp.out Tryd.underlying60 rfl (by kernel_rfl) ?_))
                go_ret
                exact ⟨by rw [R.out]; rfl, S0.out.2.2⟩
              · by_cases t3 : y.a < 36
                · have R := Lib.hid (HN.out (may_nope (.inr (.inr (.inl t3)))))
                  go_wp2_with (
                    ((with_reducible refine (id ?_ : wpList _ _ _ (⟨some 26, _, _, _, _, _⟩ :: _) _ _)); refine wpList_load_mid rfl 60 _ (by rfl) g (j * 3) (by rfl) [.int .i64 y.d, .int .i64 y.a, .slice D y.b.length cd] _ Hrp.out Tryd.underlying60 rfl (by kernel_rfl) ?_))
                  go_ret
                  exact ⟨by rw [R.out]; rfl, S0.out.2.2⟩
                · by_cases t4 : 52 ≤ y.a
                  · have R := Lib.hid (HN.out (may_nope (.inr (.inr (.inr (.inl t4))))))
                    go_wp2_with (
                      ((with_reducible refine (id ?_ : wpList _ _ _ (⟨some 26, _, _, _, _, _⟩ :: _) _ _)); refine wpList_load_mid rfl 60 _ (by rfl) g (j * 3) (by rfl) [.int .i64 y.d, .int .i64 y.a, .slice D y.b.length cd] _ Hrp.out Tryd.underlying60 rfl (by kernel_rfl) ?_))
                    go_ret
                    exact ⟨by rw [R.out]; rfl, S0.out.2.2⟩
                  · by_cases t5 : y.b.length = 32
                    · have HG := Lib.hid (HF.out (may_yes t1 t2 t3 t4 t5))
                      have t6 : ((y.b.length : Int) != 32) = false := by rw [t5]; rfl
                      clear t5
                      go_wp2_with (
                        ((with_reducible refine (id ?_ : wpList _ _ _ (⟨some 26, _, _, _, _, _⟩ :: _) _ _)); refine wpList_load_mid rfl 60 _ (by rfl) g (j * 3) (by rfl) [.int .i64 y.d, .int .i64 y.a, .slice D y.b.length cd] _ Hrp.out Tryd.underlying60 rfl (by kernel_rfl) ?_))
                      clear t1 t2 t3 t4 t6
                      obtain ⟨p, hp⟩ : ∃ p, wr.heap.size = p := ⟨_, rfl⟩
                      rw [hp] at S0
                      try rw [hp]
                      go_name_world w5 hw5
                      rw [hw5] at S0
                      clear hw5 hp
                      go_loopw [55] (fun i wi => ∃ k : Nat, k ≤ j ∧ i = .int .i64 k ∧ (∀ q, q < k → meetsB y (itN l q) = false) ∧ CrS w p y wi) (fun i _ => j - (intOf i).toNat)
                      case atStart => exact ⟨0, Nat.zero_le _, rfl, fun q hq => absurd hq (Nat.not_lt_zero _), S0.out⟩
                      case round =>
                        obtain ⟨k, hk, rfl, hno, hst⟩ := hrel
                        rename World => wi
                        have Hno := Lib.hid hno
                        have Hst := Lib.hid hst
                        clear hno hst
                        by_cases hkj : k < j
                        · obtain ⟨D2, cd2, hrp2, _⟩ := hc k (by omega)
                          have HK := Lib.hid (HW.out k hkj)
                          have HM := Lib.hid (fun (q : meetsB y (itN l k) = false) => show ∀ r, r < k + 1 → meetsB y (itN l r) = false from fun r hr => by
                            by_cases e : r = k
                            · subst e; exact q
                            · exact Hno.out r (by omega))
                          generalize itN l k = z at hrp2 HK HM
                          have Hrp2 := Lib.hid (rangeAt_keep (w' := wi) hrp2 fun k => Hst.out.2.2.cell hg)
                          have S1 := Lib.hid (Hst.out.later (below1 wi (.cells #[.int .i64 z.d, .int .i64 z.a, .slice D2 z.b.length cd2] 60)))
                          obtain ⟨q0, q1, _⟩ := S1.out
                          have i0 : (0 : Int) ≤ (k : Int) := by omega
                          have i1 : (k : Int) < (j : Int) := by omega
                          clear hrp2
                          cases e1 : (y.d == z.d)
                          · have e2 : meetsB y z = false := by rw [← Bool.not_eq_true, meetsB_iff]; intro h; rw [h.1] at e1; simp at e1
                            have R := Lib.hid (HM.out e2)
                            clear e2
                            go_wp2_with (
                              ((with_reducible refine (id ?_ : wpList _ _ _ (⟨some 58, _, _, _, _, _⟩ :: _) _ _)); refine wpList_load_mid rfl 60 _ (by rfl) g (k * 3) (by rfl) [.int .i64 z.d, .int .i64 z.a, .slice D2 z.b.length cd2] _ Hrp2.out Tryd.underlying60 rfl (by kernel_rfl) ?_))
                            go_roundw
                            case rel => exact ⟨k + 1, by omega, by go_num, R.out, S1.out⟩
                            case measure => simp [intOf]; omega
                          · cases e2 : (y.a == z.a)
                            · have e3 : meetsB y z = false := by rw [← Bool.not_eq_true, meetsB_iff]; intro h; rw [h.2] at e2; simp at e2
                              have R := Lib.hid (HM.out e3)
                              clear e3
                              go_wp2_with (
                                ((with_reducible refine (id ?_ : wpList _ _ _ (⟨some 58, _, _, _, _, _⟩ :: _) _ _)); refine wpList_load_mid rfl 60 _ (by rfl) g (k * 3) (by rfl) [.int .i64 z.d, .int .i64 z.a, .slice D2 z.b.length cd2] _ Hrp2.out Tryd.underlying60 rfl (by kernel_rfl) ?_))
                              go_roundw
                              case rel => exact ⟨k + 1, by omega, by go_num, R.out, S1.out⟩
                              case measure => simp [intOf]; omega
                            · have e3 : meetsB y z = true := (meetsB_iff y z).2 ⟨by simpa using e1, by simpa using e2⟩
                              have R := Lib.hid (HK.out e3)
                              clear e3
                              go_wp2_with (
                                ((with_reducible refine (id ?_ : wpList _ _ _ (⟨some 58, _, _, _, _, _⟩ :: _) _ _)); refine wpList_load_mid rfl 60 _ (by rfl) g (k * 3) (by rfl) [.int .i64 z.d, .int .i64 z.a, .slice D2 z.b.length cd2] _ Hrp2.out Tryd.underlying60 rfl (by kernel_rfl) ?_))
                              go_ret
                              exact ⟨by rw [R.out]; rfl, S1.out.2.2⟩
                        · obtain rfl : k = j := by omega
                          have R := Lib.hid (HG.out Hno.out)
                          go_wp2
                          go_roundw
                          case rel => exact ⟨k + 1, by omega, by go_num, R.out, Hst.out.2.2⟩
                          case measure => simp [intOf]; omega
                    · have R := Lib.hid (HN.out (may_nope (.inr (.inr (.inr (.inr t5))))))
                      have t6 : ((y.b.length : Int) != 32) = true := by rw [bne_iff_ne]; omega
                      clear t5
                      go_wp2_with (
                        ((with_reducible refine (id ?_ : wpList _ _ _ (⟨some 26, _, _, _, _, _⟩ :: _) _ _)); refine wpList_load_mid rfl 60 _ (by rfl) g (j * 3) (by rfl) [.int .i64 y.d, .int .i64 y.a, .slice D y.b.length cd] _ Hrp.out Tryd.underlying60 rfl (by kernel_rfl) ?_))
                      go_ret
                      exact ⟨by rw [R.out]; rfl, S0.out.2.2⟩
          · obtain rfl : j = l.length := by omega
            have R := Lib.hid (HE.out Hall.out)
            go_wp2
            go_ret
            exact ⟨by rw [R.out]; rfl, hbr⟩
      · have R := Lib.hid (recOk_no (s := s) (l := l) (by omega))
        have h3' : ¬ (l.length : Int) ≤ 3 := by omega
        clear h3
        go_enter Tryd.func23, Tryd.ntmps23
        go_wp2
        go_ret
        exact ⟨by rw [R.out]; rfl, Below.refl _ _⟩
    · have R := Lib.hid (recOk_no (s := s) (l := l) (by omega))
      go_enter Tryd.func23, Tryd.ntmps23
      go_wp2
      go_ret
      exact ⟨by rw [R.out]; rfl, Below.refl _ _⟩
  · have R := Lib.hid (recOk_no (s := s) (l := l) (by omega))
    go_enter Tryd.func23, Tryd.ntmps23
    go_wp2
    go_ret
    exact ⟨by rw [R.out]; rfl, Below.refl _ _⟩
end Go.Proofs.YtkbhnbkjpnigkaaDoor
end
section
set_option linter.unusedVariables false
set_option linter.unusedSimpArgs false
namespace Go.Proofs.YtkbhnbkjpnigkaaDoor
open Go.RowKit

theorem or_add (m i k : Nat) (hk : k < 2 ^ i) : m * 2 ^ i ||| k = m * 2 ^ i + k := by
  rw [Nat.mul_comm, Nat.two_pow_add_eq_or_of_lt hk]
theorem or_four (x0 x1 x2 x3 : UInt8) : ∃ r1 r2 : Nat, bits .or .i64 ((x0.toNat : Int) * 16777216) ((x1.toNat : Int) * 65536) = (r1 : Int) ∧ bits .or .i64 (r1 : Int) ((x2.toNat : Int) * 256) = (r2 : Int) ∧ bits .or .i64 (r2 : Int) (x3.toNat : Int) = ((numB [x0, x1, x2, x3] : Nat) : Int) := by
  have b0 : x0.toNat < 256 := x0.toNat_lt
  have b1 : x1.toNat < 256 := x1.toNat_lt
  have b2 : x2.toNat < 256 := x2.toNat_lt
  have b3 : x3.toNat < 256 := x3.toNat_lt
  have HN := Lib.hid (numB_four x0 x1 x2 x3)
  have o1 : bits .or .i64 ((x0.toNat : Int) * 16777216) ((x1.toNat : Int) * 65536) = ((x0.toNat * 16777216 + x1.toNat * 65536 : Nat) : Int) := by
    have h := i64_or_nat (x0.toNat * 16777216) (x1.toNat * 65536) (by omega) (by omega)
    rw [show x0.toNat * 16777216 ||| x1.toNat * 65536 = x0.toNat * 16777216 + x1.toNat * 65536 from or_add x0.toNat 24 (x1.toNat * 65536) (by omega)] at h
    rw [← h]; rfl
  have o2 : bits .or .i64 ((x0.toNat * 16777216 + x1.toNat * 65536 : Nat) : Int) ((x2.toNat : Int) * 256) = ((x0.toNat * 16777216 + x1.toNat * 65536 + x2.toNat * 256 : Nat) : Int) := by
    have h := i64_or_nat (x0.toNat * 16777216 + x1.toNat * 65536) (x2.toNat * 256) (by omega) (by omega)
    rw [show x0.toNat * 16777216 + x1.toNat * 65536 = (x0.toNat * 256 + x1.toNat) * 2 ^ 16 by omega, or_add _ 16 (x2.toNat * 256) (by omega)] at h
    rw [show x0.toNat * 16777216 + x1.toNat * 65536 = (x0.toNat * 256 + x1.toNat) * 2 ^ 16 by omega, ← h]; rfl
  have o3 : bits .or .i64 ((x0.toNat * 16777216 + x1.toNat * 65536 + x2.toNat * 256 : Nat) : Int) (x3.toNat : Int) = ((numB [x0, x1, x2, x3] : Nat) : Int) := by
    have h := i64_or_nat (x0.toNat * 16777216 + x1.toNat * 65536 + x2.toNat * 256) x3.toNat (by omega) (by omega)
    rw [show x0.toNat * 16777216 + x1.toNat * 65536 + x2.toNat * 256 = (x0.toNat * 65536 + x1.toNat * 256 + x2.toNat) * 2 ^ 8 by omega, or_add _ 8 x3.toNat (by omega)] at h
    rw [show x0.toNat * 16777216 + x1.toNat * 65536 + x2.toNat * 256 = (x0.toNat * 65536 + x1.toNat * 256 + x2.toNat) * 2 ^ 8 by omega, h, HN.out]
    exact congrArg (fun n : Nat => (n : Int)) (by omega)
  exact ⟨_, _, o1, o2, o3⟩
set_option maxHeartbeats 1000000 in
theorem refNumber_any (b off n c : Nat) (x0 x1 x2 x3 : UInt8) (w : World) (hn : 4 ≤ n) (h0 : w.cell? ⟨b, off, none⟩ = some (.int .u8 (x0.toNat : Int))) (h1 : w.cell? ⟨b, off + 1, none⟩ = some (.int .u8 (x1.toNat : Int)))
    (h2 : w.cell? ⟨b, off + 2, none⟩ = some (.int .u8 (x2.toNat : Int))) (h3 : w.cell? ⟨b, off + 3, none⟩ = some (.int .u8 (x3.toNat : Int))) :
    Calls Tryd.prog 45 #[.slice (some ⟨b, off, none⟩) n c] w fun e w' => e = .returned (.int .i64 ((numB [x0, x1, x2, x3] : Nat) : Int)) ∧ ∃ m, w' = w.drewN m := by
  have b0 : x0.toNat < 256 := x0.toNat_lt
  have b1 : x1.toNat < 256 := x1.toNat_lt
  have b2 : x2.toNat < 256 := x2.toNat_lt
  have b3 : x3.toNat < 256 := x3.toNat_lt
  obtain ⟨r1, r2, o1, o2, o3⟩ := or_four x0 x1 x2 x3
  generalize numB [x0, x1, x2, x3] = r at o3
  have n1 : (1 : Int) < (n : Int) := by omega
  have n2 : (2 : Int) < (n : Int) := by omega
  have n3 : (3 : Int) < (n : Int) := by omega
  have n0 : (0 : Int) < (n : Int) := by omega
  go_enter Tryd.func45, Tryd.ntmps45
  go_wp2_with fail
  go_quiet (fail)
  go_wp2
  go_ret
  exact ⟨rfl, _, rfl⟩
end Go.Proofs.YtkbhnbkjpnigkaaDoor
end
