/- Texts put together: Kx, LogSmall, LogSettle, LogOn. -/
import Derived.Test.YtenkkdnepmoihaaGreatDoorUeaz
import Derived.Test.YtenkkdnepmoihaaGreatDoorUeav
import Derived.Test.YtenkkdnepmoihaaGreatDoorUeal
import Derived.Test.YtenkkdnepmoihaaGreatDoorUear
section
set_option maxRecDepth 8000
set_option linter.unusedVariables false
set_option linter.unusedSimpArgs false
namespace Go.Proofs.YtenkkdnepmoihaaGreatDoor
open Go.RowKit

structure KX (W w : World) (b : Nat) (H : BH) (N : Bch) (K : List (Nat × Obj)) : Prop where
  bp : BP W w b H N
  kp : ∀ p ∈ K, w.heap[p.1]? = some p.2 ∧ ¬ BF b H N.n p.1 ∧ W.heap.size ≤ p.1
section
variable {W w w' : World} {b : Nat} {H : BH} {N : Bch} {K : List (Nat × Obj)}
theorem KX.below (h : KX W w b H N K) (hb : Below w.heap.size w w') : KX W w' b H N K :=
  ⟨h.bp.grow hb, fun p hp => ⟨(hb.block _ (Array.getElem?_eq_some_iff.1 (h.kp p hp).1).1).trans (h.kp p hp).1, (h.kp p hp).2⟩⟩
theorem KX.add (h : KX W w b H N K) (o : Obj) : KX W (w.alloc o) b H N ((w.heap.size, o) :: K) := by
  refine ⟨h.bp.alloc o, fun p hp => ?_⟩
  rcases List.mem_cons.1 hp with rfl | hp
  · exact ⟨heap_alloc_new _ _, (fun e => by have h9 : w.heap.size < w.heap.size := (h.bp.at'.flt e).2; omega), h.bp.bel.size⟩
  · exact (h.below (below1 w o)).kp p hp
/-- A kept block is written. -/
theorem KX.put (h : KX W w b H N K) {p : Nat} {o o' : Obj} {K1 K2 : List (Nat × Obj)} (hK : K = K1 ++ (p, o) :: K2) (hg : w.grownBy w' (some p)) (hb : w'.heap[p]? = some o') (hne : ∀ r ∈ K1 ++ K2, r.1 ≠ p) : KX W w' b H N (K1 ++ (p, o') :: K2) := by
  subst hK
  have hp := h.kp (p, o) (by simp)
  have hch := chg_grown hg
  refine ⟨h.bp.chg hch (fun k e => by injection e with e; subst e; exact hp.2.2) (fun k hk e => by injection e with e; subst e; exact hp.2.1 hk), fun r hr => ?_⟩
  rcases List.mem_append.1 hr with h1 | h1
  · have h2 := h.kp r (by simp [h1])
    exact ⟨(hg.block _ (Array.getElem?_eq_some_iff.1 h2.1).1 (fun e => by injection e with e; exact hne r (by simp [h1]) e)).trans h2.1, h2.2⟩
  · rcases List.mem_cons.1 h1 with rfl | h1
    · exact ⟨hb, hp.2⟩
    · have h2 := h.kp r (by simp [h1])
      exact ⟨(hg.block _ (Array.getElem?_eq_some_iff.1 h2.1).1 (fun e => by injection e with e; exact hne r (by simp [h1]) e)).trans h2.1, h2.2⟩
end
theorem damage_n (N : Bch) (d k : Int) (x : List UInt8) : (N.damage d k x).n = N.n := by unfold Bch.damage; split <;> rfl
section
variable {W w : World} {b : Nat} {H : BH} {N : Bch} {K : List (Nat × Obj)} (h : KX W w b H N K)
include h
end
end Go.Proofs.YtenkkdnepmoihaaGreatDoor
end
section
set_option maxRecDepth 8000
set_option linter.unusedVariables false
set_option linter.unusedSimpArgs false
namespace Go.Proofs.YtenkkdnepmoihaaGreatDoor
open Go.RowKit

theorem hinders_any (x : Int) (w : World) : Calls Tryz.prog 95 #[.int .i64 x] w fun e w' => e = .returned (.bool (decide (x ≠ 0 ∧ x ≠ 5))) ∧ w' = w := by
  by_cases h0 : x = 0
  · subst h0
    go_enter Tryz.func95, Tryz.ntmps95
    go_wp2
    go_ret
    exact ⟨rfl, rfl⟩
  · have e0 : (x != 0) = true := by rw [bne_iff_ne]; exact h0
    by_cases h5 : x = 5
    · subst h5
      clear h0 e0
      go_enter Tryz.func95, Tryz.ntmps95
      go_wp2
      go_ret
      exact ⟨rfl, rfl⟩
    · have e5 : (x != 5) = true := by rw [bne_iff_ne]; exact h5
      have R := Lib.hid (show decide (x ≠ 0 ∧ x ≠ 5) = true from decide_eq_true ⟨h0, h5⟩)
      generalize decide (x ≠ 0 ∧ x ≠ 5) = res at R
      clear h0 h5
      go_enter Tryz.func95, Tryz.ntmps95
      go_wp2
      go_ret
      exact ⟨by rw [R.out]; rfl, rfl⟩
theorem isLive_any (B b : Nat) (H : BH) (N : Bch) (w : World) (h : BAt w B b H N) (lv : List Bool) (A : Option Addr) (n c : Nat) (hn : n = lv.length) (hv : RdO w w.heap.size A lv) (d : Int) (h0 : 0 ≤ d) (h1 : d ≤ 1000000) :
    Calls Tryz.prog 46 #[ptr b, .slice A n c, .int .i64 d] w fun e w' => e = .returned (.bool (liveD N.n lv d)) ∧ w' = w := by
  have e : liveD N.n lv d = alvD N.n lv d := by unfold liveD alvD; rw [decide_eq_true h0]; rfl
  rw [e]
  exact alvIs_any B b H N w h lv A n c hn hv d (by omega) h1
end Go.Proofs.YtenkkdnepmoihaaGreatDoor
end
section
set_option maxRecDepth 8000
set_option linter.unusedVariables false
set_option linter.unusedSimpArgs false
namespace Go.Proofs.YtenkkdnepmoihaaGreatDoor
open Go.RowKit

theorem hind0 : decide ((0 : Int) ≠ 0 ∧ (0 : Int) ≠ 5) = false := by decide
theorem hind5 : decide ((5 : Int) ≠ 0 ∧ (5 : Int) ≠ 5) = false := by decide
theorem hindX {x : Int} (h0 : x ≠ 0) (h5 : x ≠ 5) : decide (x ≠ 0 ∧ x ≠ 5) = true := decide_eq_true ⟨h0, h5⟩
set_option maxHeartbeats 4000000 in
theorem settle_any (W w : World) (b : Nat) (H : BH) (N : Bch) (h : BP W w b H N) (l : List It) (A : Option Addr) (n c : Nat) (hn : n = l.length) (hr : RdIF w (BF b H N.n) A l) (h64 : Its64 l)
    (hps : ∀ i, i < N.n → (N.D i).ps.length ≤ 1000000) (hdn : N.done ≤ 1000000) :
    Calls Tryz.prog 63 #[.pointer (some ⟨b, 0, none⟩), .slice A n c] w fun e w' => e = .returned (.int .i64 (settleS N l).1) ∧ BC W w w' b H N.n (settleS N l).2 := by
  subst hn
  have Hh := Lib.hid h
  have Hr := Lib.hid hr
  have H64 := Lib.hid h64
  have Hp := Lib.hid hps
  have Hd := Lib.hid hdn
  have hl6 := hr.1
  have HS1 := Lib.hid (show (wroteI N l).1 ≠ 0 → settleS N l = wroteI N l from fun h => if_pos h)
  have HS2 := Lib.hid (show (wroteI N l).1 = 0 → settleS N l = runTo itFl l (wroteI N l).2 l.length from fun h => if_neg (fun q => q h))
  have HW : Hid (wroteI N l = runTo itWr l N l.length) := rfl
  have CH := Lib.hid hinders_any
  clear h hr h64 hps hdn
  go_enter Tryz.func63, Tryz.ntmps63
  go_wp2
  go_loopw [13] (fun i wr => ∃ j : Nat, j ≤ l.length ∧ i = .int .i64 j ∧ (runTo itWr l N j).1 = 0 ∧ BC W w wr b H N.n (runTo itWr l N j).2) (fun i _ => l.length - (intOf i).toNat)
  case atStart => exact ⟨0, Nat.zero_le _, rfl, rfl, Hh.out.self⟩
  case round =>
    obtain ⟨j, hj, rfl, hz, hbc⟩ := hrel
    have Hz := Lib.hid hz
    have Hbc := Lib.hid hbc
    obtain ⟨Hj, aj, cj, nj⟩ := hbc
    have Haj := Lib.hid aj
    have Hcj := Lib.hid cj
    have Hnj := Lib.hid nj
    have Hrj := Lib.hid (Hr.out.chg cj fun _ _ e => e)
    clear hz aj cj nj
    by_cases hlt : j < l.length
    · have i0 : (0 : Int) ≤ (j : Int) := by omega
      have i1 : (j : Int) < (l.length : Int) := by omega
      obtain ⟨g, rfl, hg, hgf, hk⟩ := Hrj.out.2 (by omega)
      obtain ⟨D, cd, hrp, hcd, hrd, hof⟩ := hk j hlt
      have Hlen : Hid (∀ i, i < N.n → ((runTo itWr l N j).2.D i).ps.length ≤ 2000000) := fun i hi => by have h1 := Hp.out i hi; have h2 := ran_len (l := l) (N := N) i j; omega
      have Hdone : Hid ((runTo itWr l N j).2.done ≤ 2000000) := by show _ ≤ _; have h1 := Hd.out; have h2 := ran_done (l := l) (N := N) j; omega
      have Hnn : Hid ((runTo itWr l N j).2.n = N.n) := ran_n j
      have hx64 := H64.out j hlt
      have HP := Lib.hid (fun hq => runTo_pass (f := itWr) (l := l) (N := N) (i := j) Hz.out hq)
      have HG := Lib.hid (fun hq => runTo_goes (f := itWr) (l := l) (N := N) (i := j) Hz.out hq)
      have HST := Lib.hid (fun hq => runTo_stop (f := itWr) (l := l) (N := N) (i := j + 1) hq l.length (by omega))
      generalize itN l j = x at hrp hrd hx64 hcd hof HP HG
      have Hrp := Lib.hid hrp
      have b1 := below1 wr (.cells #[.int .i64 x.d, .int .i64 x.a, .slice D x.b.length cd] 92)
      have CW := Lib.hid (bp_write W _ b Hj _ (Haj.out.alloc (.cells #[.int .i64 x.d, .int .i64 x.a, .slice D x.b.length cd] 92)) x.d x.a x.b D x.b.length cd rfl hx64.d hx64.a ((hrd.below b1 (Nat.le_refl _)).more b1.size) (fun i hi => Hlen.out i (by rw [Hnn.out] at hi; exact hi)) Hdone.out)
      have HX : Hid (∀ w2 N2, BC W (wr.alloc (.cells #[.int .i64 x.d, .int .i64 x.a, .slice D x.b.length cd] 92)) w2 b Hj (runTo itWr l N j).2.n N2 → BC W w w2 b H N.n N2) := fun w2 N2 h2 => by
        rw [Hnn.out] at h2
        exact (BC.below b1 h2).seq Hcj.out Hnj.out
      clear hrp hk b1 hrd hof Hrj hgf
      have Hw : Hid (itWr (runTo itWr l N j).2 x = ((runTo itWr l N j).2.writeE x.d x.a x.b.length, (runTo itWr l N j).2.write x.d x.a x.b)) := rfl
      generalize (runTo itWr l N j).2.writeE x.d x.a x.b.length = e at CW Hw
      generalize (runTo itWr l N j).2.write x.d x.a x.b = Nx at CW Hw
      rw [Hw.out] at HP HG
      by_cases h5 : e = 5
      · have HP := Lib.hid (HP.out h5)
        rw [h5] at CW
        clear HG h5 Hw
        have CH5 := Lib.hid (fun V => hinders_any 5 V)
        rw [hind5] at CH5
        clear CH
        go_wp2_with (first
          | ((with_reducible refine (id ?_ : wpList _ _ _ (⟨some 16, _, _, _, _, _⟩ :: _) _ _)); refine wpList_load_mid rfl 92 _ (by rfl) g (j * 3) (by rfl) [.int .i64 x.d, .int .i64 x.a, .slice D x.b.length cd] _ Hrp.out Tryz.underlying92 rfl (by kernel_rfl) ?_)
          | (go_at_call 94; refine CW.out.mono ?_; rintro e w2 ⟨rfl, ht⟩; have Ht := Lib.hid (HX.out _ _ ht); clear ht)
          | (go_at_call 95; refine (CH5.out _).mono ?_; rintro e w3 ⟨rfl, rfl⟩))
        go_roundw
        case rel => exact ⟨j + 1, by omega, by go_num, by rw [HP.out], by rw [HP.out]; exact Ht.out⟩
        case measure => simp [intOf]; omega
      · have HG := Lib.hid (HG.out h5)
        clear HP
        by_cases h0 : e = 0
        · rw [h0] at CW HG
          have CH0 := Lib.hid (fun V => hinders_any 0 V)
          rw [hind0] at CH0
          clear h5 h0 CH Hw
          go_wp2_with (first
            | ((with_reducible refine (id ?_ : wpList _ _ _ (⟨some 16, _, _, _, _, _⟩ :: _) _ _)); refine wpList_load_mid rfl 92 _ (by rfl) g (j * 3) (by rfl) [.int .i64 x.d, .int .i64 x.a, .slice D x.b.length cd] _ Hrp.out Tryz.underlying92 rfl (by kernel_rfl) ?_)
            | (go_at_call 94; refine CW.out.mono ?_; rintro e w2 ⟨rfl, ht⟩; have Ht := Lib.hid (HX.out _ _ ht); clear ht)
            | (go_at_call 95; refine (CH0.out _).mono ?_; rintro e w3 ⟨rfl, rfl⟩))
          go_roundw
          case rel => exact ⟨j + 1, by omega, by go_num, by rw [HG.out], by rw [HG.out]; exact Ht.out⟩
          case measure => simp [intOf]; omega
        · have CHx := Lib.hid (fun V => hinders_any e V)
          rw [hindX h0 h5] at CHx
          have HE := Lib.hid (show settleS N l = (e, Nx) by
            have q1 := HST.out (by rw [HG.out]; exact h0)
            rw [HG.out] at q1
            have q2 := HW.out.trans q1
            rw [HS1.out (by rw [q2]; exact h0), q2])
          clear h5 h0 CH Hw HST HG
          go_wp2_with (first
            | ((with_reducible refine (id ?_ : wpList _ _ _ (⟨some 16, _, _, _, _, _⟩ :: _) _ _)); refine wpList_load_mid rfl 92 _ (by rfl) g (j * 3) (by rfl) [.int .i64 x.d, .int .i64 x.a, .slice D x.b.length cd] _ Hrp.out Tryz.underlying92 rfl (by kernel_rfl) ?_)
            | (go_at_call 94; refine CW.out.mono ?_; rintro e w2 ⟨rfl, ht⟩; have Ht := Lib.hid (HX.out _ _ ht); clear ht)
            | (go_at_call 95; refine (CHx.out _).mono ?_; rintro e w3 ⟨rfl, rfl⟩))
          go_ret
          exact ⟨by rw [HE.out]; rfl, by rw [HE.out]; exact Ht.out⟩
    · obtain rfl : j = l.length := by omega
      have HS := Lib.hid (HS2.out (by rw [HW.out]; exact Hz.out))
      rw [HW.out] at HS
      have HnW : Hid ((runTo itWr l N l.length).2.n = N.n) := ran_n _
      generalize (runTo itWr l N l.length).2 = M at HS HnW Haj Hbc
      clear HS1 HS2 HW Hz hlt Hp Hd
      obtain ⟨Hm, am, cm, nm⟩ := Hbc.out
      have Ham := Lib.hid am
      have Hcm := Lib.hid cm
      have Hnm := Lib.hid nm
      clear am cm nm Haj Hcj Hnj Hbc Hrj
      go_wp2
      go_loopw [31] (fun i wr => ∃ j : Nat, j ≤ l.length ∧ i = .int .i64 j ∧ (runTo itFl l M j).1 = 0 ∧ BC W w wr b H N.n (runTo itFl l M j).2) (fun i _ => l.length - (intOf i).toNat)
      case atStart => exact ⟨0, Nat.zero_le _, rfl, rfl, Hm, Ham.out, Hcm.out, Hnm.out⟩
      case round =>
        obtain ⟨j, hj, rfl, hz, hbc⟩ := hrel
        have Hz := Lib.hid hz
        have Hbc := Lib.hid hbc
        obtain ⟨Hj, aj, cj, nj⟩ := hbc
        have Haj := Lib.hid aj
        have Hcj := Lib.hid cj
        have Hnj := Lib.hid nj
        clear hz aj cj nj
        by_cases hlt : j < l.length
        · have i0 : (0 : Int) ≤ (j : Int) := by omega
          have i1 : (j : Int) < (l.length : Int) := by omega
          obtain ⟨g, rfl, hg, hgf, hk⟩ := Hr.out.2 (by omega)
          obtain ⟨D, cd, hrp, _⟩ := hk j hlt
          have Hrp := Lib.hid (rangeAt_keep (w' := wr) hrp fun k => World.cell?_of_block (a := ⟨g, k, none⟩) (Hcj.out.block g hg hgf))
          have Hnn : Hid ((runTo itFl l M j).2.n = N.n) := (ranF_n j).trans HnW.out
          have hx64 := H64.out j hlt
          have HP := Lib.hid (fun hq => runTo_pass (f := itFl) (l := l) (N := M) (i := j) Hz.out hq)
          have HG := Lib.hid (fun hq => runTo_goes (f := itFl) (l := l) (N := M) (i := j) Hz.out hq)
          have HST := Lib.hid (fun hq => runTo_stop (f := itFl) (l := l) (N := M) (i := j + 1) hq l.length (by omega))
          generalize itN l j = x at hrp Hrp hx64 HP HG
          have b1 := below1 wr (.cells #[.int .i64 x.d, .int .i64 x.a, .slice D x.b.length cd] 92)
          have CW := Lib.hid (bp_flush W _ b Hj _ (Haj.out.alloc (.cells #[.int .i64 x.d, .int .i64 x.a, .slice D x.b.length cd] 92)) x.d hx64.d)
          have HX : Hid (∀ w2 N2, BC W (wr.alloc (.cells #[.int .i64 x.d, .int .i64 x.a, .slice D x.b.length cd] 92)) w2 b Hj (runTo itFl l M j).2.n N2 → BC W w w2 b H N.n N2) := fun w2 N2 h2 => by
            rw [Hnn.out] at h2
            exact (BC.below b1 h2).seq Hcj.out Hnj.out
          clear hrp hk b1 hgf
          have Hw : Hid (itFl (runTo itFl l M j).2 x = ((runTo itFl l M j).2.flushE x.d, (runTo itFl l M j).2.flush x.d)) := rfl
          generalize (runTo itFl l M j).2.flushE x.d = e at CW Hw
          generalize (runTo itFl l M j).2.flush x.d = Nx at CW Hw
          rw [Hw.out] at HP HG
          by_cases h5 : e = 5
          · have HP := Lib.hid (HP.out h5)
            rw [h5] at CW
            clear HG h5 Hw
            have CH5 := Lib.hid (fun V => hinders_any 5 V)
            rw [hind5] at CH5
            clear CH
            go_wp2_with (first
              | ((with_reducible refine (id ?_ : wpList _ _ _ (⟨some 34, _, _, _, _, _⟩ :: _) _ _)); refine wpList_load_mid rfl 92 _ (by rfl) g (j * 3) (by rfl) [.int .i64 x.d, .int .i64 x.a, .slice D x.b.length cd] _ Hrp.out Tryz.underlying92 rfl (by kernel_rfl) ?_)
              | (go_at_call 96; refine CW.out.mono ?_; rintro e w2 ⟨rfl, ht⟩; have Ht := Lib.hid (HX.out _ _ ht); clear ht)
              | (go_at_call 95; refine (CH5.out _).mono ?_; rintro e w3 ⟨rfl, rfl⟩))
            go_roundw
            case rel => exact ⟨j + 1, by omega, by go_num, by rw [HP.out], by rw [HP.out]; exact Ht.out⟩
            case measure => simp [intOf]; omega
          · have HG := Lib.hid (HG.out h5)
            clear HP
            by_cases h0 : e = 0
            · rw [h0] at CW HG
              have CH0 := Lib.hid (fun V => hinders_any 0 V)
              rw [hind0] at CH0
              clear h5 h0 CH Hw
              go_wp2_with (first
                | ((with_reducible refine (id ?_ : wpList _ _ _ (⟨some 34, _, _, _, _, _⟩ :: _) _ _)); refine wpList_load_mid rfl 92 _ (by rfl) g (j * 3) (by rfl) [.int .i64 x.d, .int .i64 x.a, .slice D x.b.length cd] _ Hrp.out Tryz.underlying92 rfl (by kernel_rfl) ?_)
                | (go_at_call 96; refine CW.out.mono ?_; rintro e w2 ⟨rfl, ht⟩; have Ht := Lib.hid (HX.out _ _ ht); clear ht)
                | (go_at_call 95; refine (CH0.out _).mono ?_; rintro e w3 ⟨rfl, rfl⟩))
              go_roundw
              case rel => exact ⟨j + 1, by omega, by go_num, by rw [HG.out], by rw [HG.out]; exact Ht.out⟩
              case measure => simp [intOf]; omega
            · have CHx := Lib.hid (fun V => hinders_any e V)
              rw [hindX h0 h5] at CHx
              have HE := Lib.hid (show settleS N l = (e, Nx) by
                have q1 := HST.out (by rw [HG.out]; exact h0)
                rw [HG.out] at q1
                rw [HS.out, q1])
              clear h5 h0 CH Hw HST HG
              go_wp2_with (first
                | ((with_reducible refine (id ?_ : wpList _ _ _ (⟨some 34, _, _, _, _, _⟩ :: _) _ _)); refine wpList_load_mid rfl 92 _ (by rfl) g (j * 3) (by rfl) [.int .i64 x.d, .int .i64 x.a, .slice D x.b.length cd] _ Hrp.out Tryz.underlying92 rfl (by kernel_rfl) ?_)
                | (go_at_call 96; refine CW.out.mono ?_; rintro e w2 ⟨rfl, ht⟩; have Ht := Lib.hid (HX.out _ _ ht); clear ht)
                | (go_at_call 95; refine (CHx.out _).mono ?_; rintro e w3 ⟨rfl, rfl⟩))
              go_ret
              exact ⟨by rw [HE.out]; rfl, by rw [HE.out]; exact Ht.out⟩
        · obtain rfl : j = l.length := by omega
          have HE := Lib.hid (show settleS N l = (0, (runTo itFl l M l.length).2) by rw [HS.out]; exact Prod.ext Hz.out rfl)
          clear HS
          go_wp2
          go_ret
          exact ⟨by rw [HE.out]; rfl, by rw [HE.out]; exact Hbc.out⟩
end Go.Proofs.YtenkkdnepmoihaaGreatDoor
end
section
set_option maxRecDepth 8000
set_option linter.unusedVariables false
set_option linter.unusedSimpArgs false
namespace Go.Proofs.YtenkkdnepmoihaaGreatDoor
open Go.RowKit

section
variable {w V V' : World} {g j : Nat} {rs : List (List UInt8)}
end
end Go.Proofs.YtenkkdnepmoihaaGreatDoor
end
