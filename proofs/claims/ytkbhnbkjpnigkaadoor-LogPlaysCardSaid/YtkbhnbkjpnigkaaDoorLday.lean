/- Texts put together: LogSmall, LogSettle, LogOn. -/
import Derived.Test.YtkbhnbkjpnigkaaDoorLdax
import Derived.Test.YtkbhnbkjpnigkaaDoorLdau
import Derived.Test.YtkbhnbkjpnigkaaDoorLdak
import Derived.Test.YtkbhnbkjpnigkaaDoorLdap
section
set_option maxRecDepth 8000
set_option linter.unusedVariables false
set_option linter.unusedSimpArgs false
namespace Go.Proofs.YtkbhnbkjpnigkaaDoor
open Go.RowKit

theorem hinders_any (x : Int) (w : World) : Calls Tryd.prog 51 #[.int .i64 x] w fun e w' => e = .returned (.bool (decide (x ≠ 0 ∧ x ≠ 5))) ∧ w' = w := by
  by_cases h0 : x = 0
  · subst h0
    go_enter Tryd.func51, Tryd.ntmps51
    go_wp2
    go_ret
    exact ⟨rfl, rfl⟩
  · have e0 : (x != 0) = true := by rw [bne_iff_ne]; exact h0
    by_cases h5 : x = 5
    · subst h5
      clear h0 e0
      go_enter Tryd.func51, Tryd.ntmps51
      go_wp2
      go_ret
      exact ⟨rfl, rfl⟩
    · have e5 : (x != 5) = true := by rw [bne_iff_ne]; exact h5
      have R := Lib.hid (show decide (x ≠ 0 ∧ x ≠ 5) = true from decide_eq_true ⟨h0, h5⟩)
      generalize decide (x ≠ 0 ∧ x ≠ 5) = res at R
      clear h0 h5
      go_enter Tryd.func51, Tryd.ntmps51
      go_wp2
      go_ret
      exact ⟨by rw [R.out]; rfl, rfl⟩
theorem isLive_any (B b : Nat) (H : BH) (N : Bch) (w : World) (h : BAt w B b H N) (lv : List Bool) (A : Option Addr) (n c : Nat) (hn : n = lv.length) (hv : RdO w w.heap.size A lv) (d : Int) (h0 : 0 ≤ d) (h1 : d ≤ 1000000) :
    Calls Tryd.prog 34 #[ptr b, .slice A n c, .int .i64 d] w fun e w' => e = .returned (.bool (liveD N.n lv d)) ∧ w' = w := by
  have e : liveD N.n lv d = alvD N.n lv d := by unfold liveD alvD; rw [decide_eq_true h0]; rfl
  rw [e]
  exact alvIs_any B b H N w h lv A n c hn hv d (by omega) h1
end Go.Proofs.YtkbhnbkjpnigkaaDoor
end
section
set_option maxRecDepth 8000
set_option linter.unusedVariables false
set_option linter.unusedSimpArgs false
namespace Go.Proofs.YtkbhnbkjpnigkaaDoor
open Go.RowKit

theorem hind0 : decide ((0 : Int) ≠ 0 ∧ (0 : Int) ≠ 5) = false := by decide
theorem hind5 : decide ((5 : Int) ≠ 0 ∧ (5 : Int) ≠ 5) = false := by decide
theorem hindX {x : Int} (h0 : x ≠ 0) (h5 : x ≠ 5) : decide (x ≠ 0 ∧ x ≠ 5) = true := decide_eq_true ⟨h0, h5⟩
set_option maxHeartbeats 4000000 in
theorem settle_any (W w : World) (b : Nat) (H : BH) (N : Bch) (h : BP W w b H N) (l : List It) (A : Option Addr) (n c : Nat) (hn : n = l.length) (hr : RdIF w (BF b H N.n) A l) (h64 : Its64 l)
    (hps : ∀ i, i < N.n → (N.D i).ps.length ≤ 1000000) (hdn : N.done ≤ 1000000) :
    Calls Tryd.prog 35 #[.pointer (some ⟨b, 0, none⟩), .slice A n c] w fun e w' => e = .returned (.int .i64 (settleS N l).1) ∧ BC W w w' b H N.n (settleS N l).2 := by
  subst hn
  have Hh := Lib.hid h
  have Hr := Lib.hid hr
  have H64 := Lib.hid h64
  have Hp := Lib.hid hps
  have Hd := Lib.hid hdn
  have hl6 := hr.1
  have HS1 := Lib.hid (show (wroteI N l).1 ≠ 0 → settleS N l = wroteI N l from fun h => if_pos h)
  have HS2 := Lib.hid (show (wroteI N l).1 = 0 → settleS N l = runTo itFl l (wroteI N l).2 l.length from fun h => if_neg (fun q => q h))
  have HW : Hid (wroteI N l = runTo itWr l N l.length) := rfl
  have CH := Lib.hid hinders_any
  clear h hr h64 hps hdn
  go_enter Tryd.func35, Tryd.ntmps35
  go_wp2
  go_loopw [13] (fun i wr => ∃ j : Nat, j ≤ l.length ∧ i = .int .i64 j ∧ (runTo itWr l N j).1 = 0 ∧ BC W w wr b H N.n (runTo itWr l N j).2) (fun i _ => l.length - (intOf i).toNat)
  case atStart => exact ⟨0, Nat.zero_le _, rfl, rfl, Hh.out.self⟩
  case round =>
    obtain ⟨j, hj, rfl, hz, hbc⟩ := hrel
    have Hz := Lib.hid hz
    have Hbc := Lib.hid hbc
    obtain ⟨Hj, aj, cj, nj⟩ := hbc
    have Haj := Lib.hid aj
    have Hcj := Lib.hid cj
    have Hnj := Lib.hid nj
    have Hrj := Lib.hid (Hr.out.chg cj fun _ _ e => e)
    clear hz aj cj nj
    by_cases hlt : j < l.length
    · have i0 : (0 : Int) ≤ (j : Int) := by omega
      have i1 : (j : Int) < (l.length : Int) := by omega
      obtain ⟨g, rfl, hg, hgf, hk⟩ := Hrj.out.2 (by omega)
      obtain ⟨D, cd, hrp, hcd, hrd, hof⟩ := hk j hlt
      have Hlen : Hid (∀ i, i < N.n → ((runTo itWr l N j).2.D i).ps.length ≤ 2000000) := fun i hi => by have h1 := Hp.out i hi; have h2 := ran_len (l := l) (N := N) i j; omega
      have Hdone : Hid ((runTo itWr l N j).2.done ≤ 2000000) := by show _ ≤ _; have h1 := Hd.out; have h2 := ran_done (l := l) (N := N) j; omega
      have Hnn : Hid ((runTo itWr l N j).2.n = N.n) := ran_n j
      have hx64 := H64.out j hlt
      have HP := Lib.hid (fun hq => runTo_pass (f := itWr) (l := l) (N := N) (i := j) Hz.out hq)
      have HG := Lib.hid (fun hq => runTo_goes (f := itWr) (l := l) (N := N) (i := j) Hz.out hq)
      have HST := Lib.hid (fun hq => runTo_stop (f := itWr) (l := l) (N := N) (i := j + 1) hq l.length (by omega))
      generalize itN l j = x at hrp hrd hx64 hcd hof HP HG
      have Hrp := Lib.hid hrp
      have b1 := below1 wr (.cells #[.int .i64 x.d, .int .i64 x.a, .slice D x.b.length cd] 43)
      have CW := Lib.hid (bp_write W _ b Hj _ (Haj.out.alloc (.cells #[.int .i64 x.d, .int .i64 x.a, .slice D x.b.length cd] 43)) x.d x.a x.b D x.b.length cd rfl hx64.d hx64.a ((hrd.below b1 (Nat.le_refl _)).more b1.size) (fun i hi => Hlen.out i (by rw [Hnn.out] at hi; exact hi)) Hdone.out)
      have HX : Hid (∀ w2 N2, BC W (wr.alloc (.cells #[.int .i64 x.d, .int .i64 x.a, .slice D x.b.length cd] 43)) w2 b Hj (runTo itWr l N j).2.n N2 → BC W w w2 b H N.n N2) := fun w2 N2 h2 => by
        rw [Hnn.out] at h2
        exact (BC.below b1 h2).seq Hcj.out Hnj.out
      clear hrp hk b1 hrd hof Hrj hgf
      have Hw : Hid (itWr (runTo itWr l N j).2 x = ((runTo itWr l N j).2.writeE x.d x.a x.b.length, (runTo itWr l N j).2.write x.d x.a x.b)) := rfl
      generalize (runTo itWr l N j).2.writeE x.d x.a x.b.length = e at CW Hw
      generalize (runTo itWr l N j).2.write x.d x.a x.b = Nx at CW Hw
      rw [Hw.out] at HP HG
      by_cases h5 : e = 5
      · have HP := Lib.hid (HP.out h5)
        rw [h5] at CW
        clear HG h5 Hw
        have CH5 := Lib.hid (fun V => hinders_any 5 V)
        rw [hind5] at CH5
        clear CH
        go_wp2_with (first
          | ((with_reducible refine (id ?_ : wpList _ _ _ (⟨some 16, _, _, _, _, _⟩ :: _) _ _)); refine wpList_load_mid rfl 43 _ (by rfl) g (j * 3) (by rfl) [.int .i64 x.d, .int .i64 x.a, .slice D x.b.length cd] _ Hrp.out Tryd.underlying43 rfl (by kernel_rfl) ?_)
          | (go_at_call 50; refine CW.out.mono ?_; rintro e w2 ⟨rfl, ht⟩; have Ht := Lib.hid (HX.out _ _ ht); clear ht)
          | (go_at_call 51; refine (CH5.out _).mono ?_; rintro e w3 ⟨rfl, rfl⟩))
        go_roundw
        case rel => exact ⟨j + 1, by omega, by go_num, by rw [HP.out], by rw [HP.out]; exact Ht.out⟩
        case measure => simp [intOf]; omega
      · have HG := Lib.hid (HG.out h5)
        clear HP
        by_cases h0 : e = 0
        · rw [h0] at CW HG
          have CH0 := Lib.hid (fun V => hinders_any 0 V)
          rw [hind0] at CH0
          clear h5 h0 CH Hw
          go_wp2_with (first
            | ((with_reducible refine (id ?_ : wpList _ _ _ (⟨some 16, _, _, _, _, _⟩ :: _) _ _)); refine wpList_load_mid rfl 43 _ (by rfl) g (j * 3) (by rfl) [.int .i64 x.d, .int .i64 x.a, .slice D x.b.length cd] _ Hrp.out Tryd.underlying43 rfl (by kernel_rfl) ?_)
            | (go_at_call 50; refine CW.out.mono ?_; rintro e w2 ⟨rfl, ht⟩; have Ht := Lib.hid (HX.out _ _ ht); clear ht)
            | (go_at_call 51; refine (CH0.out _).mono ?_; rintro e w3 ⟨rfl, rfl⟩))
          go_roundw
          case rel => exact ⟨j + 1, by omega, by go_num, by rw [HG.out], by rw [HG.out]; exact Ht.out⟩
          case measure => simp [intOf]; omega
        · have CHx := Lib.hid (fun V => hinders_any e V)
          rw [hindX h0 h5] at CHx
          have HE := Lib.hid (show settleS N l = (e, Nx) by
            have q1 := HST.out (by rw [HG.out]; exact h0)
            rw [HG.out] at q1
            have q2 := HW.out.trans q1
            rw [HS1.out (by rw [q2]; exact h0), q2])
          clear h5 h0 CH Hw HST HG
          go_wp2_with (first
            | ((with_reducible refine (id ?_ : wpList _ _ _ (⟨some 16, _, _, _, _, _⟩ :: _) _ _)); refine wpList_load_mid rfl 43 _ (by rfl) g (j * 3) (by rfl) [.int .i64 x.d, .int .i64 x.a, .slice D x.b.length cd] _ Hrp.out Tryd.underlying43 rfl (by kernel_rfl) ?_)
            | (go_at_call 50; refine CW.out.mono ?_; rintro e w2 ⟨rfl, ht⟩; have Ht := Lib.hid (HX.out _ _ ht); clear ht)
            | (go_at_call 51; refine (CHx.out _).mono ?_; rintro e w3 ⟨rfl, rfl⟩))
          go_ret
          exact ⟨by rw [HE.out]; rfl, by rw [HE.out]; exact Ht.out⟩
    · obtain rfl : j = l.length := by omega
      have HS := Lib.hid (HS2.out (by rw [HW.out]; exact Hz.out))
      rw [HW.out] at HS
      have HnW : Hid ((runTo itWr l N l.length).2.n = N.n) := ran_n _
      generalize (runTo itWr l N l.length).2 = M at HS HnW Haj Hbc
      clear HS1 HS2 HW Hz hlt Hp Hd
      obtain ⟨Hm, am, cm, nm⟩ := Hbc.out
      have Ham := Lib.hid am
      have Hcm := Lib.hid cm
      have Hnm := Lib.hid nm
      clear am cm nm Haj Hcj Hnj Hbc Hrj
      go_wp2
      go_loopw [31] (fun i wr => ∃ j : Nat, j ≤ l.length ∧ i = .int .i64 j ∧ (runTo itFl l M j).1 = 0 ∧ BC W w wr b H N.n (runTo itFl l M j).2) (fun i _ => l.length - (intOf i).toNat)
      case atStart => exact ⟨0, Nat.zero_le _, rfl, rfl, Hm, Ham.out, Hcm.out, Hnm.out⟩
      case round =>
        obtain ⟨j, hj, rfl, hz, hbc⟩ := hrel
        have Hz := Lib.hid hz
        have Hbc := Lib.hid hbc
        obtain ⟨Hj, aj, cj, nj⟩ := hbc
        have Haj := Lib.hid aj
        have Hcj := Lib.hid cj
        have Hnj := Lib.hid nj
        clear hz aj cj nj
        by_cases hlt : j < l.length
        · have i0 : (0 : Int) ≤ (j : Int) := by omega
          have i1 : (j : Int) < (l.length : Int) := by omega
          obtain ⟨g, rfl, hg, hgf, hk⟩ := Hr.out.2 (by omega)
          obtain ⟨D, cd, hrp, _⟩ := hk j hlt
          have Hrp := Lib.hid (rangeAt_keep (w' := wr) hrp fun k => World.cell?_of_block (a := ⟨g, k, none⟩) (Hcj.out.block g hg hgf))
          have Hnn : Hid ((runTo itFl l M j).2.n = N.n) := (ranF_n j).trans HnW.out
          have hx64 := H64.out j hlt
          have HP := Lib.hid (fun hq => runTo_pass (f := itFl) (l := l) (N := M) (i := j) Hz.out hq)
          have HG := Lib.hid (fun hq => runTo_goes (f := itFl) (l := l) (N := M) (i := j) Hz.out hq)
          have HST := Lib.hid (fun hq => runTo_stop (f := itFl) (l := l) (N := M) (i := j + 1) hq l.length (by omega))
          generalize itN l j = x at hrp Hrp hx64 HP HG
          have b1 := below1 wr (.cells #[.int .i64 x.d, .int .i64 x.a, .slice D x.b.length cd] 43)
          have CW := Lib.hid (bp_flush W _ b Hj _ (Haj.out.alloc (.cells #[.int .i64 x.d, .int .i64 x.a, .slice D x.b.length cd] 43)) x.d hx64.d)
          have HX : Hid (∀ w2 N2, BC W (wr.alloc (.cells #[.int .i64 x.d, .int .i64 x.a, .slice D x.b.length cd] 43)) w2 b Hj (runTo itFl l M j).2.n N2 → BC W w w2 b H N.n N2) := fun w2 N2 h2 => by
            rw [Hnn.out] at h2
            exact (BC.below b1 h2).seq Hcj.out Hnj.out
          clear hrp hk b1 hgf
          have Hw : Hid (itFl (runTo itFl l M j).2 x = ((runTo itFl l M j).2.flushE x.d, (runTo itFl l M j).2.flush x.d)) := rfl
          generalize (runTo itFl l M j).2.flushE x.d = e at CW Hw
          generalize (runTo itFl l M j).2.flush x.d = Nx at CW Hw
          rw [Hw.out] at HP HG
          by_cases h5 : e = 5
          · have HP := Lib.hid (HP.out h5)
            rw [h5] at CW
            clear HG h5 Hw
            have CH5 := Lib.hid (fun V => hinders_any 5 V)
            rw [hind5] at CH5
            clear CH
            go_wp2_with (first
              | ((with_reducible refine (id ?_ : wpList _ _ _ (⟨some 34, _, _, _, _, _⟩ :: _) _ _)); refine wpList_load_mid rfl 43 _ (by rfl) g (j * 3) (by rfl) [.int .i64 x.d, .int .i64 x.a, .slice D x.b.length cd] _ Hrp.out Tryd.underlying43 rfl (by kernel_rfl) ?_)
              | (go_at_call 52; refine CW.out.mono ?_; rintro e w2 ⟨rfl, ht⟩; have Ht := Lib.hid (HX.out _ _ ht); clear ht)
              | (go_at_call 51; refine (CH5.out _).mono ?_; rintro e w3 ⟨rfl, rfl⟩))
            go_roundw
            case rel => exact ⟨j + 1, by omega, by go_num, by rw [HP.out], by rw [HP.out]; exact Ht.out⟩
            case measure => simp [intOf]; omega
          · have HG := Lib.hid (HG.out h5)
            clear HP
            by_cases h0 : e = 0
            · rw [h0] at CW HG
              have CH0 := Lib.hid (fun V => hinders_any 0 V)
              rw [hind0] at CH0
              clear h5 h0 CH Hw
              go_wp2_with (first
                | ((with_reducible refine (id ?_ : wpList _ _ _ (⟨some 34, _, _, _, _, _⟩ :: _) _ _)); refine wpList_load_mid rfl 43 _ (by rfl) g (j * 3) (by rfl) [.int .i64 x.d, .int .i64 x.a, .slice D x.b.length cd] _ Hrp.out Tryd.underlying43 rfl (by kernel_rfl) ?_)
                | (go_at_call 52; refine CW.out.mono ?_; rintro e w2 ⟨rfl, ht⟩; have Ht := Lib.hid (HX.out _ _ ht); clear ht)
                | (go_at_call 51; refine (CH0.out _).mono ?_; rintro e w3 ⟨rfl, rfl⟩))
              go_roundw
              case rel => exact ⟨j + 1, by omega, by go_num, by rw [HG.out], by rw [HG.out]; exact Ht.out⟩
              case measure => simp [intOf]; omega
            · have CHx := Lib.hid (fun V => hinders_any e V)
              rw [hindX h0 h5] at CHx
              have HE := Lib.hid (show settleS N l = (e, Nx) by
                have q1 := HST.out (by rw [HG.out]; exact h0)
                rw [HG.out] at q1
                rw [HS.out, q1])
              clear h5 h0 CH Hw HST HG
              go_wp2_with (first
                | ((with_reducible refine (id ?_ : wpList _ _ _ (⟨some 34, _, _, _, _, _⟩ :: _) _ _)); refine wpList_load_mid rfl 43 _ (by rfl) g (j * 3) (by rfl) [.int .i64 x.d, .int .i64 x.a, .slice D x.b.length cd] _ Hrp.out Tryd.underlying43 rfl (by kernel_rfl) ?_)
                | (go_at_call 52; refine CW.out.mono ?_; rintro e w2 ⟨rfl, ht⟩; have Ht := Lib.hid (HX.out _ _ ht); clear ht)
                | (go_at_call 51; refine (CHx.out _).mono ?_; rintro e w3 ⟨rfl, rfl⟩))
              go_ret
              exact ⟨by rw [HE.out]; rfl, by rw [HE.out]; exact Ht.out⟩
        · obtain rfl : j = l.length := by omega
          have HE := Lib.hid (show settleS N l = (0, (runTo itFl l M l.length).2) by rw [HS.out]; exact Prod.ext Hz.out rfl)
          clear HS
          go_wp2
          go_ret
          exact ⟨by rw [HE.out]; rfl, by rw [HE.out]; exact Hbc.out⟩
end Go.Proofs.YtkbhnbkjpnigkaaDoor
end
section
set_option maxRecDepth 8000
set_option linter.unusedVariables false
set_option linter.unusedSimpArgs false
namespace Go.Proofs.YtkbhnbkjpnigkaaDoor
open Go.RowKit

/-- The answer's own box, and a row that takes four sectors: j of them are there. -/
structure RwD (w : World) (g : Nat) (rs : List (List UInt8)) (j : Nat) (V : World) : Prop where
  box : DcS w V
  gl : w.heap.size < g
  fz : ∀ k, V.frozen? ⟨g, k, none⟩ = false
  any : ∀ k, k < 4 → ∃ u, V.cell? ⟨g, k, none⟩ = some u
  has : ∀ k, k < j → ∃ a c, V.cell? ⟨g, k, none⟩ = some (.slice (some ⟨a, 0, none⟩) 32 c) ∧ 32 ≤ c ∧ a ≠ g ∧ RdB V V.heap.size (some ⟨a, 0, none⟩) (rs.getD k [])
section
variable {w V V' : World} {g j : Nat} {rs : List (List UInt8)}
theorem RwD.lt (h : RwD w g rs j V) : g < V.heap.size := by
  obtain ⟨u, hu⟩ := h.any 0 (by omega)
  exact World.block_lt_of_cell? _ _ hu
theorem RwD.below (h : RwD w g rs j V) (hb : Below V.heap.size V V') : RwD w g rs j V' :=
  ⟨h.box.below hb, h.gl, fun k => (hb.frozen (p := ⟨g, k, none⟩) h.lt).trans (h.fz k), fun k hk => by
    obtain ⟨u, hu⟩ := h.any k hk
    exact ⟨u, (hb.cell (p := ⟨g, k, none⟩) h.lt).trans hu⟩, fun k hk => by
    obtain ⟨a, c, h1, h2, h3, h4⟩ := h.has k hk
    exact ⟨a, c, (hb.cell (p := ⟨g, k, none⟩) h.lt).trans h1, h2, h3, (h4.below hb (Nat.le_refl _)).more hb.size⟩⟩
theorem RwD.start (w : World) (t : TypeId) (rs : List (List UInt8)) : RwD w (w.heap.size + 1) rs 0 ((w.alloc (.cells #[.int .i64 0, .slice none 0 0] t)).alloc (.cells (madeCells #[.slice none 0 0] 4) 41)) := by
  have hz : (w.alloc (.cells #[.int .i64 0, .slice none 0 0] t)).heap.size = w.heap.size + 1 := by simp
  refine ⟨(DcS.start w t).below (below1 _ _), Nat.lt_succ_self _, fun k => ?_, fun k hk => ?_, fun k hk => by omega⟩
  · have := World.frozen?_alloc_new (w.alloc (.cells #[.int .i64 0, .slice none 0 0] t)) (madeCells #[.slice none 0 0] 4) 41 k
    rwa [hz] at this
  · refine ⟨.slice none 0 0, ?_⟩
    have := cell_of_row _ _ k _ _ _ (heap_alloc_new (w.alloc (.cells #[.int .i64 0, .slice none 0 0] t)) (.cells (madeCells #[.slice none 0 0] 4) 41))
    rw [hz] at this
    rw [this, ← Array.getElem?_toList, toList_madeCells_one, List.getElem?_replicate, if_pos hk]
theorem RwD.put (h : RwD w g rs j V) (hj : j < 4) {a c : Nat} (hc : 32 ≤ c) (ha : a ≠ g) (hr : RdB V V.heap.size (some ⟨a, 0, none⟩) (rs.getD j [])) : RwD w g rs (j + 1) (V.setCell ⟨g, j, none⟩ (.slice (some ⟨a, 0, none⟩) 32 c)) := by
  have hgr : V.grownBy (V.setCell ⟨g, j, none⟩ (.slice (some ⟨a, 0, none⟩) 32 c)) (some g) := ⟨rfl, rfl, rfl, by simp, fun k _ hne => Below.heap_setCell V _ _ k (fun e => hne (by rw [e]))⟩
  have hlt := h.box.plt
  have hne : ∀ i, some (⟨w.heap.size, i, none⟩ : Addr).block ≠ some g := fun i e => by injection e with e; have h1 : w.heap.size = g := e; have := h.gl; omega
  have hkeep : ∀ a' (b : List UInt8), a' ≠ g → RdB V V.heap.size (some ⟨a', 0, none⟩) b → RdB (V.setCell ⟨g, j, none⟩ (.slice (some ⟨a, 0, none⟩) 32 c)) (V.setCell ⟨g, j, none⟩ (.slice (some ⟨a, 0, none⟩) 32 c)).heap.size (some ⟨a', 0, none⟩) b := fun a' b hn hb =>
    ⟨hb.1, fun h0 => by
      obtain ⟨b', off, e, hbl, hk⟩ := hb.2 h0
      injection e with e
      injection e with e1 e2 _
      subst e1 e2
      exact ⟨a', 0, rfl, by simpa using hbl, fun k hk' => (hgr.cell_far ⟨a', 0 + k, none⟩ hbl (fun e => hn (by injection e))).trans (hk k hk')⟩⟩
  refine ⟨⟨h.box.1.setCell (p := ⟨g, j, none⟩) (by show w.heap.size ≤ g; have := h.gl; omega) _, (hgr.cell_far _ hlt (hne 0)).trans h.box.2.1, (hgr.cell_far _ hlt (hne 1)).trans h.box.2.2.1, fun i => by rw [World.frozen?_setCell]; exact h.box.2.2.2 i⟩, h.gl, fun k => by rw [World.frozen?_setCell]; exact h.fz k, fun k hk => ?_, fun k hk => ?_⟩
  · obtain ⟨u, hu⟩ := h.any k hk
    by_cases e : k = j
    · subst e; exact ⟨_, World.cell?_setCell_same _ _ _ hu⟩
    · exact ⟨u, (World.cell?_setCell_other _ _ _ _ (by intro q; injection q with _ q; exact e q.symm)).trans hu⟩
  · by_cases e : k = j
    · subst e
      obtain ⟨u, hu⟩ := h.any k hj
      exact ⟨a, c, World.cell?_setCell_same _ _ _ hu, hc, ha, hkeep a _ ha hr⟩
    · obtain ⟨a', c', h1, h2, h3, h4⟩ := h.has k (by omega)
      exact ⟨a', c', (World.cell?_setCell_other _ _ _ _ (by intro q; injection q with _ q; exact e q.symm)).trans h1, h2, h3, hkeep a' _ h3 h4⟩
theorem RwD.rdc (h : RwD w g rs 4 V) (hl : rs.length = 4) (h32 : ∀ k, k < 4 → (rs.getD k []).length = 32) : RdC V V.heap.size (some ⟨g, 0, none⟩) rs :=
  ⟨by omega, fun _ => ⟨g, 0, rfl, h.lt, fun k hk => by
    obtain ⟨a, c, h1, h2, _, h4⟩ := h.has k (by omega)
    exact ⟨_, c, by rw [Nat.zero_add, h32 k (by omega)]; exact h1, by rw [h32 k (by omega)]; exact h2, h4⟩⟩⟩
end
theorem logR_len (D : Dsk) : (logR D).length = 4 := by simp [logR]
theorem logR_get (D : Dsk) {k : Nat} (hk : k < 4) : (logR D).getD k [] = secAt D.now (2 + k) := by simp [logR, hk]
theorem read_gone {N : Bch} {d : Nat} (hd : d < N.n) (h : goneD N d = true) (k : Int) : N.readE (d : Int) k = 6 ∨ N.readE (d : Int) k = 5 := by
  have hpk : N.pickE (d : Int) = 0 := Bch.pickE_ok (by omega) (by omega)
  cases hdn : N.down with
  | true => exact .inl (by rw [(Bch.readE_pow k (by rw [Bch.powE_down hpk hdn]; decide)).1, Bch.powE_down hpk hdn])
  | false =>
    have hf : (N.D d).f = true := by unfold goneD at h; rw [hdn] at h; simpa using h
    exact .inr (by rw [(Bch.readE_dsk k (Bch.powE_ok hpk hdn)).1, show (N.at_ (d : Int)).f = true from hf]; exact reachE_fail _)
theorem gone_not {N : Bch} {d : Nat} (h : goneD N d = false) : N.down = false ∧ (N.D d).f = false := by
  unfold goneD at h; simpa using h
set_option maxHeartbeats 4000000 in
theorem onDiskL_any (B b : Nat) (H : BH) (N : Bch) (w : World) (h : BAt w B b H N) (d : Nat) (hd : d < N.n) (ht : TabOk w) :
    Calls Tryd.prog 36 #[ptr b, .int .i64 (d : Int)] w fun e w' => ∃ v, e = .returned (.tuple #[.agg #[.int .i64 (onS N d), v], .bool (onB N d)]) ∧ OwIt 43 w' w.heap.size w.heap.size v (onL N d) ∧ Below w.heap.size w w' := by
  have hmk := make_four
  have Ht := Lib.hid ht
  have Htp := ht.pos
  have hn8 := h.ok.n
  have CR := Lib.hid (fun W (hb : Below w.heap.size w W) (k : Nat) (hk : k < 52) => bch_read_any B b H N W (h.below hb) (d : Int) (k : Int) ⟨by omega, by omega⟩ ⟨by omega, by omega⟩)
  have HR0 := Lib.hid (RwD.start w 29 (logR (N.D d)))
  have HLn : Hid (∀ k, k < 4 → ((logR (N.D d)).getD k []).length = 32) := fun k hk => by
    rw [logR_get _ hk]; exact secAt_len (by rw [(h.dsk d hd).ok.now]; omega)
  clear h ht
  unfold ptr at CR ⊢
  cases hg : goneD N d with
  | true =>
    have HE := Lib.hid (show onS N d = 0 ∧ onB N d = false ∧ onL N d = [] from ⟨if_pos hg, if_pos hg, if_pos hg⟩)
    have C0 := CR.out _ HR0.out.box.1 2 (by omega)
    have hE : ∃ E, N.readE (d : Int) ((2 : Nat) : Int) = E ∧ (E != 0) = true := by
      rcases read_gone hd hg ((2 : Nat) : Int) with e | e <;> exact ⟨_, e, rfl⟩
    obtain ⟨E, hE, hne⟩ := hE
    rw [hE] at C0
    have C0 := Lib.hid C0
    clear CR hE hg
    go_enter Tryd.func36, Tryd.ntmps36
    go_wp2
    generalize hW0 : (w.alloc (.cells #[.int .i64 0, .slice none 0 0] 29)).alloc (.cells (madeCells #[.slice none 0 0] 4) 41) = W0 at HR0 C0
    go_loopw [15] (fun i wr => i = .int .i64 0 ∧ wr = W0) (fun _ _ => 0)
    case atStart => exact ⟨rfl, rfl⟩
    case round =>
      obtain ⟨rfl, rfl⟩ := hrel
      go_wp2_with fail
      refine C0.out.mono ?_
      rintro e w1 ⟨v, rfl, _, hb1⟩
      have S1 := (HR0.out.below hb1).box
      obtain ⟨p0, p1, pb, _⟩ := S1.put 0 (.slice none 0 0)
      obtain ⟨q0, q1, q2, q3⟩ := S1
      obtain ⟨q4, q5⟩ := And.intro (q3 0) (q3 1)
      clear hb1 HR0 C0
      go_wp2
      refine bodyPost_ret (v := .tuple #[.agg #[.int .i64 0, .slice none 0 0], .bool false]) (by simp [results, Tryd.results36, go_sem, p0, p1]) rfl ⟨_, by rw [HE.out.1, HE.out.2.1], by rw [HE.out.2.2]; exact OwIt.nil _ _ _ _, pb⟩
  | false =>
    obtain ⟨hdn, hf⟩ := gone_not hg
    have HE := Lib.hid (show onS N d = rcS (logR (N.D d)) ∧ onB N d = rcO (logR (N.D d)) ∧ onL N d = rcL (logR (N.D d)) from ⟨if_neg (by simp [hg]), if_neg (by simp [hg]), if_neg (by simp [hg])⟩)
    have CR := Lib.hid (fun W (hb : Below w.heap.size w W) (k : Nat) (hk : k < 4) => by
      have h := CR.out W hb (2 + k) (by omega)
      rw [(Bch.read_ok (N := N) (d := d) (k := 2 + k) hd (by omega) hf hdn).1, (Bch.read_ok (N := N) (d := d) (k := 2 + k) hd (by omega) hf hdn).2, ← logR_get (N.D d) hk] at h
      exact h)
    have hl4 := logR_len (N.D d)
    have HL4 := Lib.hid hl4
    clear hdn hf hg hl4
    generalize logR (N.D d) = rs at *
    go_enter Tryd.func36, Tryd.ntmps36
    go_wp2
    generalize hW0 : (w.alloc (.cells #[.int .i64 0, .slice none 0 0] 29)).alloc (.cells (madeCells #[.slice none 0 0] 4) 41) = W0 at HR0
    have hmk := True.intro
    go_loopw [15] (fun i wr => ∃ j : Nat, j ≤ 4 ∧ i = .int .i64 j ∧ RwD w (w.heap.size + 1) rs j wr) (fun i _ => 4 - (intOf i).toNat)
    case atStart => exact ⟨0, by omega, rfl, HR0.out⟩
    case round =>
      obtain ⟨j, hj, rfl, hrw⟩ := hrel
      have Hrw := Lib.hid hrw
      clear hrw
      by_cases hlt : j < 4
      · have i0 : (0 : Int) ≤ (j : Int) := by omega
        have i1 : (j : Int) < 4 := by omega
        have q2 : IntKind.i64.wrap (2 + (j : Int)) = ((2 + j : Nat) : Int) := by rw [IntKind.wrap_i64]; omega
        have CRj := Lib.hid (CR.out wr Hrw.out.box.1 j hlt)
        have hl32 := HLn.out j hlt
        go_wp2_with fail
        refine CRj.out.mono ?_
        rintro e w1 ⟨v, rfl, ho, hb1⟩
        obtain ⟨g1, cp1, rfl, hg1, hgl, hcp, _, hr1⟩ := ho.pos (by rw [hl32]; omega)
        rw [hl32] at hcp ⊢
        have hR1 := Hrw.out.below hb1
        have hR2 := Lib.hid (hR1.put hlt (a := g1) (c := cp1) hcp (by have := Hrw.out.lt; omega) hr1)
        obtain ⟨u0, cu⟩ := hR1.any j hlt
        have cf := hR1.fz j
        clear ho hb1 hR1 hr1 CRj hl32 hg1 hgl
        go_wp2
        go_roundw
        case rel => exact ⟨j + 1, by omega, by go_num, hR2.out⟩
        case measure => simp [intOf]; omega
      · obtain rfl : j = 4 := by omega
        have CD := Lib.hid (decode_any (some ⟨w.heap.size + 1, 0, none⟩) 4 4 rs wr HL4.out (Nat.le_refl _) (Hrw.out.rdc HL4.out HLn.out) (Ht.out.below Hrw.out.box.1 Htp))
        have HB := Lib.hid Hrw.out.box
        have Hz := Lib.hid Hrw.out.box.plt
        have HcE : Hid (rcE rs = if rcO rs = true then 0 else 2) := rfl
        clear hj hlt hmk CR HR0 hW0
        go_wp2_with fail
        refine CD.out.mono ?_
        rintro e w2 ⟨v, rfl, ho, hb2⟩
        have S2 := Lib.hid (HB.out.below hb2)
        replace ho := ho.le (B' := w.heap.size + 1) (lo' := w.heap.size + 1) Hz.out Hz.out
        clear hb2 CD HB
        obtain ⟨A3, c3, rfl, hLc, _⟩ := ho.rd
        obtain ⟨e1, e2, e3⟩ := HE.out
        generalize rcS rs = y at *
        generalize rcL rs = L at *
        have B3 := below1 w2 (.cells #[.int .i64 y, .slice A3 L.length c3] 29)
        have S3 := S2.out.below B3
        have O3 := ho.below B3
        have k3 := fun i => cell_of_row _ _ i _ _ _ (heap_alloc_new w2 (.cells #[.int .i64 y, .slice A3 L.length c3] 29))
        obtain ⟨k0, k1⟩ := And.intro (k3 0) (k3 1)
        obtain ⟨p0, p1, pb, po⟩ := S3.put y (.slice A3 L.length c3)
        obtain ⟨q0, q1, q2, q3⟩ := S3
        obtain ⟨q4, q5⟩ := And.intro (q3 0) (q3 1)
        have Hpo := Lib.hid (po L O3)
        have Hpb := Lib.hid pb
        clear HE B3 k3 po O3 ho S2 q3 q0 pb
        cases hx : rcO rs with
        | true =>
          rw [hx] at HcE e2
          have hcE : rcE rs = 0 := HcE.out
          clear hx HcE
          rw [hcE]
          go_wp2
          refine bodyPost_ret (v := .tuple #[.agg #[.int .i64 y, .slice A3 L.length c3], .bool true]) (by simp [results, Tryd.results36, go_sem, p0, p1]) rfl ⟨_, by rw [e1, e2], by rw [e3]; exact Hpo.out, Hpb.out⟩
        | false =>
          rw [hx] at HcE e2
          have hcE : rcE rs = 2 := HcE.out
          clear hx HcE
          rw [hcE]
          go_wp2
          refine bodyPost_ret (v := .tuple #[.agg #[.int .i64 y, .slice A3 L.length c3], .bool false]) (by simp [results, Tryd.results36, go_sem, p0, p1]) rfl ⟨_, by rw [e1, e2], by rw [e3]; exact Hpo.out, Hpb.out⟩
end Go.Proofs.YtkbhnbkjpnigkaaDoor
end
