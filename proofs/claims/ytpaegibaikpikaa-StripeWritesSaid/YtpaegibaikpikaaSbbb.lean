/- Texts put together: RdX, EachFl. -/
import Derived.Test.YtpaegibaikpikaaSbay
import Derived.Test.YtpaegibaikpikaaSbam
import Derived.Test.YtpaegibaikpikaaSbas
section
set_option linter.unusedVariables false
set_option linter.unusedSimpArgs false
namespace Go.Proofs.Ytpaegibaikpikaa
open Go.RowKit

def RdBX (F : Nat → Prop) (w : World) (A : Option Addr) (bs : List UInt8) : Prop :=
  bs.length ≤ 140737488355328 ∧ (0 < bs.length → ∃ b off, A = some ⟨b, off, none⟩ ∧ b < w.heap.size ∧ ¬ F b ∧ ∀ k, k < bs.length → w.cell? ⟨b, off + k, none⟩ = some (.int .u8 ((bs.getD k 0).toNat : Int)))
def RdRX (F : Nat → Prop) (w : World) (A : Option Addr) (rs : List (List UInt8)) : Prop :=
  rs.length ≤ 140737488355328 ∧ (0 < rs.length → ∃ b off, A = some ⟨b, off, none⟩ ∧ b < w.heap.size ∧ ¬ F b ∧ ∀ k, k < rs.length → ∃ A' c, w.cell? ⟨b, off + k, none⟩ = some (.slice A' (rs.getD k []).length c) ∧ RdBX F w A' (rs.getD k []))
section
variable {F F' : Nat → Prop} {w w' : World} {A : Option Addr} {bs : List UInt8} {rs : List (List UInt8)}
theorem RdBX.rdb (h : RdBX F w A bs) : RdB w w.heap.size A bs :=
  ⟨h.1, fun h0 => by
    obtain ⟨b, off, e, hb, _, hc⟩ := h.2 h0
    exact ⟨b, off, e, hb, hc⟩⟩
theorem RdRX.rdr (h : RdRX F w A rs) : RdR w w.heap.size A rs :=
  ⟨h.1, fun h0 => by
    obtain ⟨b, off, e, hb, _, hc⟩ := h.2 h0
    refine ⟨b, off, e, hb, fun k hk => ?_⟩
    obtain ⟨A', c, h1, h2⟩ := hc k hk
    exact ⟨A', c, h1, h2.rdb⟩⟩
theorem RdBX.keep (h : RdBX F w A bs) (hz : w.heap.size ≤ w'.heap.size) (hk : ∀ p : Addr, ¬ F p.block → p.block < w.heap.size → w'.cell? p = w.cell? p) (hF : ∀ k, k < w.heap.size → F' k → F k) : RdBX F' w' A bs :=
  ⟨h.1, fun h0 => by
    obtain ⟨b, off, e, hb, hl, hc⟩ := h.2 h0
    exact ⟨b, off, e, by omega, fun q => hl (hF b hb q), fun k hk' => (hk ⟨b, off + k, none⟩ hl hb).trans (hc k hk')⟩⟩
theorem RdRX.keep (h : RdRX F w A rs) (hz : w.heap.size ≤ w'.heap.size) (hk : ∀ p : Addr, ¬ F p.block → p.block < w.heap.size → w'.cell? p = w.cell? p) (hF : ∀ k, k < w.heap.size → F' k → F k) : RdRX F' w' A rs :=
  ⟨h.1, fun h0 => by
    obtain ⟨b, off, e, hb, hl, hc⟩ := h.2 h0
    refine ⟨b, off, e, by omega, fun q => hl (hF b hb q), fun k hk' => ?_⟩
    obtain ⟨A', c, h1, h2⟩ := hc k hk'
    exact ⟨A', c, (hk ⟨b, off + k, none⟩ hl hb).trans h1, h2.keep hz hk hF⟩⟩
theorem RdBX.below (h : RdBX F w A bs) (hb : Below w.heap.size w w') : RdBX F w' A bs := h.keep hb.size (fun _ _ hp => hb.cell hp) fun _ _ q => q
theorem RdRX.below (h : RdRX F w A rs) (hb : Below w.heap.size w w') : RdRX F w' A rs := h.keep hb.size (fun _ _ hp => hb.cell hp) fun _ _ q => q
theorem RdBX.weak (h : RdBX F w A bs) (hF : ∀ k, k < w.heap.size → F' k → F k) : RdBX F' w A bs := h.keep (Nat.le_refl _) (fun _ _ _ => rfl) hF
theorem RdRX.weak (h : RdRX F w A rs) (hF : ∀ k, k < w.heap.size → F' k → F k) : RdRX F' w A rs := h.keep (Nat.le_refl _) (fun _ _ _ => rfl) hF
theorem chg_cell {F : Nat → Prop} {w w' : World} (hc : Chg F w w') (p : Addr) (hF : ¬ F p.block) (hp : p.block < w.heap.size) : w'.cell? p = w.cell? p := World.cell?_of_block (hc.block p.block hp hF)
theorem RdBX.chg (h : RdBX F w A bs) (hc : Chg F w w') (hF : ∀ k, k < w.heap.size → F' k → F k) : RdBX F' w' A bs := h.keep hc.size (fun p q hp => chg_cell hc p q hp) hF
theorem RdRX.chg (h : RdRX F w A rs) (hc : Chg F w w') (hF : ∀ k, k < w.heap.size → F' k → F k) : RdRX F' w' A rs := h.keep hc.size (fun p q hp => chg_cell hc p q hp) hF
theorem RdBF.rdbx {lo : Nat} (h : RdBF lo w A bs) (hF : ∀ k, k < w.heap.size → lo ≤ k → ¬ F k) : RdBX F w A bs :=
  ⟨h.1, fun h0 => by
    obtain ⟨b, off, e, hb, hl, hc⟩ := h.2 h0
    exact ⟨b, off, e, hb, hF b hb hl, hc⟩⟩
theorem RdF.rdrx {lo : Nat} (h : RdF lo w A rs) (hF : ∀ k, k < w.heap.size → lo ≤ k → ¬ F k) : RdRX F w A rs :=
  ⟨h.1, fun h0 => by
    obtain ⟨b, off, e, hb, hl, hc⟩ := h.2 h0
    refine ⟨b, off, e, hb, hF b hb hl, fun k hk => ?_⟩
    obtain ⟨A', c, h1, h2⟩ := hc k hk
    exact ⟨A', c, h1, h2.rdbx hF⟩⟩
theorem RdRX.at (h : RdRX F w A rs) {k : Nat} (hk : k < rs.length) : ∃ b off A' c, A = some ⟨b, off, none⟩ ∧ w.cell? ⟨b, off + k, none⟩ = some (.slice A' (rs.getD k []).length c) ∧ RdBX F w A' (rs.getD k []) := by
  obtain ⟨b, off, e, _, _, hc⟩ := h.2 (by omega)
  obtain ⟨A', c, h1, h2⟩ := hc k hk
  exact ⟨b, off, A', c, e, h1, h2⟩
end
/-- What a call on a bench leaves of rows that are none of its own. -/
theorem bnew_weak {w : World} {b n : Nat} {H H' : BH} (hm : BNew w b H H' n) : ∀ k, k < w.heap.size → BF b H' n k → BF b H n k := fun k hk e => by
  rcases hm k e with h | h
  · exact h
  · omega
/-- Yes and no, read, and none of a bench's. -/
def RdOX (F : Nat → Prop) (w : World) (A : Option Addr) (lv : List Bool) : Prop :=
  lv.length ≤ 9223372036854775807 ∧ (0 < lv.length → ∃ b off, A = some ⟨b, off, none⟩ ∧ b < w.heap.size ∧ ¬ F b ∧ ∀ k, k < lv.length → w.cell? ⟨b, off + k, none⟩ = some (.bool (lv.getD k false)))
section
variable {F F' : Nat → Prop} {w w' : World} {A : Option Addr} {lv : List Bool}
theorem RdOX.rdo (h : RdOX F w A lv) : RdO w w.heap.size A lv :=
  ⟨h.1, fun h0 => by
    obtain ⟨b, off, e, hb, _, hc⟩ := h.2 h0
    exact ⟨b, off, e, hb, hc⟩⟩
theorem RdOX.keep (h : RdOX F w A lv) (hz : w.heap.size ≤ w'.heap.size) (hk : ∀ p : Addr, ¬ F p.block → p.block < w.heap.size → w'.cell? p = w.cell? p) (hF : ∀ k, k < w.heap.size → F' k → F k) : RdOX F' w' A lv :=
  ⟨h.1, fun h0 => by
    obtain ⟨b, off, e, hb, hl, hc⟩ := h.2 h0
    exact ⟨b, off, e, by omega, fun q => hl (hF b hb q), fun k hk' => (hk ⟨b, off + k, none⟩ hl hb).trans (hc k hk')⟩⟩
theorem RdOX.below (h : RdOX F w A lv) (hb : Below w.heap.size w w') : RdOX F w' A lv := h.keep hb.size (fun _ _ hp => hb.cell hp) fun _ _ q => q
theorem RdOX.chg (h : RdOX F w A lv) (hc : Chg F w w') (hF : ∀ k, k < w.heap.size → F' k → F k) : RdOX F' w' A lv := h.keep hc.size (fun p q hp => chg_cell hc p q hp) hF
theorem RdO.rdox {B : Nat} (h : RdO w B A lv) (hB : B ≤ w.heap.size) (hF : ∀ k, k < B → ¬ F k) : RdOX F w A lv :=
  ⟨h.1, fun h0 => by
    obtain ⟨b, off, e, hb, hc⟩ := h.2 h0
    exact ⟨b, off, e, by omega, hF b hb, hc⟩⟩
end
end Go.Proofs.Ytpaegibaikpikaa
end
section
set_option maxRecDepth 20000
set_option linter.unusedVariables false
set_option linter.unusedSimpArgs false
namespace Go.Proofs.Ytpaegibaikpikaa
open Go.RowKit

/-- Disks past the end of live are not asked. -/
theorem onTo_min (f : Bch → Nat → Int × Bch) (lv : List Bool) (N : Bch) : ∀ n, onTo f lv N n = onTo f lv N (min n lv.length)
  | 0 => by rw [Nat.zero_min]
  | n + 1 => by
    by_cases h : n + 1 ≤ lv.length
    · rw [Nat.min_eq_left h]
    · have ih := onTo_min f lv N n
      rw [Nat.min_eq_right (by omega)] at ih ⊢
      rw [← ih]
      by_cases h0 : (onTo f lv N n).1 = 0
      · exact onTo_skip h0 (by rw [List.getD_eq_getElem?_getD, List.getElem?_eq_none (by omega)]; rfl)
      · exact onTo_stop h0 _ (by omega)
set_option maxHeartbeats 4000000 in
theorem eachFl_any (W w : World) (b : Nat) (H : BH) (N : Bch) (h : BP W w b H N) (lv : List Bool) (A : Option Addr) (m cp : Nat) (hm : m = lv.length) (hv : RdOX (BF b H N.n) w A lv) :
    Calls Try.prog 44 #[.pointer (some ⟨b, 0, none⟩), .slice A m cp, .func (.func 45) #[.pointer (some ⟨b, 0, none⟩)] #[]] w fun e w' => e = .returned (.int .i64 (onTo flF lv N N.n).1) ∧ BC W w w' b H N.n (onTo flF lv N N.n).2 := by
  subst hm
  have Hh := Lib.hid h
  have hn8 := h.at'.ok.n
  have CL := Lib.hid (bp_len W w b H N h)
  have Hv := Lib.hid hv
  obtain ⟨rr, hrr⟩ : ∃ rr, onTo flF lv N N.n = rr := ⟨_, rfl⟩
  rw [hrr]
  have Hall := Lib.hid hrr.symm
  clear hrr
  have CV := Lib.hid (fun (W1 : World) (H1 : BH) (N1 : Bch) (hp : BP W W1 b H1 N1) (hv1 : RdOX (BF b H1 N.n) W1 A lv) (j : Nat) (hj : j ≤ 1000000) => alvIs_any W.heap.size b H1 N1 W1 hp.at' lv A lv.length cp rfl hv1.rdo (j : Int) (by omega) (by omega))
  clear h hv
  obtain ⟨n0, hn0⟩ : ∃ n0, N.n = n0 := ⟨_, rfl⟩
  rw [hn0] at CL Hall hn8
  have Hn0 := Lib.hid hn0
  clear hn0
  go_enter Try.func44, Try.ntmps44
  go_wp2_with fail
  (with_reducible refine CL.out.mono ?_); rintro e w1 ⟨rfl, rfl⟩
  go_wp2
  go_loopw [11] (fun i wr => ∃ j : Nat, j ≤ n0 ∧ i = .int .i64 j ∧ (onTo flF lv N j).1 = 0 ∧ BC W w1 wr b H N.n (onTo flF lv N j).2) (fun i _ => n0 - (intOf i).toNat)
  case atStart => exact ⟨0, Nat.zero_le _, rfl, rfl, Hh.out.self⟩
  case round =>
    obtain ⟨j, hj, rfl, hz, hbc⟩ := hrel
    have Hz := Lib.hid hz
    have Hbc := Lib.hid hbc
    obtain ⟨Hj, aj, cj, nj⟩ := hbc
    have Haj := Lib.hid aj
    have Hcj := Lib.hid cj
    have Hnj := Lib.hid nj
    clear hz aj cj nj
    by_cases hlt : j < n0
    · have i0 : (0 : Int) ≤ (j : Int) := by omega
      have i1 : (j : Int) < (n0 : Int) := by omega
      have Hnn : Hid ((onTo flF lv N j).2.n = N.n) := flushed_n j
      have CL1 := Lib.hid (CV.out wr Hj _ Haj.out (Hv.out.chg Hcj.out (bnew_weak Hnj.out)) j (by omega))
      have HLv := Lib.hid (show alvD (onTo flF lv N j).2.n lv (j : Int) = lv.getD j false by rw [alvD_nat, Hnn.out, Hn0.out, decide_eq_true hlt]; rfl)
      rw [HLv.out] at CL1
      cases hb : lv.getD j false with
      | false =>
        rw [hb] at CL1
        have HS := Lib.hid (onTo_skip Hz.out hb)
        clear hb CL CV HLv
        go_wp2_with (go_at_call 72; (with_reducible refine CL1.out.mono ?_); rintro e w2 ⟨rfl, h2⟩; obtain rfl : wr = w2 := h2.symm)
        go_roundw
        case rel => exact ⟨j + 1, by omega, by go_num, by rw [HS.out]; exact Hz.out, by rw [HS.out]; exact Hbc.out⟩
        case measure => simp [intOf]; omega
      | true =>
        rw [hb] at CL1
        have CF := Lib.hid (show Calls Try.prog 45 #[.pointer (some ⟨b, 0, none⟩), .int .i64 (j : Int)] wr fun e w' => e = .returned (.int .i64 (flF (onTo flF lv N j).2 j).1) ∧ BC W wr w' b Hj (onTo flF lv N j).2.n (flF (onTo flF lv N j).2 j).2 from bp_flush W wr b Hj _ Haj.out (j : Int) (i64n (by omega)))
        have HX : Hid (∀ w2, BC W wr w2 b Hj (onTo flF lv N j).2.n (flF (onTo flF lv N j).2 j).2 → BC W w1 w2 b H N.n (flF (onTo flF lv N j).2 j).2) := fun w2 h2 => by
          rw [Hnn.out] at h2
          exact h2.seq Hcj.out Hnj.out
        have HG := Lib.hid (fun hq => onTo_goes (f := flF) Hz.out hb hq)
        have HP := Lib.hid (fun hq => onTo_pass (f := flF) Hz.out hb hq)
        clear hb CL CV HLv
        generalize flF (onTo flF lv N j).2 j = r at CF HX HG HP
        obtain ⟨e, Nx⟩ := r
        by_cases h5 : e = 5
        · have HP := Lib.hid (HP.out h5)
          clear HG
          rw [h5] at CF
          clear h5
          go_wp2_with (first | (go_at_call 72; (with_reducible refine CL1.out.mono ?_); rintro e w2 ⟨rfl, h2⟩; obtain rfl : wr = w2 := h2.symm) | (go_at_call 45; (with_reducible refine CF.out.mono ?_); rintro e w3 ⟨rfl, ht⟩; have Ht := Lib.hid (HX.out _ ht); clear ht))
          go_roundw
          case rel => exact ⟨j + 1, by omega, by go_num, by rw [HP.out], by rw [HP.out]; exact Ht.out⟩
          case measure => simp [intOf]; omega
        · have HG := Lib.hid (HG.out h5)
          clear HP
          by_cases h0 : e = 0
          · rw [h0] at CF HG
            clear h5 h0
            go_wp2_with (first | (go_at_call 72; (with_reducible refine CL1.out.mono ?_); rintro e w2 ⟨rfl, h2⟩; obtain rfl : wr = w2 := h2.symm) | (go_at_call 45; (with_reducible refine CF.out.mono ?_); rintro e w3 ⟨rfl, ht⟩; have Ht := Lib.hid (HX.out _ ht); clear ht))
            go_roundw
            case rel => exact ⟨j + 1, by omega, by go_num, by rw [HG.out], by rw [HG.out]; exact Ht.out⟩
            case measure => simp [intOf]; omega
          · have n5 : (e != 5) = true := by rw [bne_iff_ne]; exact h5
            have n0' : (e != 0) = true := by rw [bne_iff_ne]; exact h0
            have HS := Lib.hid (onTo_stop (f := flF) (lv := lv) (N := N) (i := j + 1) (by rw [HG.out]; exact h0) n0 (by omega))
            clear h5 h0
            go_wp2_with (first | (go_at_call 72; (with_reducible refine CL1.out.mono ?_); rintro e w2 ⟨rfl, h2⟩; obtain rfl : wr = w2 := h2.symm) | (go_at_call 45; (with_reducible refine CF.out.mono ?_); rintro e w3 ⟨rfl, ht⟩; have Ht := Lib.hid (HX.out _ ht); clear ht))
            go_ret
            exact ⟨by rw [Hall.out, HS.out, HG.out]; rfl, by rw [Hall.out, HS.out, HG.out]; exact Ht.out⟩
    · obtain rfl : j = n0 := by omega
      go_wp2
      go_ret
      exact ⟨by rw [Hall.out, Hz.out]; rfl, by rw [Hall.out]; exact Hbc.out⟩
end Go.Proofs.Ytpaegibaikpikaa
end
