/- Texts put together: RdX, StpFlush, StpWrite, GeoCap, PlaceOf, PlaceNums, StpOne. -/
import Derived.Test.YtadfimimkkimmaaSaaam
import Derived.Test.YtadfimimkkimmaaSaaac
import Derived.Test.YtadfimimkkimmaaSaaae
section
set_option linter.unusedVariables false
set_option linter.unusedSimpArgs false
namespace Go.Proofs.Ytadfimimkkimmaa
open Go.RowKit

def RdBX (F : Nat → Prop) (w : World) (A : Option Addr) (bs : List UInt8) : Prop :=
  bs.length ≤ 140737488355328 ∧ (0 < bs.length → ∃ b off, A = some ⟨b, off, none⟩ ∧ b < w.heap.size ∧ ¬ F b ∧ ∀ k, k < bs.length → w.cell? ⟨b, off + k, none⟩ = some (.int .u8 ((bs.getD k 0).toNat : Int)))
def RdRX (F : Nat → Prop) (w : World) (A : Option Addr) (rs : List (List UInt8)) : Prop :=
  rs.length ≤ 140737488355328 ∧ (0 < rs.length → ∃ b off, A = some ⟨b, off, none⟩ ∧ b < w.heap.size ∧ ¬ F b ∧ ∀ k, k < rs.length → ∃ A' c, w.cell? ⟨b, off + k, none⟩ = some (.slice A' (rs.getD k []).length c) ∧ RdBX F w A' (rs.getD k []))
section
variable {F F' : Nat → Prop} {w w' : World} {A : Option Addr} {bs : List UInt8} {rs : List (List UInt8)}
theorem RdBX.rdb (h : RdBX F w A bs) : RdB w w.heap.size A bs :=
  ⟨h.1, fun h0 => by
    obtain ⟨b, off, e, hb, _, hc⟩ := h.2 h0
    exact ⟨b, off, e, hb, hc⟩⟩
theorem RdRX.rdr (h : RdRX F w A rs) : RdR w w.heap.size A rs :=
  ⟨h.1, fun h0 => by
    obtain ⟨b, off, e, hb, _, hc⟩ := h.2 h0
    refine ⟨b, off, e, hb, fun k hk => ?_⟩
    obtain ⟨A', c, h1, h2⟩ := hc k hk
    exact ⟨A', c, h1, h2.rdb⟩⟩
theorem RdBX.keep (h : RdBX F w A bs) (hz : w.heap.size ≤ w'.heap.size) (hk : ∀ p : Addr, ¬ F p.block → p.block < w.heap.size → w'.cell? p = w.cell? p) (hF : ∀ k, k < w.heap.size → F' k → F k) : RdBX F' w' A bs :=
  ⟨h.1, fun h0 => by
    obtain ⟨b, off, e, hb, hl, hc⟩ := h.2 h0
    exact ⟨b, off, e, by omega, fun q => hl (hF b hb q), fun k hk' => (hk ⟨b, off + k, none⟩ hl hb).trans (hc k hk')⟩⟩
theorem RdRX.keep (h : RdRX F w A rs) (hz : w.heap.size ≤ w'.heap.size) (hk : ∀ p : Addr, ¬ F p.block → p.block < w.heap.size → w'.cell? p = w.cell? p) (hF : ∀ k, k < w.heap.size → F' k → F k) : RdRX F' w' A rs :=
  ⟨h.1, fun h0 => by
    obtain ⟨b, off, e, hb, hl, hc⟩ := h.2 h0
    refine ⟨b, off, e, by omega, fun q => hl (hF b hb q), fun k hk' => ?_⟩
    obtain ⟨A', c, h1, h2⟩ := hc k hk'
    exact ⟨A', c, (hk ⟨b, off + k, none⟩ hl hb).trans h1, h2.keep hz hk hF⟩⟩
theorem RdBX.below (h : RdBX F w A bs) (hb : Below w.heap.size w w') : RdBX F w' A bs := h.keep hb.size (fun _ _ hp => hb.cell hp) fun _ _ q => q
theorem RdRX.below (h : RdRX F w A rs) (hb : Below w.heap.size w w') : RdRX F w' A rs := h.keep hb.size (fun _ _ hp => hb.cell hp) fun _ _ q => q
theorem RdBX.weak (h : RdBX F w A bs) (hF : ∀ k, k < w.heap.size → F' k → F k) : RdBX F' w A bs := h.keep (Nat.le_refl _) (fun _ _ _ => rfl) hF
theorem RdRX.weak (h : RdRX F w A rs) (hF : ∀ k, k < w.heap.size → F' k → F k) : RdRX F' w A rs := h.keep (Nat.le_refl _) (fun _ _ _ => rfl) hF
theorem chg_cell {F : Nat → Prop} {w w' : World} (hc : Chg F w w') (p : Addr) (hF : ¬ F p.block) (hp : p.block < w.heap.size) : w'.cell? p = w.cell? p := World.cell?_of_block (hc.block p.block hp hF)
theorem RdBX.chg (h : RdBX F w A bs) (hc : Chg F w w') (hF : ∀ k, k < w.heap.size → F' k → F k) : RdBX F' w' A bs := h.keep hc.size (fun p q hp => chg_cell hc p q hp) hF
theorem RdRX.chg (h : RdRX F w A rs) (hc : Chg F w w') (hF : ∀ k, k < w.heap.size → F' k → F k) : RdRX F' w' A rs := h.keep hc.size (fun p q hp => chg_cell hc p q hp) hF
theorem RdBF.rdbx {lo : Nat} (h : RdBF lo w A bs) (hF : ∀ k, k < w.heap.size → lo ≤ k → ¬ F k) : RdBX F w A bs :=
  ⟨h.1, fun h0 => by
    obtain ⟨b, off, e, hb, hl, hc⟩ := h.2 h0
    exact ⟨b, off, e, hb, hF b hb hl, hc⟩⟩
theorem RdF.rdrx {lo : Nat} (h : RdF lo w A rs) (hF : ∀ k, k < w.heap.size → lo ≤ k → ¬ F k) : RdRX F w A rs :=
  ⟨h.1, fun h0 => by
    obtain ⟨b, off, e, hb, hl, hc⟩ := h.2 h0
    refine ⟨b, off, e, hb, hF b hb hl, fun k hk => ?_⟩
    obtain ⟨A', c, h1, h2⟩ := hc k hk
    exact ⟨A', c, h1, h2.rdbx hF⟩⟩
theorem RdRX.at (h : RdRX F w A rs) {k : Nat} (hk : k < rs.length) : ∃ b off A' c, A = some ⟨b, off, none⟩ ∧ w.cell? ⟨b, off + k, none⟩ = some (.slice A' (rs.getD k []).length c) ∧ RdBX F w A' (rs.getD k []) := by
  obtain ⟨b, off, e, _, _, hc⟩ := h.2 (by omega)
  obtain ⟨A', c, h1, h2⟩ := hc k hk
  exact ⟨b, off, A', c, e, h1, h2⟩
end
/-- What a call on a bench leaves of rows that are none of its own. -/
theorem bnew_weak {w : World} {b n : Nat} {H H' : BH} (hm : BNew w b H H' n) : ∀ k, k < w.heap.size → BF b H' n k → BF b H n k := fun k hk e => by
  rcases hm k e with h | h
  · exact h
  · omega
/-- Yes and no, read, and none of a bench's. -/
def RdOX (F : Nat → Prop) (w : World) (A : Option Addr) (lv : List Bool) : Prop :=
  lv.length ≤ 9223372036854775807 ∧ (0 < lv.length → ∃ b off, A = some ⟨b, off, none⟩ ∧ b < w.heap.size ∧ ¬ F b ∧ ∀ k, k < lv.length → w.cell? ⟨b, off + k, none⟩ = some (.bool (lv.getD k false)))
section
variable {F F' : Nat → Prop} {w w' : World} {A : Option Addr} {lv : List Bool}
theorem RdOX.rdo (h : RdOX F w A lv) : RdO w w.heap.size A lv :=
  ⟨h.1, fun h0 => by
    obtain ⟨b, off, e, hb, _, hc⟩ := h.2 h0
    exact ⟨b, off, e, hb, hc⟩⟩
theorem RdOX.keep (h : RdOX F w A lv) (hz : w.heap.size ≤ w'.heap.size) (hk : ∀ p : Addr, ¬ F p.block → p.block < w.heap.size → w'.cell? p = w.cell? p) (hF : ∀ k, k < w.heap.size → F' k → F k) : RdOX F' w' A lv :=
  ⟨h.1, fun h0 => by
    obtain ⟨b, off, e, hb, hl, hc⟩ := h.2 h0
    exact ⟨b, off, e, by omega, fun q => hl (hF b hb q), fun k hk' => (hk ⟨b, off + k, none⟩ hl hb).trans (hc k hk')⟩⟩
theorem RdOX.below (h : RdOX F w A lv) (hb : Below w.heap.size w w') : RdOX F w' A lv := h.keep hb.size (fun _ _ hp => hb.cell hp) fun _ _ q => q
theorem RdOX.chg (h : RdOX F w A lv) (hc : Chg F w w') (hF : ∀ k, k < w.heap.size → F' k → F k) : RdOX F' w' A lv := h.keep hc.size (fun p q hp => chg_cell hc p q hp) hF
theorem RdO.rdox {B : Nat} (h : RdO w B A lv) (hB : B ≤ w.heap.size) (hF : ∀ k, k < B → ¬ F k) : RdOX F w A lv :=
  ⟨h.1, fun h0 => by
    obtain ⟨b, off, e, hb, hc⟩ := h.2 h0
    exact ⟨b, off, e, by omega, hF b hb, hc⟩⟩
end
end Go.Proofs.Ytadfimimkkimmaa
end
section
set_option maxRecDepth 20000
set_option linter.unusedVariables false
set_option linter.unusedSimpArgs false
namespace Go.Proofs.Ytadfimimkkimmaa
open Go.RowKit

set_option maxHeartbeats 3200000 in
theorem stpFlush_any (W w : World) (b : Nat) (H : BH) (N : Bch) (h : BP W w b H N) (lv : List Bool) (A : Option Addr) (m cp : Nat) (hm : m = lv.length) (hv : RdOX (BF b H N.n) w A lv) :
    Calls Try.prog 15 #[.pointer (some ⟨b, 0, none⟩), .slice A m cp] w fun e w' => e = .returned (.int .i64 (sflS N lv).1) ∧ BC W w w' b H N.n (sflS N lv).2 := by
  subst hm
  have Hh := Lib.hid h
  have hn8 := h.at'.ok.n
  have CL := Lib.hid (bp_len W w b H N h)
  have Hv := Lib.hid hv
  have Hall : Hid (sflS N lv = onTo flF lv N N.n) := rfl
  have CV := Lib.hid (fun (W1 : World) (H1 : BH) (N1 : Bch) (hp : BP W W1 b H1 N1) (hv1 : RdOX (BF b H1 N.n) W1 A lv) (j : Nat) (hj : j ≤ 1000000) => stpLive_any W.heap.size b H1 N1 W1 hp.at' lv A lv.length cp rfl hv1.rdo j hj)
  clear h hv
  generalize sflS N lv = rr at Hall ⊢
  obtain ⟨n0, hn0⟩ : ∃ n0, N.n = n0 := ⟨_, rfl⟩
  rw [hn0] at CL Hall hn8
  have Hn0 := Lib.hid hn0
  clear hn0
  go_enter Try.func15, Try.ntmps15
  go_wp2_with fail
  (with_reducible refine CL.out.mono ?_); rintro e w1 ⟨rfl, rfl⟩
  go_wp2
  go_loopw [9] (fun i wr => ∃ j : Nat, j ≤ n0 ∧ i = .int .i64 j ∧ (onTo flF lv N j).1 = 0 ∧ BC W w1 wr b H N.n (onTo flF lv N j).2) (fun i _ => n0 - (intOf i).toNat)
  case atStart => exact ⟨0, Nat.zero_le _, rfl, rfl, Hh.out.self⟩
  case round =>
    obtain ⟨j, hj, rfl, hz, hbc⟩ := hrel
    have Hz := Lib.hid hz
    have Hbc := Lib.hid hbc
    obtain ⟨Hj, aj, cj, nj⟩ := hbc
    have Haj := Lib.hid aj
    have Hcj := Lib.hid cj
    have Hnj := Lib.hid nj
    clear hz aj cj nj
    by_cases hlt : j < n0
    · have i0 : (0 : Int) ≤ (j : Int) := by omega
      have i1 : (j : Int) < (n0 : Int) := by omega
      have Hnn : Hid ((onTo flF lv N j).2.n = N.n) := flushed_n j
      have CL1 := Lib.hid (CV.out wr Hj _ Haj.out (Hv.out.chg Hcj.out (bnew_weak Hnj.out)) j (by omega))
      have HLv := Lib.hid (show livD (onTo flF lv N j).2 lv j = lv.getD j false by unfold livD; rw [Hnn.out, Hn0.out, decide_eq_true hlt]; rfl)
      rw [HLv.out] at CL1
      cases hb : lv.getD j false with
      | false =>
        rw [hb] at CL1
        have HS := Lib.hid (onTo_skip Hz.out hb)
        clear hb CL CV HLv
        go_wp2_with fail
        (with_reducible refine CL1.out.mono ?_); rintro e w2 ⟨rfl, rfl⟩
        go_wp2
        go_roundw
        case rel => exact ⟨j + 1, by omega, by go_num, by rw [HS.out]; exact Hz.out, by rw [HS.out]; exact Hbc.out⟩
        case measure => simp [intOf]; omega
      | true =>
        rw [hb] at CL1
        have CF := Lib.hid (show Calls Try.prog 46 #[.pointer (some ⟨b, 0, none⟩), .int .i64 (j : Int)] wr fun e w' => e = .returned (.int .i64 (flF (onTo flF lv N j).2 j).1) ∧ BC W wr w' b Hj (onTo flF lv N j).2.n (flF (onTo flF lv N j).2 j).2 from bp_flush W wr b Hj _ Haj.out (j : Int) (i64n (by omega)))
        have HX : Hid (∀ w2, BC W wr w2 b Hj (onTo flF lv N j).2.n (flF (onTo flF lv N j).2 j).2 → BC W w1 w2 b H N.n (flF (onTo flF lv N j).2 j).2) := fun w2 h2 => by
          rw [Hnn.out] at h2
          exact h2.seq Hcj.out Hnj.out
        have HG := Lib.hid (fun hq => onTo_goes (f := flF) Hz.out hb hq)
        have HP := Lib.hid (fun hq => onTo_pass (f := flF) Hz.out hb hq)
        clear hb CL CV HLv
        generalize flF (onTo flF lv N j).2 j = r at CF HX HG HP
        obtain ⟨e, Nx⟩ := r
        by_cases h5 : e = 5
        · have HP := Lib.hid (HP.out h5)
          clear HG
          rw [h5] at CF
          clear h5
          go_wp2_with fail
          (with_reducible refine CL1.out.mono ?_); rintro e w2 ⟨rfl, rfl⟩
          go_wp2_with fail
          (with_reducible refine CF.out.mono ?_); rintro e w3 ⟨rfl, ht⟩
          have Ht := Lib.hid (HX.out _ ht)
          clear ht
          go_wp2
          go_roundw
          case rel => exact ⟨j + 1, by omega, by go_num, by rw [HP.out], by rw [HP.out]; exact Ht.out⟩
          case measure => simp [intOf]; omega
        · have HG := Lib.hid (HG.out h5)
          clear HP
          by_cases h0 : e = 0
          · rw [h0] at CF HG
            clear h5 h0
            go_wp2_with fail
            (with_reducible refine CL1.out.mono ?_); rintro e w2 ⟨rfl, rfl⟩
            go_wp2_with fail
            (with_reducible refine CF.out.mono ?_); rintro e w3 ⟨rfl, ht⟩
            have Ht := Lib.hid (HX.out _ ht)
            clear ht
            go_wp2
            go_roundw
            case rel => exact ⟨j + 1, by omega, by go_num, by rw [HG.out], by rw [HG.out]; exact Ht.out⟩
            case measure => simp [intOf]; omega
          · have n5 : (e != 5) = true := by rw [bne_iff_ne]; exact h5
            have n0' : (e != 0) = true := by rw [bne_iff_ne]; exact h0
            have HS := Lib.hid (onTo_stop (f := flF) (lv := lv) (N := N) (i := j + 1) (by rw [HG.out]; exact h0) n0 (by omega))
            clear h5 h0
            go_wp2_with fail
            (with_reducible refine CL1.out.mono ?_); rintro e w2 ⟨rfl, rfl⟩
            go_wp2_with fail
            (with_reducible refine CF.out.mono ?_); rintro e w3 ⟨rfl, ht⟩
            have Ht := Lib.hid (HX.out _ ht)
            clear ht
            go_wp2
            go_ret
            exact ⟨by rw [Hall.out, HS.out, HG.out]; rfl, by rw [Hall.out, HS.out, HG.out]; exact Ht.out⟩
    · obtain rfl : j = n0 := by omega
      go_wp2
      go_ret
      exact ⟨by rw [Hall.out, Hz.out]; rfl, by rw [Hall.out]; exact Hbc.out⟩
end Go.Proofs.Ytadfimimkkimmaa
end
section
set_option maxRecDepth 20000
set_option linter.unusedVariables false
set_option linter.unusedSimpArgs false
namespace Go.Proofs.Ytadfimimkkimmaa
open Go.RowKit

theorem Rq.rdf {lo : Nat} {W : World} {g cap n : Nat} {xs : List Value} {rs : List (List UInt8)} (h : Rq lo W g cap n xs rs) (hn : n ≤ 1000000) : RdF lo W (some ⟨g, 0, none⟩) rs := by
  obtain ⟨A, c, e, _, hr⟩ := rdf_own h.row (by rw [h.nn]; omega) h.rowsY
  injection e with e _ _
  rw [e]; exact hr
/-- Write's loop: the disks' sectors are written, one by one. -/
def StpW (W w : World) (b : Nat) (H : BH) (n : Nat) (p : Int × Bch) (e : Ending) (w' : World) : Prop := e = .returned (.int .i64 p.1) ∧ BC W w w' b H n p.2
set_option maxHeartbeats 3200000 in
theorem stpWrite_any (W w : World) (b : Nat) (H : BH) (N : Bch) (h : BP W w b H N) (lv : List Bool) (A : Option Addr) (m cp : Nat) (hm : m = lv.length) (hv : RdOX (BF b H N.n) w A lv)
    (A2 : Option Addr) (rs : List (List UInt8)) (n2 cp2 : Nat) (hn2 : rs.length = n2) (h28 : n2 ≤ 1000000) (hrd : RdR w w.heap.size A2 rs) (l d c r : Int)
    (hl : -9223372036854775808 ≤ l ∧ l ≤ 9223372036854775807) (hd : -9223372036854775808 ≤ d ∧ d ≤ 9223372036854775807) (hc : -9223372036854775808 ≤ c ∧ c ≤ 9223372036854775807) (hr : -9223372036854775808 ≤ r ∧ r ≤ 9223372036854775807)
    (hps : ∀ i, i < N.n → (N.D i).ps.length ≤ 1999990) (hdn : N.done ≤ 1999990) :
    Calls Try.prog 14 #[.pointer (some ⟨b, 0, none⟩), .slice A m cp, .agg #[.int .i64 l, .int .i64 d, .int .i64 c], .int .i64 r, .slice A2 n2 cp2] w (StpW W w b H N.n (swrS N lv l d c r rs)) := by
  subst hm
  have Hh := Lib.hid h
  have hn8 := h.at'.ok.n
  have Hv := Lib.hid hv
  have B1 := below1 w (.cells #[.int .i64 l, .int .i64 d, .int .i64 c] 24)
  have CF := Lib.hid (fill_any A2 rs n2 cp2 l d c r (w.alloc (.cells #[.int .i64 l, .int .i64 d, .int .i64 c] 24)) hn2 h28 ((hrd.below B1 (Nat.le_refl _)).more B1.size) hl hd hc hr)
  have HB1 := Lib.hid B1
  have hz1 : (w.alloc (.cells #[.int .i64 l, .int .i64 d, .int .i64 c] 24)).heap.size = w.heap.size + 1 := by simp
  have Hflt := Lib.hid (show ∀ k, BF b H N.n k → k < w.heap.size from fun k hk => (h.at'.flt hk).2)
  cases hk : fillOk l d c r rs with
  | false =>
    have CF := CF.out
    rw [roFill_no (by rw [hk]; simp)] at CF
    have CF := Lib.hid CF
    have HE := Lib.hid (show swrS N lv l d c r rs = (1, N) from if_pos hk)
    generalize swrS N lv l d c r rs = rr at HE ⊢
    clear h hv hrd hk B1 hps hn2
    go_enter Try.func14, Try.ntmps14
    go_wp2_with fail
    (with_reducible refine CF.out.mono ?_); rintro e w1 ⟨rfl, hb⟩
    have F := Lib.hid (HB1.out.trans (hb.mono HB1.out.size))
    clear hb
    go_wp2
    go_ret
    exact ⟨by rw [HE.out]; rfl, by rw [HE.out]; exact BC.below F.out (Hh.out.grow F.out).self⟩
  | true =>
    have hT := (fillOk_yes hk).1
    have hρ := (plOk_yes hT).2
    obtain ⟨ρ, rfl⟩ := Int.eq_ofNat_of_zero_le hρ.1
    have R := ro_of hT
    have hd8 := R.d8
    have H32 := Lib.hid (fun i (hi : i < roD d) => fill_32 hk hi)
    have HLl := fillL_len (roD d) (roF l d c ρ) rs
    have CF := CF.out
    rw [roFill_yes hk] at CF
    have HE := Lib.hid (show swrS N lv l d c ρ rs = swTo lv (36 + (ρ : Int).toNat) (fillL (roD d) (roF l d c ρ) rs) N (roD d) from if_neg (by simp [hk]))
    have e1 : ((ρ : Int)).toNat = ρ := by omega
    rw [e1] at HE
    generalize fillL (roD d) (roF l d c ρ) rs = L at CF H32 HE HLl
    generalize roD d = D at CF H32 HE HLl hd8
    have CF := Lib.hid CF
    have HLn := Lib.hid HLl
    generalize swrS N lv l d c ρ rs = rr at HE ⊢
    have CV := Lib.hid (fun (W1 : World) (H1 : BH) (N1 : Bch) (hp : BP W W1 b H1 N1) (hv1 : RdOX (BF b H1 N.n) W1 A lv) (j : Nat) (hj : j ≤ 1000000) => stpServes_any W.heap.size b H1 N1 W1 hp.at' lv A lv.length cp rfl hv1.rdo j hj)
    have Hps := Lib.hid hps
    clear h hv hrd hk B1 hT R hps hn2 HLl
    go_enter Try.func14, Try.ntmps14
    go_wp2_with fail
    (with_reducible refine CF.out.mono ?_); rintro e w1 ⟨g, xs, rfl, Q, hb⟩
    have F := Lib.hid (HB1.out.trans (hb.mono HB1.out.size))
    have hF1 := F.out.size
    rw [HLn.out] at Q ⊢
    have HR := Lib.hid (show RdRX (BF b H N.n) w1 (some ⟨g, 0, none⟩) L from (Q.rdf (by omega)).rdrx fun k _ hk e => by have := Hflt.out k e; rw [hz1] at hk; omega)
    have HP1 := Lib.hid (Hh.out.grow F.out)
    have Hv1 := Lib.hid (Hv.out.below F.out)
    clear hb Q CF
    go_wp2
    go_loopw [27] (fun i wr => ∃ j : Nat, j ≤ D ∧ i = .int .i64 j ∧ (swTo lv (36 + ρ) L N j).1 = 0 ∧ BC W w1 wr b H N.n (swTo lv (36 + ρ) L N j).2) (fun i _ => D - (intOf i).toNat)
    case atStart => exact ⟨0, Nat.zero_le _, rfl, rfl, HP1.out.self⟩
    case round =>
      obtain ⟨j, hj, rfl, hz, hbc⟩ := hrel
      have Hz := Lib.hid hz
      have Hbc := Lib.hid hbc
      obtain ⟨Hj, aj, cj, nj⟩ := hbc
      have Haj := Lib.hid aj
      have Hcj := Lib.hid cj
      have Hnj := Lib.hid nj
      clear hz aj cj nj
      by_cases hlt : j < D
      · have i0 : (0 : Int) ≤ (j : Int) := by omega
        have i1 : (j : Int) < (D : Int) := by omega
        have Hnn : Hid ((swTo lv (36 + ρ) L N j).2.n = N.n) := swTo_n j
        have hrx := HR.out.chg Hcj.out (bnew_weak Hnj.out)
        obtain ⟨b', off, A', c', e, h1, h2⟩ := hrx.at (k := j) (by rw [HLn.out]; exact hlt)
        injection e with e
        injection e with e2 e3 _
        subst e2 e3
        rw [Nat.zero_add] at h1
        have h32 := H32.out j hlt
        have HwX : Hid (wrX (36 + ρ) L (swTo lv (36 + ρ) L N j).2 j = ((swTo lv (36 + ρ) L N j).2.writeE (j : Int) ((36 + ρ : Nat) : Int) (L.getD j []).length, (swTo lv (36 + ρ) L N j).2.write (j : Int) ((36 + ρ : Nat) : Int) (L.getD j []))) := rfl
        have h2b := h2.rdb
        generalize L.getD j [] = x at h1 h2b h32 HwX
        rw [h32] at h1 HwX
        have CL1 := Lib.hid (CV.out wr Hj _ Haj.out (Hv1.out.chg Hcj.out (bnew_weak Hnj.out)) j (by omega))
        have HSk := Lib.hid (fun hs => swTo_skip (lv := lv) (a := 36 + ρ) (xs := L) (N := N) (i := j) Hz.out hs)
        have HGo := Lib.hid (fun hs => swTo_goes (lv := lv) (a := 36 + ρ) (xs := L) (N := N) (i := j) Hz.out hs)
        have HSt := Lib.hid (fun hs => swTo_stop (lv := lv) (a := 36 + ρ) (xs := L) (N := N) (i := j + 1) hs D (by omega))
        have CW := Lib.hid (show Calls Try.prog 43 #[.pointer (some ⟨b, 0, none⟩), .int .i64 (j : Int), .int .i64 (36 + (ρ : Int)), .slice A' 32 c'] wr fun e w' => e = .returned (.int .i64 (wrX (36 + ρ) L (swTo lv (36 + ρ) L N j).2 j).1) ∧ BC W wr w' b Hj (swTo lv (36 + ρ) L N j).2.n (wrX (36 + ρ) L (swTo lv (36 + ρ) L N j).2 j).2 by
          rw [HwX.out, show ((36 + ρ : Nat) : Int) = 36 + (ρ : Int) by omega]
          exact bp_write W wr b Hj _ Haj.out (j : Int) (36 + (ρ : Int)) x A' 32 c' h32.symm ⟨by omega, by omega⟩ ⟨by omega, by omega⟩ h2b
            (fun i hi => Nat.le_trans (swTo_pend i j) (by rw [Hnn.out] at hi; have := Hps.out i hi; omega)) (Nat.le_trans (swTo_done j) (by omega)))
        have HX : Hid (∀ w2, BC W wr w2 b Hj (swTo lv (36 + ρ) L N j).2.n (wrX (36 + ρ) L (swTo lv (36 + ρ) L N j).2 j).2 → BC W w1 w2 b H N.n (wrX (36 + ρ) L (swTo lv (36 + ρ) L N j).2 j).2) := fun w2 h2 => by
          rw [Hnn.out] at h2
          exact h2.seq Hcj.out Hnj.out
        clear hrx h2 h2b h32 HwX CV
        cases hs : srvD (swTo lv (36 + ρ) L N j).2 lv j with
        | false =>
          rw [hs] at CL1
          have HS := Lib.hid (HSk.out hs)
          clear hs HSk HGo HSt CW HX
          go_wp2_with fail
          (with_reducible refine CL1.out.mono ?_); rintro e w2 ⟨rfl, rfl⟩
          go_wp2
          go_roundw
          case rel => exact ⟨j + 1, by omega, by go_num, by rw [HS.out]; exact Hz.out, by rw [HS.out]; exact Hbc.out⟩
          case measure => simp [intOf]; omega
        | true =>
          rw [hs] at CL1
          have HG := Lib.hid (HGo.out hs)
          clear hs HSk HGo
          generalize wrX (36 + ρ) L (swTo lv (36 + ρ) L N j).2 j = r at CW HX HG
          obtain ⟨e, Nx⟩ := r
          by_cases h0 : e = 0
          · rw [h0] at CW HG
            clear h0 HSt
            go_wp2_with fail
            (with_reducible refine CL1.out.mono ?_); rintro e w2 ⟨rfl, rfl⟩
            go_wp2_with fail
            (with_reducible refine CW.out.mono ?_); rintro e w3 ⟨rfl, ht⟩
            have Ht := Lib.hid (HX.out _ ht)
            clear ht
            go_wp2
            go_roundw
            case rel => exact ⟨j + 1, by omega, by go_num, by rw [HG.out], by rw [HG.out]; exact Ht.out⟩
            case measure => simp [intOf]; omega
          · have n0' : (e != 0) = true := by rw [bne_iff_ne]; exact h0
            have HS := Lib.hid (HSt.out (by rw [HG.out]; exact h0))
            clear h0 HSt
            go_wp2_with fail
            (with_reducible refine CL1.out.mono ?_); rintro e w2 ⟨rfl, rfl⟩
            go_wp2_with fail
            (with_reducible refine CW.out.mono ?_); rintro e w3 ⟨rfl, ht⟩
            have Ht := Lib.hid (HX.out _ ht)
            clear ht
            go_wp2
            go_ret
            exact ⟨by rw [HE.out, HS.out, HG.out]; rfl, by rw [HE.out, HS.out, HG.out]; exact BC.below F.out Ht.out⟩
      · obtain rfl : j = D := by omega
        go_wp2
        go_ret
        exact ⟨by rw [HE.out, Hz.out]; rfl, by rw [HE.out]; exact BC.below F.out Hbc.out⟩
end Go.Proofs.Ytadfimimkkimmaa
end
section
namespace Go.Proofs.Ytadfimimkkimmaa
open Go.RowKit

theorem capacity_any (l d c : Int) (w : World) (hl : -9223372036854775808 ≤ l ∧ l ≤ 9223372036854775807) (hd : -9223372036854775808 ≤ d ∧ d ≤ 9223372036854775807) (hc : -9223372036854775808 ≤ c ∧ c ≤ 9223372036854775807) :
    Calls Try.prog 80 #[.agg #[.int .i64 l, .int .i64 d, .int .i64 c]] w fun e w' => e = .returned (.int .i64 (gCap l d c)) ∧ Below w.heap.size w w' := by
  have hB := gWid_bd l d c
  have HC : Hid (gCap l d c = gWid l d c * 16) := rfl
  go_enter Try.func80, Try.ntmps80
  go_wp2_with fail
  (with_reducible refine (width_any l d c _ hl hd hc).mono ?_); rintro e w1 ⟨rfl, hb⟩
  have F := (below1 w _).trans (hb.mono (by simp))
  clear hb
  generalize gWid l d c = wd at hB HC
  go_wp2_with fail
  go_ret
  exact ⟨by rw [HC.out]; rfl, F⟩
end Go.Proofs.Ytadfimimkkimmaa
end
section
set_option linter.unusedVariables false
set_option linter.unusedSimpArgs false
namespace Go.Proofs.Ytadfimimkkimmaa
open Go.RowKit

theorem ibeq_ne {a b : Int} (h : a ≠ b) : (a == b) = false := by simpa using h
theorem of_any (l d c n : Int) (w : World) (hl : (-9223372036854775808 ≤ l ∧ l ≤ 9223372036854775807)) (hd : (-9223372036854775808 ≤ d ∧ d ≤ 9223372036854775807)) (hc : (-9223372036854775808 ≤ c ∧ c ≤ 9223372036854775807)) (hn : (-9223372036854775808 ≤ n ∧ n ≤ 9223372036854775807)) :
    Calls Try.prog 53 #[.agg #[.int .i64 l, .int .i64 d, .int .i64 c], .int .i64 n] w fun e w' => e = .returned (.tuple #[.int .i64 (plOfD l d c n), .int .i64 (plOfR l d c n), .bool (plOfOk l d c n)]) ∧ Below w.heap.size w w' := by
  have G := gat_new w l d c 24 (0, 0)
  have HD : Hid (∀ b, plOfOk l d c n = b → plOfD l d c n = if b = true then plD l d c (plRow l d c n) (n / c % (d - (l - 4))) else 0) := Lib.hid (fun b h => by subst h; rfl)
  have HR : Hid (∀ b, plOfOk l d c n = b → plOfR l d c n = if b = true then plRow l d c n else 0) := Lib.hid (fun b h => by subst h; rfl)
  have HC := Lib.hid (fun W => capacity_any l d c W hl hd hc)
  have hb7 := gCap_bd l d c
  by_cases h0 : n < 0
  · have H := Lib.hid (plOfOk_no (l := l) (d := d) (c := c) (n := n) (by omega))
    have H1 := Lib.hid ((HD.out false H.out).trans (if_neg (by decide)))
    have H2 := Lib.hid ((HR.out false H.out).trans (if_neg (by decide)))
    have e0 : decide (n < 0) = true := decide_eq_true h0
    go_enter Try.func53, Try.ntmps53
    go_wp2_with fail
    go_ret3
    exact ⟨by rw [H.out, H1.out, H2.out]; rfl, below1 _ _⟩
  · have e0 : decide (n < 0) = false := decide_eq_false h0
    by_cases h1 : gCap l d c ≤ n
    · have H := Lib.hid (plOfOk_no (l := l) (d := d) (c := c) (n := n) (by omega))
      have H1 := Lib.hid ((HD.out false H.out).trans (if_neg (by decide)))
      have H2 := Lib.hid ((HR.out false H.out).trans (if_neg (by decide)))
      clear HD HR
      generalize gCap l d c = cp at HC h1 hb7
      have e1 : decide (cp ≤ n) = true := decide_eq_true h1
      go_enter Try.func53, Try.ntmps53
      go_wp2_with fail
      (with_reducible refine (HC.out _).mono ?_); rintro e w1 ⟨rfl, hb⟩
      have F := (below1 w _).trans (hb.mono (by simp))
      clear hb
      go_wp2_with fail
      go_ret3
      exact ⟨by rw [H.out, H1.out, H2.out]; rfl, F⟩
    · have hok : plOfOk l d c n = true := decide_eq_true (by omega)
      have H := Lib.hid hok
      have hg := plOfOk_ok hok
      have hb6 := gOk_bd hg
      have hcp := gCap_yes hg
      have hgw := gWid_yes hg
      have H1 := Lib.hid ((HD.out true hok).trans (if_pos rfl))
      have H2 := Lib.hid ((HR.out true hok).trans (if_pos rfl))
      have HW := Lib.hid (fun W => width_any l d c W hl hd hc)
      have hw := gWid_bd l d c
      rw [← hgw] at H1
      have H3 : Hid (plRow l d c n = n / c / gWid l d c * c + n % c) := by rw [hgw]; rfl
      generalize plRow l d c n = row at H1 H2 H3
      have hcw : gCap l d c = gWid l d c * 16 := rfl
      generalize gWid l d c = wd at HW hw H1 H3 hgw hcw
      rw [hcw] at HC h1 hb7
      have hch := quo_bd 112 (show 0 ≤ n by omega) (show n < 112 by omega) (show 1 ≤ c by omega)
      have e1 : decide (wd * 16 ≤ n) = false := decide_eq_false h1
      generalize hqq : n / c = ch at H1 H3 hch
      have hst := quo_bd 112 hch.1 hch.2 (show 1 ≤ wd by omega)
      have hk := rem_bd ch (show 1 ≤ wd by omega)
      have hm := rem_bd n (show 1 ≤ c by omega)
      have t1 : n.tdiv c = ch := by rw [Int.tdiv_eq_ediv_of_nonneg (by omega)]; exact hqq
      have hx : 0 ≤ ch / wd * c ∧ ch / wd * c ≤ 112 * 4 := ⟨Int.mul_nonneg hst.1 (by omega), Int.mul_le_mul (by omega) (by omega) (by omega) (by omega)⟩
      have hrow : 0 ≤ row ∧ row ≤ 1000 := by rw [H3.out]; omega
      have HK := Lib.hid (fun W => disk_any l d c row (ch % wd) W hl hd hc (by omega) (by omega))
      have n1 : ¬ c = 0 := by omega
      have n2 : ¬ wd = 0 := by omega
      have i0 : 0 ≤ n := by omega
      have z0 : IntKind.i64.wrap ch = ch := IntWalk.i64_in _ (by omega)
      clear hqq HD HR hok hg hcp h0 h1 hgw hcw
      go_enter Try.func53, Try.ntmps53
      go_wp2_with fail
      (with_reducible refine (HC.out _).mono ?_); rintro e w1 ⟨rfl, hb⟩
      have S1 := GS.later (w0 := w) (B := w.heap.size) ⟨G.1, G.2.1, G.2.2, below1 w _⟩ hb
      clear hb G
      obtain ⟨g1, g2, g3, F⟩ := S1
      go_wp2_with fail
      have S0 : GS w w.heap.size w.heap.size l d c w1 := ⟨g1, g2, g3, F⟩
      clear g1 g2 g3 F
      go_region_held3 (GS w w.heap.size w.heap.size l d c)
        (first | assumption | exact GS.drew ‹_›)
        ((go_at_call 66; (with_reducible refine (HW.out _).mono ?_); rintro e w2 ⟨rfl, hb⟩; have S2 := (GS.drew S0).later hb))
      obtain ⟨g1, g2, g3, F⟩ := S2
      clear S0 hb
      go_wp2_with fail
      go_quiet (fail)
      go_wp2_with fail
      rw [← H3.out]
      have S0 : GS w w.heap.size w.heap.size l d c (w2.drewN nq) := ⟨g1, g2, g3, F.trans (belowN _ _ _)⟩
      have t2 : ch.tmod wd = ch % wd := Int.tmod_eq_emod_of_nonneg hch.1
      clear g1 g2 g3 F
      generalize w2.drewN nq = w4 at S0 ⊢
      clear H3
      go_region_held3 (GS w w.heap.size w.heap.size l d c)
        (first | assumption | exact GS.drew ‹_›)
        ((go_at_call 69; (with_reducible refine (HK.out _).mono ?_); rintro e w3 ⟨rfl, hb⟩; have S3 := (GS.drew S0).later hb))
      go_wp2
      go_ret3
      exact ⟨by rw [H.out, H1.out, H2.out]; rfl, S3.2.2.2⟩
end Go.Proofs.Ytadfimimkkimmaa
end
section
set_option linter.unusedVariables false
set_option linter.unusedSimpArgs false
namespace Go.Proofs.Ytadfimimkkimmaa
open Go.RowKit

/-- The first k numbers are there, the others are zeros yet. -/
def plNumsTo (l d c r : Int) (n k : Nat) : List Int := (List.range k).map (fun j : Nat => plN l d c r (j : Int)) ++ List.replicate (n - k) 0
theorem plNumsTo_len (l d c r : Int) {n k : Nat} (h : k ≤ n) : (plNumsTo l d c r n k).length = n := by simp [plNumsTo]; omega
theorem plNumsTo_zero (l d c r : Int) (n : Nat) : plNumsTo l d c r n 0 = List.replicate n 0 := by simp [plNumsTo]
theorem plNumsTo_succ (l d c r : Int) {n k : Nat} (h : k < n) : (plNumsTo l d c r n k).set k (plN l d c r (k : Int)) = plNumsTo l d c r n (k + 1) := by
  unfold plNumsTo
  rw [List.set_append_right _ _ (by simp), show n - k = (n - (k + 1)) + 1 by omega, List.replicate_succ, List.length_map, List.length_range, Nat.sub_self, List.set_cons_zero, List.range_succ, List.map_append, List.append_assoc]
  rfl
theorem plNumsTo_all {l d c r : Int} {n : Nat} (h : plOk l d c r = true) (hn : gWid l d c = n) : plNumsTo l d c r n n = plNums l d c r := by
  have hg := (plOk_yes h).1
  rw [gWid_yes hg] at hn
  unfold plNums plNumsTo
  rw [if_pos h, hn]
  simp
theorem plNums_no {l d c r : Int} (h : plOk l d c r = false) : plNums l d c r = [] := if_neg (by rw [h]; decide)
theorem plNums_len {l d c r : Int} (h : plOk l d c r = true) : (plNums l d c r).length = (gWid l d c).toNat := by
  have hg := (plOk_yes h).1
  rw [gWid_yes hg]
  unfold plNums
  rw [if_pos h]
  simp
theorem plNums_get {l d c r : Int} (h : plOk l d c r = true) {k : Nat} (hk : (k : Int) < gWid l d c) : (plNums l d c r).getD k 0 = plN l d c r (k : Int) := by
  have hg := (plOk_yes h).1
  rw [gWid_yes hg] at hk
  unfold plNums
  rw [if_pos h]
  have : k < (d - (l - 4)).toNat := by omega
  simp [this]
theorem GS.set {w0 W : World} {B b : Nat} {l d c : Int} (h : GS w0 B b l d c W) {p : Addr} (hp : B ≤ p.block) (hne : p.block ≠ b) (u : Value) : GS w0 B b l d c (W.setCell p u) :=
  ⟨(World.cell?_setCell_far _ _ _ _ hne).trans h.1, (World.cell?_setCell_far _ _ _ _ hne).trans h.2.1, (World.cell?_setCell_far _ _ _ _ hne).trans h.2.2.1, h.2.2.2.setCell hp u⟩
set_option maxHeartbeats 800000 in
theorem numbers_own (l d c r : Int) (w : World) (HT : Hid (plOk l d c r = true)) (hl : (-9223372036854775808 ≤ l ∧ l ≤ 9223372036854775807)) (hd : (-9223372036854775808 ≤ d ∧ d ≤ 9223372036854775807)) (hc : (-9223372036854775808 ≤ c ∧ c ≤ 9223372036854775807)) (hr : (-9223372036854775808 ≤ r ∧ r ≤ 9223372036854775807)) :
    Calls Try.prog 55 #[.agg #[.int .i64 l, .int .i64 d, .int .i64 c], .int .i64 r] w fun e w' => ∃ v, e = .returned v ∧ OwJ w' w.heap.size v (plNums l d c r) ∧ Below w.heap.size w w' := by
  have G := gat_new w l d c 24 (0, 0)
  obtain ⟨hg, h0, h1⟩ := plOk_yes HT.out
  have HW := Lib.hid (fun W => width_any l d c W hl hd hc)
  have hw := gWid_bd l d c
  obtain ⟨n, hn⟩ : ∃ n : Nat, gWid l d c = n := ⟨(gWid l d c).toNat, by omega⟩
  have Hall := Lib.hid (plNumsTo_all HT.out hn)
  have HN : Hid (∀ (k : Nat) W, k < n → Calls Try.prog 82 #[.agg #[.int .i64 l, .int .i64 d, .int .i64 c], .int .i64 r, .int .i64 (k : Int)] W fun e w' => e = .returned (.int .i64 (plN l d c r (k : Int))) ∧ Below W.heap.size W w') :=
    Lib.hid (fun k W hk => number_any l d c r (k : Int) W HT (by omega) hl hd hc hr)
  rw [hn] at HW hw
  have hn8 : n ≤ 1000000 := by omega
  have km := make_ints n hn8
  clear hn hg
  go_enter Try.func55, Try.ntmps55
  go_wp2_with fail
  (with_reducible refine (there_yes l d c r _ HT hl hd hc hr).mono ?_); rintro e w1 ⟨rfl, hb⟩
  have S1 := GS.later (w0 := w) (B := w.heap.size) ⟨G.1, G.2.1, G.2.2, below1 w _⟩ hb
  clear hb G
  obtain ⟨g1, g2, g3, F⟩ := S1
  go_wp2_with fail
  (with_reducible refine (HW.out _).mono ?_); rintro e w2 ⟨rfl, hb⟩
  have S2 := GS.later (w0 := w) (B := w.heap.size) ⟨g1, g2, g3, F⟩ hb
  clear hb g1 g2 g3 F
  have own0 := ownJ_make w2 n hn8
  have S3 := S2.later (below1 w2 (.cells (madeCells #[.int .i64 0] n) 3))
  have z2 := S2.2.2.2.size
  have b2 := World.block_lt_of_cell? _ _ S2.1
  clear S2
  rw [← plNumsTo_zero l d c r n] at own0
  go_wp2_with fail
  generalize w2.heap.size = g at own0 S3 z2 b2 ⊢
  generalize w2.alloc (.cells (madeCells #[.int .i64 0] n) 3) = w3 at own0 S3 ⊢
  go_loopw [16] (fun i wr => ∃ k : Nat, k ≤ n ∧ i = .int .i64 k ∧ OwJ wr g (.slice (some ⟨g, 0, none⟩) n n) (plNumsTo l d c r n k) ∧ GS w w.heap.size w.heap.size l d c wr) (fun i _ => n - (intOf i).toNat)
  case atStart => exact ⟨0, Nat.zero_le _, rfl, own0, S3⟩
  case round =>
    obtain ⟨k, hk, rfl, hown, hS⟩ := hrel
    by_cases hlt : k < n
    · have i0 : (0 : Int) ≤ (k : Int) := by omega
      have i1 : (k : Int) < (n : Int) := by omega
      obtain ⟨g1, g2, g3, F⟩ := hS
      go_wp2_with fail
      (with_reducible refine (HN.out k _ hlt).mono ?_); rintro e w4 ⟨rfl, hb⟩
      have S4 := GS.later (w0 := w) (B := w.heap.size) ⟨g1, g2, g3, F⟩ hb
      have hown4 := hown.below hb
      obtain ⟨c4, f4⟩ := hown4.cellF (plNumsTo_len l d c r hk).symm k hlt
      have hown5 := hown4.set (plNumsTo_len l d c r hk).symm k (plN l d c r (k : Int))
      rw [plNumsTo_succ l d c r hlt] at hown5
      have S5 := S4.set (p := ⟨g, k, none⟩) (by show w.heap.size ≤ g; omega) (by show g ≠ w.heap.size; omega) (.int .i64 (plN l d c r (k : Int)))
      clear hb g1 g2 g3 F hown S4 hown4
      go_wp2
      go_roundw
      case rel => exact ⟨k + 1, by omega, by go_num, hown5, S5⟩
      case measure => simp [intOf]; omega
    · obtain rfl : k = n := by omega
      rw [Hall.out] at hown
      go_wp2
      go_ret
      exact ⟨_, rfl, hown.le (by omega), hS.2.2.2⟩
theorem numbers_any (l d c r : Int) (w : World) (hl : (-9223372036854775808 ≤ l ∧ l ≤ 9223372036854775807)) (hd : (-9223372036854775808 ≤ d ∧ d ≤ 9223372036854775807)) (hc : (-9223372036854775808 ≤ c ∧ c ≤ 9223372036854775807)) (hr : (-9223372036854775808 ≤ r ∧ r ≤ 9223372036854775807)) :
    Calls Try.prog 55 #[.agg #[.int .i64 l, .int .i64 d, .int .i64 c], .int .i64 r] w fun e w' => ∃ A cp, e = .returned (.slice A (plNums l d c r).length cp) ∧ RdJ w' w'.heap.size A (plNums l d c r) ∧ Below w.heap.size w w' := by
  cases hT : plOk l d c r
  · have H := Lib.hid (plNums_no hT)
    have HT := Lib.hid hT
    clear hT
    go_enter Try.func55, Try.ntmps55
    go_wp2_with fail
    (with_reducible refine (there_no l d c r _ HT hl hd hc hr).mono ?_); rintro e w1 ⟨rfl, hb⟩
    have F := (below1 w _).trans (hb.mono (by simp))
    clear hb
    go_wp2_with fail
    go_ret
    exact ⟨none, 0, by rw [H.out]; rfl, by rw [H.out]; exact RdJ.nil _ _ _, F⟩
  · refine (numbers_own l d c r w (Lib.hid hT) hl hd hc hr).mono ?_
    rintro e w' ⟨v, rfl, ho, hb⟩
    have hw := gWid_bd l d c
    obtain ⟨A, cp, rfl, hr⟩ := ho.rd (by rw [plNums_len hT]; omega)
    exact ⟨A, cp, rfl, hr, hb⟩
end Go.Proofs.Ytadfimimkkimmaa
end
section
set_option maxRecDepth 20000
set_option linter.unusedVariables false
set_option linter.unusedSimpArgs false
namespace Go.Proofs.Ytadfimimkkimmaa
open Go.RowKit

theorem solveB_len {N : Nat} {p q : List UInt8} {rs L : List (List UInt8)} (h : solveB N p q rs = some L) : L.length = rs.length := by
  unfold solveB at h
  split at h
  · injection h with h
    subst h
    rcases hm : missB rs with _ | ⟨i, _ | ⟨j, ms⟩⟩ <;> simp only [toldB, List.length_set, filledB_len]
  · cases h
theorem roTake_len {l d c r : Int} {xs L : List (List UInt8)} (h : roTake l d c r xs = some L) : L.length = roW l d := by
  unfold roTake at h
  split at h
  · rw [solveB_len h, dataL_len]
  · cases h
theorem srdL_len {N : Bch} {lv : List Bool} {l d c r : Int} (h : srdE N lv l d c r = 0) : (srdL N lv l d c r).length = roW l d := by
  unfold srdL
  rw [if_pos h]
  unfold srdE at h
  split at h
  · cases h
  · split at h
    · cases h
    · split at h
      · next hs =>
        obtain ⟨L, hL⟩ := Option.isSome_iff_exists.1 hs
        rw [hL]; exact roTake_len hL
      · cases h
/-- Where a number stands in its row. -/
theorem nums_at {l d c n : Int} (h : plOfOk l d c n = true) : plOk l d c (plOfR l d c n) = true ∧ kOf l d c n < roW l d ∧ (plNums l d c (plOfR l d c n)).length = roW l d ∧ (plNums l d c (plOfR l d c n)).getD (kOf l d c n) 0 = n ∧ (∀ j, j < kOf l d c n → (plNums l d c (plOfR l d c n)).getD j 0 ≠ n) ∧ plOfD l d c n = plD l d c (plOfR l d c n) (kOf l d c n : Nat) := by
  have hg := plOfOk_ok h
  obtain ⟨h0, h1⟩ := plOfOk_yes h
  obtain ⟨r0, r1, k0, k1, _, hN⟩ := of_row hg h0 h1
  obtain ⟨_, hr, hd, hk⟩ := of_yes hg h0 h1
  have hT := (plDok_yes hk).1
  have hw : gWid l d c = d - (l - 4) := gWid_yes hg
  have hW : ((roW l d : Nat) : Int) = d - (l - 4) := by unfold roW; omega
  have hK : ((kOf l d c n : Nat) : Int) = n / c % (d - (l - 4)) := by unfold kOf; omega
  rw [hr]
  refine ⟨hT, by omega, by rw [plNums_len hT, hw]; unfold roW; rfl, ?_, fun j hj e => ?_, by rw [hd, hK]⟩
  · rw [plNums_get hT (by omega), hK]; exact hN
  · rw [plNums_get hT (by omega)] at e
    have := (num_row (plDok_mk (k := (j : Int)) hT (by omega) (by omega))).2.2.2
    rw [e] at this
    omega
/-- One's answer. -/
def StpO (w : World) (E : Int) (bs : List UInt8) (e : Ending) (w' : World) : Prop := ∃ A c, e = .returned (.tuple #[.slice A bs.length c, .int .i64 E]) ∧ RdBF w.heap.size w' A bs ∧ Below w.heap.size w w'
theorem stpO_none {w w' : World} {E : Int} {bs : List UInt8} {e : Ending} (he : e = .returned (.tuple #[.slice none 0 0, .int .i64 E])) (hb : Below w.heap.size w w') (hn : bs = []) : StpO w E bs e w' := by
  subst hn
  exact ⟨none, 0, he, ⟨by simp, fun h => by simp at h⟩, hb⟩
theorem soneE_no {N : Bch} {lv : List Bool} {l d c n : Int} (h : plOfOk l d c n = false) : soneE N lv l d c n = 4 ∧ soneB N lv l d c n = [] := by
  have e : soneE N lv l d c n = 4 := if_pos h
  exact ⟨e, by unfold soneB; rw [if_pos (by rw [e]; decide)]⟩
theorem soneE_own {N : Bch} {lv : List Bool} {l d c n : Int} (h : plOfOk l d c n = true) (hs : srvD N lv (plOfD l d c n).toNat = true) : soneE N lv l d c n = (if N.down = true then 6 else 0) ∧ soneB N lv l d c n = if N.down = true then [] else secAt (N.D (plOfD l d c n).toNat).now (36 + (plOfR l d c n).toNat) := by
  have e : soneE N lv l d c n = (if N.down = true then 6 else 0) := by unfold soneE; rw [if_neg (by simp [h]), if_pos hs]
  refine ⟨e, ?_⟩
  unfold soneB
  rw [e]
  cases hd : N.down with
  | true => rfl
  | false => simp [hs]
theorem soneE_row {N : Bch} {lv : List Bool} {l d c n : Int} (h : plOfOk l d c n = true) (hs : srvD N lv (plOfD l d c n).toNat = false) : soneE N lv l d c n = srdE N lv l d c (plOfR l d c n) ∧ soneB N lv l d c n = if srdE N lv l d c (plOfR l d c n) ≠ 0 then [] else (srdL N lv l d c (plOfR l d c n)).getD (kOf l d c n) [] := by
  have e : soneE N lv l d c n = srdE N lv l d c (plOfR l d c n) := by unfold soneE; rw [if_neg (by simp [h]), if_neg (by simp [hs])]
  refine ⟨e, ?_⟩
  unfold soneB
  rw [e]
  simp [hs]
set_option maxHeartbeats 3200000 in
theorem stpOne_any (B b : Nat) (H : BH) (N : Bch) (w : World) (h : BAt w B b H N) (lv : List Bool) (A : Option Addr) (m cp : Nat) (hm : m = lv.length) (hv : RdO w w.heap.size A lv) (l d c n : Int)
    (hl : -9223372036854775808 ≤ l ∧ l ≤ 9223372036854775807) (hd : -9223372036854775808 ≤ d ∧ d ≤ 9223372036854775807) (hc : -9223372036854775808 ≤ c ∧ c ≤ 9223372036854775807) (hn : -9223372036854775808 ≤ n ∧ n ≤ 9223372036854775807) :
    Calls Try.prog 23 #[.pointer (some ⟨b, 0, none⟩), .slice A m cp, .agg #[.int .i64 l, .int .i64 d, .int .i64 c], .int .i64 n] w (StpO w (soneE N lv l d c n) (soneB N lv l d c n)) := by
  subst hm
  have G := gat_new w l d c 24 (0, 0)
  have CO := Lib.hid (fun W => of_any l d c n W hl hd hc hn)
  cases hok : plOfOk l d c n with
  | false =>
    rw [hok] at CO
    have HE := Lib.hid (soneE_no (N := N) (lv := lv) hok)
    generalize soneE N lv l d c n = E at HE ⊢
    generalize soneB N lv l d c n = bs at HE ⊢
    clear hok h hv
    go_enter Try.func23, Try.ntmps23
    go_wp2_with fail
    (with_reducible refine (CO.out _).mono ?_); rintro e w1 ⟨rfl, hb⟩
    have F := (below1 w _).trans (hb.mono (by simp))
    clear hb G
    go_wp2_with fail
    go_ret2
    exact stpO_none (by rw [HE.out.1]; rfl) F HE.out.2
  | true =>
    rw [hok] at CO
    obtain ⟨hT, hk, hnl, hat, hfst, hD⟩ := nums_at hok
    have hg := plOfOk_ok hok
    obtain ⟨_, ⟨d0, d1⟩, ⟨r0, r1⟩, _⟩ := of_back hg (plOfOk_yes hok).1 (plOfOk_yes hok).2
    have hd8 := gOk_bd hg
    have HEo := Lib.hid (soneE_own (N := N) (lv := lv) hok)
    have HEr := Lib.hid (soneE_row (N := N) (lv := lv) hok)
    have CRd := Lib.hid (fun W (hb : Below w.heap.size w W) (r : Int) (hr : -9223372036854775808 ≤ r ∧ r ≤ 9223372036854775807) => stpRead_any B b H N W (h.below hb) lv A lv.length cp rfl (hv.keep hb.size fun p hp => hb.cell hp) l d c r hl hd hc hr)
    have CNm := Lib.hid (fun W => numbers_any l d c (plOfR l d c n) W hl hd hc (by omega))
    have HLn := Lib.hid (@srdL_len N lv l d c (plOfR l d c n))
    generalize soneE N lv l d c n = E at HEo HEr ⊢
    generalize soneB N lv l d c n = bs at HEo HEr ⊢
    obtain ⟨di, hdi⟩ := Int.eq_ofNat_of_zero_le d0
    obtain ⟨ρ, hρ⟩ := Int.eq_ofNat_of_zero_le r0
    rw [hρ] at r0 r1 CNm hnl hat hfst HLn HEr
    rw [hdi] at d0 d1 HEr
    rw [hdi, hρ] at CO HEo
    have e1 : ((di : Int)).toNat = di := by omega
    have e2 : ((ρ : Int)).toNat = ρ := by omega
    rw [e1] at HEr
    rw [e1, e2] at HEo
    have CS := Lib.hid (fun W (hb : Below w.heap.size w W) => stpServes_any B b H N W (h.below hb) lv A lv.length cp rfl (hv.keep hb.size fun p hp => hb.cell hp) di (by omega))
    have CR := Lib.hid (fun W (hb : Below w.heap.size w W) => bch_read_any B b H N W (h.below hb) (di : Int) (36 + (ρ : Int)) ⟨by omega, by omega⟩ ⟨by omega, by omega⟩)
    have HRu := Lib.hid (fun (hs : srvD N lv di = true) (hdn : N.down = false) => Bch.read_ok (N := N) (d := di) (k := 36 + ρ) (srvD_yes hs).1 (by omega) (srvD_yes hs).2.2 hdn)
    have HRd := Lib.hid (fun (hs : srvD N lv di = true) (hdn : N.down = true) => show N.readE (di : Int) (36 + (ρ : Int)) = 6 ∧ N.read (di : Int) (36 + (ρ : Int)) = [] by
      have hpk : N.pickE (di : Int) = 0 := Bch.pickE_ok (by omega) (by have := (srvD_yes hs).1; omega)
      have e : N.readE (di : Int) (36 + (ρ : Int)) = 6 := by rw [(Bch.readE_pow _ (by rw [Bch.powE_down hpk hdn]; decide)).1, Bch.powE_down hpk hdn]
      exact ⟨e, by unfold Bch.read; rw [if_pos (by rw [e]; decide)]⟩)
    have hz : (w.alloc (.cells #[.int .i64 l, .int .i64 d, .int .i64 c] 24)).heap.size = w.heap.size + 1 := by simp
    have Hat := Lib.hid hat
    have Hfst := Lib.hid hfst
    have Hnl := Lib.hid hnl
    clear hok h hv hdi hρ hT hg hD hat hfst hnl
    unfold ptr at CR
    cases hs : srvD N lv di with
    | true =>
      rw [hs] at CS
      have HE := Lib.hid (HEo.out hs)
      have HX := Lib.hid (show ∃ E' bs', N.readE (di : Int) (36 + (ρ : Int)) = E' ∧ N.read (di : Int) (36 + (ρ : Int)) = bs' ∧ E = E' ∧ bs = bs' by
        refine ⟨_, _, rfl, rfl, ?_, ?_⟩
        · rw [HE.out.1]
          cases hdn : N.down with
          | true => rw [(HRd.out hs hdn).1]; rfl
          | false => rw [← show ((36 + ρ : Nat) : Int) = 36 + (ρ : Int) by omega, (HRu.out hs hdn).1]; rfl
        · rw [HE.out.2]
          cases hdn : N.down with
          | true => rw [(HRd.out hs hdn).2]; rfl
          | false => rw [← show ((36 + ρ : Nat) : Int) = 36 + (ρ : Int) by omega, (HRu.out hs hdn).2]; rfl)
      obtain ⟨E', bs', hE', hbs', h5, h6⟩ := HX.out
      rw [hE', hbs'] at CR
      subst h5 h6
      clear HEo HEr CRd CNm HLn HRu HRd HE HX hE' hbs' Hat Hfst Hnl hk hs
      go_enter Try.func23, Try.ntmps23
      go_wp2_with fail
      (with_reducible refine (CO.out _).mono ?_); rintro e w1 ⟨rfl, hb⟩
      have F := (below1 w _).trans (hb.mono (by simp))
      clear hb G
      go_wp2_with fail
      (with_reducible refine (CS.out _ F).mono ?_); rintro e w2 ⟨rfl, rfl⟩
      go_wp2_with fail
      (with_reducible refine (CR.out _ F).mono ?_); rintro e w3 ⟨v, rfl, ho, hb3⟩
      obtain ⟨A1, c1, rfl, _, _⟩ := ho.rd
      have ho2 := ho.rdbf.le F.size
      have F3 := F.trans (hb3.mono F.size)
      clear ho hb3
      go_wp2
      go_ret2
      exact ⟨A1, c1, rfl, ho2, F3⟩
    | false =>
      rw [hs] at CS
      have HE := HEr.out hs
      have CRd1 := Lib.hid (fun W hb => CRd.out W hb (ρ : Int) (by omega))
      clear HEo HEr CRd HRu HRd CR hs
      generalize srdE N lv l d c (ρ : Int) = E' at HE CRd1 HLn
      generalize srdL N lv l d c (ρ : Int) = rs at HE CRd1 HLn
      obtain ⟨rfl, hbs⟩ := HE
      by_cases h0 : E = 0
      · subst h0
        rw [if_neg (by simp)] at hbs
        have hln := HLn.out rfl
        have Hbs := Lib.hid hbs
        generalize plNums l d c (ρ : Int) = zs at CNm Hat Hfst Hnl
        generalize kOf l d c n = k at hk Hat Hfst Hbs
        clear hbs HLn
        go_enter Try.func23, Try.ntmps23
        go_wp2_with fail
        (with_reducible refine (CO.out _).mono ?_); rintro e w1 ⟨rfl, hb⟩
        have F := (below1 w _).trans (hb.mono (by simp))
        have gs1 : w.heap.size < w1.heap.size := by have := hb.size; rw [hz] at this; omega
        obtain ⟨g1, g2, g3⟩ := G.below hb (by rw [hz]; omega)
        clear hb
        go_wp2_with fail
        (with_reducible refine (CS.out _ F).mono ?_); rintro e w2 ⟨rfl, rfl⟩
        go_wp2_with fail
        (with_reducible refine (CRd1.out _ F).mono ?_); rintro e w3 ⟨v, rfl, ho, hb3⟩
        have F3 := F.trans (hb3.mono F.size)
        have G3 := GAt.below ⟨g1, g2, g3⟩ hb3 gs1
        have gs3 : w.heap.size < w3.heap.size := by have := hb3.size; omega
        obtain ⟨gd, cd, rfl, hor⟩ := (ho.le F.size).owr (by omega)
        obtain ⟨_, _, _, xs, hor1, hor2⟩ := hor
        obtain ⟨A1, c1, hx1, hx2, _⟩ := hor2.2 k (by omega)
        have h3 := (hor1.cellAt k (by omega)).trans hx1
        have hgd := (hor1.lt gd rfl).2
        rw [← Hbs.out] at h3 hx2
        rw [hln] at hor1 ⊢
        clear ho hb3 hor1 hor2 hx1 g1 g2 g3
        obtain ⟨g1, g2, g3⟩ := G3
        go_wp2_with fail
        (with_reducible refine (CNm.out _).mono ?_); rintro e w4 ⟨A4, c4, rfl, hr4, hb4⟩
        have hnl2 := Hnl.out
        have CI := Lib.hid (index_any A4 zs _ c4 n k w4 rfl hr4 (by omega) Hat.out Hfst.out)
        have F4 := F3.trans (hb4.mono F3.size)
        have h4 := (hb4.cell (p := ⟨gd, k, none⟩) hgd).trans h3
        have hx4 := hx2.keep hb4.size (fun p _ hp => hb4.cell hp)
        have k0 : (0 : Int) ≤ (k : Int) := by omega
        have k1 : (k : Int) < ((roW l d : Nat) : Int) := by omega
        clear hr4 hb4 hnl2 h3 hx2
        go_wp2_with fail
        (with_reducible refine CI.out.mono ?_); rintro e w5 ⟨rfl, rfl⟩
        go_wp2
        go_ret2
        exact ⟨A1, c1, rfl, hx4, F4⟩
      · rw [if_pos h0] at hbs
        subst hbs
        have e0 : (E != 0) = true := by rw [bne_iff_ne]; exact h0
        clear HLn CNm Hat Hfst Hnl h0
        go_enter Try.func23, Try.ntmps23
        go_wp2_with fail
        (with_reducible refine (CO.out _).mono ?_); rintro e w1 ⟨rfl, hb⟩
        have F := (below1 w _).trans (hb.mono (by simp))
        have gs1 : w.heap.size < w1.heap.size := by have := hb.size; rw [hz] at this; omega
        obtain ⟨g1, g2, g3⟩ := G.below hb (by rw [hz]; omega)
        clear hb
        go_wp2_with fail
        (with_reducible refine (CS.out _ F).mono ?_); rintro e w2 ⟨rfl, rfl⟩
        go_wp2_with fail
        (with_reducible refine (CRd1.out _ F).mono ?_); rintro e w3 ⟨v, rfl, _, hb3⟩
        have F3 := F.trans (hb3.mono F.size)
        clear hb3
        go_wp2_with fail
        go_ret2
        exact stpO_none rfl F3 rfl
end Go.Proofs.Ytadfimimkkimmaa
end
