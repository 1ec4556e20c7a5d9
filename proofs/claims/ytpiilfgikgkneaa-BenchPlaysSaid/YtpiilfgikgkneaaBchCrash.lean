/- What bench.Pending and bench.Crash compute. -/
import Derived.Test.YtpiilfgikgkneaaBchWrite
import Derived.Test.YtpiilfgikgkneaaBools
namespace Go.Proofs.Ytpiilfgikgkneaa
open Go.RowKit

theorem offs_mono (D : Nat → Dsk) {i n : Nat} (h : i ≤ n) : offs D i ≤ offs D n := by
  induction n with
  | zero => obtain rfl : i = 0 := by omega
            exact Nat.le_refl _
  | succ n ih =>
    by_cases e : i = n + 1
    · rw [e]; exact Nat.le_refl _
    · exact Nat.le_trans (ih (by omega)) (Nat.le_add_right _ _)
theorem offs_succ (D : Nat → Dsk) (i : Nat) : offs D (i + 1) = offs D i + (D i).ps.length := rfl
set_option maxHeartbeats 400000 in
theorem bch_pending_eq (B b : Nat) (H : BH) (N : Bch) (w : World) (h : BAt w B b H N) (hps : ∀ i, i < N.n → (N.D i).ps.length ≤ 2000000) :
    Calls Try.prog 16 #[ptr b] w fun e w' => e = .returned (.int .i64 (N.pend : Int)) ∧ w' = w := by
  have Hh := Lib.hid h
  have hc := h.cell 3 _ rfl
  have Hp := Lib.hid hps
  have hn := h.ok.n
  have HP : Hid (N.pend = offs N.D N.n) := rfl
  clear h hps
  unfold ptr
  go_enter Try.func16, Try.ntmps16
  go_wp2
  go_loopw [3, 11] (fun s i wr => ∃ k : Nat, k ≤ N.n ∧ i = .int .i64 k ∧ s = .int .i64 (offs N.D k : Int) ∧ wr = w) (fun _ i _ => N.n - (intOf i).toNat)
  case atStart => exact ⟨0, Nat.zero_le _, rfl, rfl, rfl⟩
  case round =>
    obtain ⟨k, hk, rfl, rfl, rfl⟩ := hrel
    by_cases hlt : k < N.n
    · have i0 : (0 : Int) ≤ (k : Int) := by omega
      have i1 : (k : Int) < (N.n : Int) := by omega
      have hr := Hh.out
      have hp : wr.cell? ⟨H.g, k, none⟩ = some (.pointer (some ⟨H.bk k, 0, none⟩)) := hr.pcell hlt
      have CD := Lib.hid (dsk_pending_any _ _ _ _ wr (hr.dsk k hlt))
      have h1 := offs_pend N.D k fun i hi => Hp.out i (by omega)
      have h2 := Hp.out k hlt
      have n1 : IntKind.i64.wrap ((offs N.D k : Int) + ((N.D k).ps.length : Int)) = (offs N.D k : Int) + ((N.D k).ps.length : Int) := by rw [IntKind.wrap_i64]; omega
      have HS := Lib.hid (show (offs N.D k : Int) + ((N.D k).ps.length : Int) = (offs N.D (k + 1) : Int) by rw [offs_succ]; omega)
      clear hr
      generalize (N.D k).ps.length = p at CD n1 HS h2
      generalize offs N.D k = o at n1 HS h1 ⊢
      go_wp2_with fail
      refine CD.out.mono ?_
      rintro e w2 ⟨rfl, rfl⟩
      go_wp2
      go_roundw
      case rel => exact ⟨k + 1, by omega, by go_num, by rw [HS.out], by first | rfl | trivial⟩
      case measure => simp [intOf]; omega
    · obtain rfl : k = N.n := by omega
      go_wp2
      go_ret
      exact ⟨by rw [HP.out]; rfl, by first | rfl | trivial⟩
theorem bch_pending_any (B b : Nat) (H : BH) (N : Bch) (w : World) (h : BAt w B b H N) (hps : ∀ i, i < N.n → (N.D i).ps.length ≤ 2000000) :
    Calls Try.prog 16 #[ptr b] w fun e w' => e = .returned (.int .i64 (N.pend : Int)) ∧ Below w.heap.size w w' := by
  refine (bch_pending_eq B b H N w h hps).mono ?_
  rintro e w' ⟨rfl, rfl⟩
  exact ⟨rfl, Below.refl _ _⟩
theorem Bch.crTo_zero (N : Bch) (ks : List Bool) : N.crTo ks 0 = N := rfl
theorem Bch.crTo_at (N : Bch) (ks : List Bool) (k : Nat) : (N.crTo ks k).D k = N.D k := if_neg (Nat.lt_irrefl k)
theorem Bch.crTo_succ (N : Bch) (ks : List Bool) (k : Nat) : (N.crTo ks k).set k ((N.D k).crash (ks.drop (offs N.D k))) = N.crTo ks (k + 1) := by
  unfold Bch.set Bch.crTo
  congr 1
  funext j
  show upd (fun i => if i < k then (N.D i).crash (ks.drop (offs N.D i)) else N.D i) k _ j = if j < k + 1 then _ else _
  by_cases e : j = k
  · subst e; rw [upd_same, if_pos (by omega)]
  · rw [upd_other _ _ e]
    show (if j < k then _ else _) = _
    by_cases c : j < k
    · rw [if_pos c, if_pos (by omega)]
    · rw [if_neg c, if_neg (by omega)]
theorem RdO.take {w : World} {B : Nat} {A : Option Addr} {ks : List Bool} (h : RdO w B A ks) (k : Nat) : RdO w B A (ks.take k) :=
  ⟨by have := h.1; simp; omega, fun hn => by
    have hk : 0 < k ∧ 0 < ks.length := by simp at hn; omega
    obtain ⟨b, off, e, hb, hc⟩ := h.2 hk.2
    refine ⟨b, off, e, hb, fun j hj => ?_⟩
    have hj' : j < k ∧ j < ks.length := by simp at hj; omega
    rw [hc j hj'.2]
    simp [hj'.1]⟩
theorem RdO.chg {F : Nat → Prop} {w w' : World} {B : Nat} {A : Option Addr} {ks : List Bool} (h : RdO w B A ks) (hc : Chg F w w') (hB : B ≤ w.heap.size) (hn : ∀ a, 0 < ks.length → A = some a → ¬ F a.block) : RdO w' B A ks :=
  ⟨h.1, fun h0 => by
    obtain ⟨b, off, e, hb, hk⟩ := h.2 h0
    refine ⟨b, off, e, hb, fun k hkl => ?_⟩
    rw [← hk k hkl]
    have := hc.block b (by omega) (hn _ h0 e)
    unfold World.cell?
    simp only [this]⟩
theorem RdO.more {w : World} {B B' : Nat} {A : Option Addr} {ks : List Bool} (h : RdO w B A ks) (hB : B ≤ B') : RdO w B' A ks := h.keep hB fun _ _ => rfl
theorem drop_min (ks : List Bool) (o p : Nat) : (ks.drop o).drop (min p (ks.drop o).length) = ks.drop (o + p) := by
  by_cases h : p ≤ (ks.drop o).length
  · rw [Nat.min_eq_left h, List.drop_drop]
  · rw [Nat.min_eq_right (by omega), List.drop_length, List.drop_eq_nil_of_le]
    simp at h
    omega
set_option maxHeartbeats 400000 in
theorem bch_crash_any (B b : Nat) (H : BH) (N : Bch) (w : World) (h : BAt w B b H N) (ks : List Bool) (A : Option Addr) (n c : Nat) (hn : n = ks.length) (hc : ks.length ≤ c) (hk : RdO w w.heap.size A ks) (q : Nat) (hq : 0 < ks.length → ∀ a, A = some a → a.block = q) (hqn : ¬ BF b H N.n q) (hps : ∀ i, i < N.n → (N.D i).ps.length ≤ 2000000) :
    Calls Try.prog 12 #[ptr b, .slice A n c] w fun e w' => e = .returned (.tuple #[]) ∧ BTo w w' B b H N.n (N.crash ks) := by
  subst hn
  have Hh := Lib.hid h
  have hc3 := h.cell 3 _ rfl
  have Hp := Lib.hid hps
  have hn8 := h.ok.n
  have Hqn := Lib.hid hqn
  have HK := Lib.hid (show ∃ A', (∃ c1, ks.length ≤ c1 ∧ c = c1) ∧ A = A' from ⟨A, ⟨c, hc, rfl⟩, rfl⟩)
  clear h hps hqn HK
  unfold ptr
  go_enter Try.func12, Try.ntmps12
  go_wp2
  go_loopw [1, 12] (fun s i wr => ∃ k : Nat, k ≤ N.n ∧ i = .int .i64 k ∧ (∃ A' n' c', s = .slice A' n' c' ∧ n' = (ks.drop (offs N.D k)).length ∧ n' ≤ c' ∧ RdO w w.heap.size A' (ks.drop (offs N.D k)) ∧ (0 < (ks.drop (offs N.D k)).length → ∀ a, A' = some a → a.block = q)) ∧ BTo w wr B b H N.n (N.crTo ks k)) (fun _ i _ => N.n - (intOf i).toNat)
  case atStart => exact ⟨0, Nat.zero_le _, rfl, ⟨A, _, c, rfl, rfl, hc, hk, hq⟩, Hh.out.self⟩
  case round =>
    clear hk hq hc
    obtain ⟨k, hk8, rfl, ⟨A1, n1, c1, rfl, hn1, hc1, hr1, hq1⟩, ⟨H1, a1, ch1, ⟨_, g1⟩, m1⟩⟩ := hrel
    have Hg := Lib.hid g1
    have Ha := Lib.hid a1
    have Hch := Lib.hid ch1
    have Hm := Lib.hid m1
    by_cases hlt : k < N.n
    · have hR := hr1.chg ch1 (Nat.le_refl _) (fun a h0 e => by rw [hq1 h0 a e]; exact Hqn.out)
      have hp : wr.cell? ⟨H.g, k, none⟩ = some (.pointer (some ⟨H1.bk k, 0, none⟩)) := by rw [← g1]; exact a1.pcell hlt
      have hd1 := a1.dsk k hlt
      rw [N.crTo_at] at hd1
      have hps := Hp.out k hlt
      have CP := Lib.hid (dsk_pending_any _ _ _ _ wr hd1)
      have Hdr := Lib.hid (drop_min ks (offs N.D k) (N.D k).ps.length)
      rw [← hn1] at Hdr
      obtain ⟨m, hm⟩ : ∃ m, min (N.D k).ps.length n1 = m := ⟨_, rfl⟩
      rw [hm] at Hdr
      have hmif : (if n1 < (N.D k).ps.length then (n1 : Int) else ((N.D k).ps.length : Int)) = (m : Int) := by split <;> omega
      have HRd := Lib.hid hr1
      have Htk := Lib.hid (crash_take (N.D k) (ks.drop (offs N.D k)))
      rw [← hn1, hm] at Htk
      have hml : m ≤ n1 := by omega
      have hlen := ks.length_drop (i := offs N.D k)
      have CC := Lib.hid (dsk_crash_any _ _ _ _ A1 ((ks.drop (offs N.D k)).take m) m c1 wr hd1 (by rw [List.length_take]; omega) ((hR.take m).more (Hch.out.size)) (fun a h0 e => by
        rw [hq1 (by rw [List.length_take] at h0; omega) a e]
        intro e2
        rcases Hm.out q (.inr (.inr ⟨k, hlt, .inl e2⟩)) with h1 | h1
        · exact Hqn.out h1
        · obtain ⟨bb, off, e3, hb3, _⟩ := hr1.2 (by rw [List.length_take] at *; omega)
          have := hq1 (by rw [List.length_take] at h0; omega) _ e3
          simp only at this
          omega) hps)
      rw [Htk.out] at CC
      have Hst := Lib.hid (show ∀ w2, DskAt w2 B (H1.bk k) (.slice none 0 0) ((N.D k).crash (ks.drop (offs N.D k))) → Chg (DF (H1.bk k) (H1.pv k)) wr w2 → BTo w w2 B b H N.n (N.crTo ks (k + 1)) from fun w2 hd2 hc2 =>
        BTo.seq Hch.out Hg.out Hm.out (by have := Ha.out.step hlt hd2 hc2 (NewOr.none _ _); rw [N.crTo_succ] at this; exact this))
      have HR2 := Lib.hid (show RdO w w.heap.size (if c1 = m then A1 else A1.map (·.add m)) (ks.drop (offs N.D (k + 1))) by
        rw [offs_succ, ← Hdr.out]; exact HRd.out.drop m c1 (by omega))
      have Hl2 := Lib.hid (show n1 - m = (ks.drop (offs N.D (k + 1))).length by rw [offs_succ, ← Hdr.out, List.length_drop (i := m)]; omega)
      have Hq2 := Lib.hid (show 0 < (ks.drop (offs N.D (k + 1))).length → ∀ a, (if c1 = m then A1 else A1.map (·.add m)) = some a → a.block = q from fun h0 a e => by
        have hq1 := hq1 (by rw [offs_succ, List.length_drop] at h0; omega)
        split at e
        · exact hq1 a e
        · rcases A1 with _ | a0
          · cases e
          · obtain rfl := Option.some.inj e
            have := hq1 a0 rfl
            show (a0.add m).block = q
            unfold Addr.add
            split <;> exact this)
      have i0 : (0 : Int) ≤ (k : Int) := by omega
      have i1 : (k : Int) < (N.n : Int) := by omega
      have hmx : max (m : Int) 0 = (m : Int) := by omega
      have m0 : (0 : Int) ≤ (m : Int) := by omega
      clear m1
      have m1 : (m : Int) ≤ (c1 : Int) := by omega
      have m2 : (m : Int) ≤ (n1 : Int) := by omega
      have hkl : n1 ≤ 9223372036854775807 := by rw [hn1]; exact hr1.1
      clear hn1
      have hsp : (n1 < (N.D k).ps.length ∧ m = n1) ∨ (¬ n1 < (N.D k).ps.length ∧ m = (N.D k).ps.length) := by omega
      clear hr1 hq1 hR hd1 a1 ch1 g1 hlen hm hmif
      generalize (N.D k).ps.length = pl at *
      rcases hsp with ⟨hcmp, rfl⟩ | ⟨hcmp, rfl⟩
      all_goals
        go_wp2_with fail
        refine CP.out.mono ?_
        rintro e wr ⟨rfl, rfl⟩
        go_wp2_with fail
        refine CC.out.mono ?_
        rintro e w2 ⟨rfl, hd2, hc2⟩
        have Hto := Lib.hid (Hst.out w2 hd2 hc2)
        clear hd2 hc2
        go_wp2_with fail
        go_roundw
      · exact ⟨k + 1, by omega, by go_num, ⟨_, 0, _, rfl, by rw [← Hl2.out]; omega, Nat.zero_le _, HR2.out, Hq2.out⟩, Hto.out⟩
      · simp [intOf]; omega
      · exact ⟨k + 1, by omega, by go_num, ⟨_, _, _, rfl, Hl2.out, by omega, HR2.out, Hq2.out⟩, Hto.out⟩
      · simp [intOf]; omega
    · obtain rfl : k = N.n := by omega
      have CR := Lib.hid (bch_restore_any B b H1 _ wr a1)
      clear hr1 hq1 a1 ch1 g1 m1
      unfold ptr at CR
      go_wp2_with fail
      refine CR.out.mono ?_
      rintro e w2 ⟨rfl, ht⟩
      have ht2 : BTo w w2 B b H N.n (N.crash ks) := BTo.seq Hch.out Hg.out Hm.out ht
      go_wp2
      go_end0
      exact ⟨rfl, ht2⟩
end Go.Proofs.Ytpiilfgikgkneaa
