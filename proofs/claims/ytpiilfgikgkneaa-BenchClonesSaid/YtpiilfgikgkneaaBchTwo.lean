/- Two benches beside one another; what stays of a bench whose disks have not failed. -/
import Derived.Test.YtpiilfgikgkneaaBchP
namespace Go.Proofs.Ytpiilfgikgkneaa
open Go.RowKit

/-- So many disks that have not failed, with at most i writes. -/
structure Nice (N : Bch) (n i : Nat) : Prop where
  n : N.n = n
  f : ∀ d, (N.D d).f = false
  ps : ∀ d, (N.D d).ps.length ≤ i
  done : N.done ≤ i
theorem Nice.new (n : Nat) : Nice (Bch.new n) n 0 := ⟨rfl, fun _ => rfl, fun _ => Nat.le_refl _, Nat.le_refl _⟩
section
variable {N : Bch} {n i : Nat}
theorem Nice.more {j : Nat} (h : Nice N n i) (hj : i ≤ j) : Nice N n j := ⟨h.n, h.f, fun d => Nat.le_trans (h.ps d) hj, Nat.le_trans h.done hj⟩
theorem Nice.set (h : Nice N n i) (d : Nat) {X : Dsk} (hf : X.f = false) (hp : X.ps.length ≤ i) : Nice (N.set d X) n i :=
  ⟨h.n, fun j => by
    show (upd N.D d X j).f = false
    by_cases e : j = d
    · rw [e, upd_same]; exact hf
    · rw [upd_other _ _ e]; exact h.f j, fun j => by
    show (upd N.D d X j).ps.length ≤ i
    by_cases e : j = d
    · rw [e, upd_same]; exact hp
    · rw [upd_other _ _ e]; exact h.ps j, h.done⟩
theorem Nice.count (h : Nice N n i) : Nice N.count n (i + 1) := by
  unfold Bch.count
  split
  · exact ⟨h.n, h.f, fun d => Nat.le_succ_of_le (h.ps d), Nat.le_succ_of_le h.done⟩
  · exact ⟨h.n, h.f, fun d => Nat.le_succ_of_le (h.ps d), Nat.succ_le_succ h.done⟩
theorem Nice.write (h : Nice N n i) (d k : Int) (x : List UInt8) : Nice (N.write d k x) n (i + 1) := by
  unfold Bch.write
  split
  · exact h.more (Nat.le_succ _)
  · split
    · exact h.more (Nat.le_succ _)
    · split
      · exact h.count
      · refine Nice.more (i := i + 1) ?_ (Nat.le_refl _)
        have h2 : Nice (N.set d.toNat ((N.at_ d).write k.toNat x)) n (i + 1) := (h.more (Nat.le_succ i)).set _ (h.f _) (by
          show ((N.at_ d).ps ++ [(k.toNat, x)]).length ≤ i + 1
          rw [List.length_append]
          exact Nat.succ_le_succ (h.ps _))
        have h3 : Nice (N.set d.toNat ((N.at_ d).write k.toNat x)).count n (i + 2) := h2.count
        refine ⟨h3.n, h3.f, fun j => ?_, ?_⟩
        · rw [Bch.count_D]; exact h2.ps j
        · unfold Bch.count
          split
          · exact h2.done
          · exact Nat.succ_le_succ h.done
theorem Nice.flush (h : Nice N n i) (d : Int) : Nice (N.flush d) n i := by
  unfold Bch.flush
  split
  · exact h
  · have hf : (N.at_ d).f = false := h.f _
    have e : (N.at_ d).flushE = (N.at_ d).flush := by unfold Dsk.flushE; rw [if_neg (by rw [hf]; simp)]
    rw [e]
    exact h.set _ hf (Nat.zero_le _)
theorem Nice.limit (h : Nice N n i) (v : Int) : Nice (N.limit v) n i := by
  unfold Bch.limit
  split
  · exact h
  · exact ⟨h.n, h.f, h.ps, h.done⟩
theorem Nice.crash (h : Nice N n i) (ks : List Bool) : Nice (N.crash ks) n i :=
  ⟨h.n, fun d => by
    show (if d < N.n then _ else _ : Dsk).f = false
    split
    · exact h.f d
    · exact h.f d, fun d => by
    show (if d < N.n then _ else _ : Dsk).ps.length ≤ i
    split
    · exact Nat.zero_le _
    · exact h.ps d, h.done⟩
theorem Nice.psb (h : Nice N n i) (hi : i ≤ 2000000) : ∀ j, j < N.n → (N.D j).ps.length ≤ 2000000 := fun j _ => Nat.le_trans (h.ps j) hi
end
theorem limit_n (N : Bch) (v : Int) : (N.limit v).n = N.n := by unfold Bch.limit; split <;> rfl
theorem fail_n (N : Bch) (d : Int) : (N.fail d).n = N.n := by unfold Bch.fail; split <;> rfl
theorem flush_n (N : Bch) (d : Int) : (N.flush d).n = N.n := by unfold Bch.flush; split <;> rfl
theorem replace_n (N : Bch) (d : Int) : (N.replace d).n = N.n := by unfold Bch.replace; split <;> rfl
theorem damage_n (N : Bch) (d k : Int) (x : List UInt8) : (N.damage d k x).n = N.n := by unfold Bch.damage; split <;> rfl
/-- Two benches beside one another. -/
structure P2 (W w : World) (b : Nat) (H : BH) (N : Bch) (b2 : Nat) (H2 : BH) (N2 : Bch) : Prop where
  p1 : BP W w b H N
  p2 : BP W w b2 H2 N2
  ap : ∀ k, BF b H N.n k → ¬ BF b2 H2 N2.n k
section
variable {W w w' : World} {b b2 : Nat} {H H2 : BH} {N N2 : Bch}
theorem P2.symm (h : P2 W w b H N b2 H2 N2) : P2 W w b2 H2 N2 b H N := ⟨h.p2, h.p1, fun k h2 h1 => h.ap k h1 h2⟩
theorem P2.grow (h : P2 W w b H N b2 H2 N2) (hb : Below w.heap.size w w') : P2 W w' b H N b2 H2 N2 := ⟨h.p1.grow hb, h.p2.grow hb, h.ap⟩
theorem P2.step1 (h : P2 W w b H N b2 H2 N2) {N' : Bch} (hn : N'.n = N.n) (hc : BC W w w' b H N.n N') : ∃ H', P2 W w' b H' N' b2 H2 N2 := by
  obtain ⟨H', hp, hg, hm⟩ := hc
  have hd : ∀ k, BF b2 H2 N2.n k → ¬ BF b H N.n k := fun k h2 h1 => h.ap k h1 h2
  refine ⟨H', hp, ⟨h.p2.at'.chg hg hd, h.p2.bel.trans (hg.below (fun k hk => (h.p1.at'.flt hk).1) h.p2.bel.size)⟩, fun k h1 h2 => ?_⟩
  rw [hn] at h1
  rcases hm k h1 with e | e
  · exact h.ap k e h2
  · have := (h.p2.at'.flt h2).2; omega
theorem P2.step2 (h : P2 W w b H N b2 H2 N2) {N' : Bch} (hn : N'.n = N2.n) (hc : BC W w w' b2 H2 N2.n N') : ∃ H', P2 W w' b H N b2 H' N' := by
  obtain ⟨H', hp⟩ := h.symm.step1 hn hc
  exact ⟨H', hp.symm⟩
end
theorem bp_clone (W w : World) (b : Nat) (H : BH) (N : Bch) (h : BP W w b H N) (hps : ∀ i, i < N.n → (N.D i).ps.length ≤ 2000000) :
    Calls Try.prog 33 #[.pointer (some ⟨b, 0, none⟩)] w fun e w' => ∃ b' H', e = .returned (.pointer (some ⟨b', 0, none⟩)) ∧ P2 W w' b H N b' H' N ∧ Below w.heap.size w w' := by
  refine (bch_clone_any _ b H N w h.at' hps).mono ?_
  rintro e w' ⟨b', H', rfl, a, hb⟩
  exact ⟨b', H', rfl, ⟨h.grow hb, ⟨a.mono h.bel.size, h.bel.trans (hb.mono h.bel.size)⟩, fun k h1 h2 => by have := (a.flt h2).1; have := (h.at'.flt h1).2; omega⟩, hb⟩
end Go.Proofs.Ytpiilfgikgkneaa
