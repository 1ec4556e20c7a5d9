/- A disk and the statements' own disk beside one another, and a source of bytes. -/
import Derived.Test.YtcgajfjlkojnlaaMdlRead
import Derived.Test.YtcgajfjlkojnlaaMdlFlush
import Derived.Test.YtcgajfjlkojnlaaMdlCrash
import Derived.Test.YtcgajfjlkojnlaaMdlDamage
import Derived.Test.YtcgajfjlkojnlaaDskAllD
import Derived.Test.YtcgajfjlkojnlaaDskClone
import Derived.Test.YtcgajfjlkojnlaaOff
namespace Go.Proofs.Ytcgajfjlkojnlaa
open Go.RowKit

structure PXs (W w : World) (b mb j : Nat) (D E : Dsk) (g : Nat) (x : List UInt8) (mm n : Nat) (pv av xv : Value) (F : Int → Option (List UInt8)) : Prop where
  d : DskAt w W.heap.size b pv D
  m : MdlAt w W.heap.size mb mm n av xv E F
  ap : ∀ k, DF b pv k → ¬ MF mb mm av xv k
  ld : D.ps.length ≤ j
  le : E.ps.length ≤ j
  ln : n ≤ 100 * j
  hb : Below W.heap.size W w
  xr : RdB w w.heap.size (some ⟨g, 0, none⟩) x
  xg : 0 < x.length → g < w.heap.size ∧ ¬ DF b pv g ∧ ¬ MF mb mm av xv g
/-- The disk D at b, the model E at mb, the bytes x at g. -/
def PX (W w : World) (b mb j : Nat) (D E : Dsk) (g : Nat) (x : List UInt8) : Prop := ∃ mm n pv av xv F, PXs W w b mb j D E g x mm n pv av xv F
section
variable {W w w' : World} {b mb j g mm n : Nat} {D E D' E' : Dsk} {x : List UInt8} {pv pv' av xv : Value} {F : Int → Option (List UInt8)}
theorem RdB.at {B B' : Nat} (h : RdB w B (some ⟨g, 0, none⟩) x) (hk : 0 < x.length → w'.heap[g]? = w.heap[g]?) (hB : B ≤ B') : RdB w' B' (some ⟨g, 0, none⟩) x := by
  rcases Nat.eq_zero_or_pos x.length with h0 | hp
  · obtain rfl := List.eq_nil_of_length_eq_zero h0; exact RdB.nil _ _ _
  · exact (h.stays fun a ha => by injection ha with ha; subst ha; exact hk hp).more hB
theorem PXs.disk (h : PXs W w b mb j D E g x mm n pv av xv F) (hd : DskAt w' W.heap.size b pv' D') (hc : Chg (DF b pv) w w') (hn : NewOr w pv pv') (hl : D'.ps.length ≤ j + 1) : PX W w' b mb (j + 1) D' E g x :=
  ⟨mm, n, pv', av, xv, F, hd, h.m.chg hc fun k hk hD => h.ap k hD hk, fun k hD hM => h.ap k (DF.new hn hD (h.m.lt hM).2) hM, hl, by have := h.le; omega, by have := h.ln; omega, h.hb.trans (hc.below (B := W.heap.size) (fun _ e => DF.le h.d e) h.hb.size),
    h.xr.at (fun hp => hc.block g (h.xg hp).1 (h.xg hp).2.1) hc.size, fun hp => ⟨Nat.lt_of_lt_of_le (h.xg hp).1 hc.size, fun e => (h.xg hp).2.1 (DF.new hn e (h.xg hp).1), (h.xg hp).2.2⟩⟩
theorem DF.lt (h : DskAt w j b pv D) {k : Nat} (hk : DF b pv k) : k < w.heap.size := by
  rcases hk with rfl | hk
  · exact h.lt
  · exact (h.plt k hk).2
theorem PXs.model {k : Nat} (h : PXs W w b mb j D E g x mm n pv av xv F) (hm : MdlTo w w' W.heap.size mb mm n av xv k E') (hk : k ≤ 100) (hl : E'.ps.length ≤ j + 1) : PX W w' b mb (j + 1) D E' g x := by
  obtain ⟨mm', n', av', xv', F', hm', hn', hc, hnew⟩ := hm
  exact ⟨mm', n', pv, av', xv', F', h.d.chg hc (h.ap b (.inl rfl)) (fun k hk => h.ap k (.inr hk)), hm', fun k hD hM => (hnew k hM).elim (h.ap k hD) (fun e => by have := DF.lt h.d hD; omega), by have := h.ld; omega, hl, by have := h.ln; omega,
    h.hb.trans (hc.below (B := W.heap.size) (fun _ e => (h.m.lt e).1) h.hb.size), h.xr.at (fun hp => hc.block g (h.xg hp).1 (h.xg hp).2.2) hc.size,
    fun hp => ⟨Nat.lt_of_lt_of_le (h.xg hp).1 hc.size, (h.xg hp).2.1, fun e => (hnew g e).elim (h.xg hp).2.2 (fun e => by have := (h.xg hp).1; omega)⟩⟩
theorem PX.below (h : PX W w b mb j D E g x) (hb : Below w.heap.size w w') : PX W w' b mb j D E g x := by
  obtain ⟨mm, n, pv, av, xv, F, h⟩ := h
  exact ⟨mm, n, pv, av, xv, F, h.d.below hb, h.m.below hb, h.ap, h.ld, h.le, h.ln, h.hb.trans (hb.mono h.hb.size), h.xr.at (fun hp => hb.block g (h.xg hp).1) hb.size, fun hp => ⟨Nat.lt_of_lt_of_le (h.xg hp).1 hb.size, (h.xg hp).2⟩⟩
theorem PX.mono {j' : Nat} (h : PX W w b mb j D E g x) (hj : j ≤ j') : PX W w b mb j' D E g x := by
  obtain ⟨mm, n, pv, av, xv, F, h⟩ := h
  exact ⟨mm, n, pv, av, xv, F, h.d, h.m, h.ap, Nat.le_trans h.ld hj, Nat.le_trans h.le hj, by have := h.ln; omega, h.hb, h.xr, h.xg⟩
theorem PX.drop (h : PX W w b mb j D E g x) : PX W w b mb j D E 0 [] := by
  obtain ⟨mm, n, pv, av, xv, F, h⟩ := h
  exact ⟨mm, n, pv, av, xv, F, h.d, h.m, h.ap, h.ld, h.le, h.ln, h.hb, RdB.nil _ _ _, fun hp => by simp at hp⟩
theorem PX.src {g' : Nat} {x' : List UInt8} (h : PX W w b mb j D E g x) (hb : Below w.heap.size w w') (hr : RdB w' w'.heap.size (some ⟨g', 0, none⟩) x') (hg : w.heap.size ≤ g' ∧ g' < w'.heap.size) : PX W w' b mb j D E g' x' := by
  obtain ⟨mm, n, pv, av, xv, F, h⟩ := h
  exact ⟨mm, n, pv, av, xv, F, h.d.below hb, h.m.below hb, h.ap, h.ld, h.le, h.ln, h.hb.trans (hb.mono h.hb.size), hr, fun _ => ⟨hg.2, fun e => by have := DF.lt h.d e; omega, fun e => by have := (h.m.lt e).2; omega⟩⟩
theorem PX.take (h : PX W w b mb j D E g x) (k : Nat) : PX W w b mb j D E g (x.take k) := by
  obtain ⟨mm, n, pv, av, xv, F, h⟩ := h
  exact ⟨mm, n, pv, av, xv, F, h.d, h.m, h.ap, h.ld, h.le, h.ln, h.hb, h.xr.take k, fun hp => h.xg (by rw [List.length_take] at hp; omega)⟩
theorem PX.hb (h : PX W w b mb j D E g x) : Below W.heap.size W w := by obtain ⟨_, _, _, _, _, _, h⟩ := h; exact h.hb
theorem PX.rd (h : PX W w b mb j D E g x) : RdB w w.heap.size (some ⟨g, 0, none⟩) x := by obtain ⟨_, _, _, _, _, _, h⟩ := h; exact h.xr
theorem PX.dok (h : PX W w b mb j D E g x) : D.Ok := by obtain ⟨_, _, _, _, _, _, h⟩ := h; exact h.d.ok
/-- Whether the model has failed. -/
theorem PX.failed (h : PX W w b mb j D E g x) : w.cell? ⟨mb, 3, none⟩ = some (.bool E.f) := by obtain ⟨_, _, _, _, _, _, h⟩ := h; exact h.m.cell 3 _ rfl
variable (h : PX W w b mb j D E g x)
include h
/-! The disk's calls. -/
theorem px_write (hj : j ≤ 100) (k : Int) (hk : -9223372036854775808 ≤ k ∧ k ≤ 9223372036854775807) (l c : Nat) (hl : l = x.length) :
    Calls Try.prog 12 #[.pointer (some ⟨b, 0, none⟩), .int .i64 k, .slice (some ⟨g, 0, none⟩) l c] w fun e w' => e = .returned (.int .i64 (takeE D.f k l)) ∧ PX W w' b mb (j + 1) (D.writeE k x) E g x := by
  obtain ⟨mm, n, pv, av, xv, F, h⟩ := h
  refine (dsk_write_any _ _ _ _ w h.d k x _ l c hl hk h.xr (by have := h.ld; omega)).mono ?_
  rintro e w' ⟨pv', rfl, hd, hc, hn⟩
  exact ⟨rfl, h.disk hd hc hn (by have := Dsk.writeE_len D k x; have := h.ld; omega)⟩
theorem px_damage (hj : j ≤ 100) (k : Int) (hk : -9223372036854775808 ≤ k ∧ k ≤ 9223372036854775807) (l c : Nat) (hl : l = x.length) :
    Calls Try.prog 13 #[.pointer (some ⟨b, 0, none⟩), .int .i64 k, .slice (some ⟨g, 0, none⟩) l c] w fun e w' => e = .returned (.int .i64 (takeE D.f k l)) ∧ PX W w' b mb (j + 1) (D.damageE k x) E g x := by
  obtain ⟨mm, n, pv, av, xv, F, h⟩ := h
  refine (dsk_damage_any _ _ _ _ w h.d k x _ l c hl hk h.xr (by have := h.ld; omega)).mono ?_
  rintro e w' ⟨pv', rfl, hd, hc, hn⟩
  exact ⟨rfl, h.disk hd hc hn (by have := Dsk.damageE_len D k x; have := h.ld; omega)⟩
theorem px_flush : Calls Try.prog 15 #[.pointer (some ⟨b, 0, none⟩)] w fun e w' => e = .returned (.int .i64 (if D.f = true then 5 else 0)) ∧ PX W w' b mb (j + 1) D.flushE E g x := by
  obtain ⟨mm, n, pv, av, xv, F, h⟩ := h
  refine (dsk_flush_any _ _ _ _ w h.d).mono ?_
  rintro e w' ⟨pv', rfl, hd, hc, hn⟩
  exact ⟨rfl, h.disk hd hc hn (by have := Dsk.flushE_len D; have := h.ld; omega)⟩
theorem px_read (k : Int) (hk : -9223372036854775808 ≤ k ∧ k ≤ 9223372036854775807) : Calls Try.prog 11 #[.pointer (some ⟨b, 0, none⟩), .int .i64 k] w fun e w' => ∃ v, e = .returned (.tuple #[v, .int .i64 (reachE D.f k)]) ∧ OwB 5 w' w.heap.size v (D.readE k) ∧ Below w.heap.size w w' := by
  obtain ⟨mm, n, pv, av, xv, F, h⟩ := h
  exact dsk_read_any _ _ _ _ w h.d k hk
theorem px_crash (hj : j ≤ 100) (A : Option Addr) (ks : List Bool) (l c : Nat) (hl : ks.length = l) (hr : RdO w W.heap.size A ks) :
    Calls Try.prog 17 #[.pointer (some ⟨b, 0, none⟩), .slice A l c] w fun e w' => e = .returned (.tuple #[]) ∧ PX W w' b mb (j + 1) (D.crash ks) E g x := by
  obtain ⟨mm, n, pv, av, xv, F, h⟩ := h
  refine (dsk_crash_any _ b pv D A ks l c w h.d hl (hr.keep h.hb.size fun _ _ => rfl) (fun a hp ha => by
    obtain ⟨kb, off, e, hkb, _⟩ := hr.2 hp
    rw [ha] at e; injection e with e; subst e
    have := h.d.le
    show kb ≠ b
    omega) (by have := h.ld; omega)).mono ?_
  rintro e w' ⟨rfl, hd, hc⟩
  exact ⟨rfl, h.disk hd hc (NewOr.none _ _) (by simp [Dsk.crash])⟩
theorem px_fail : Calls Try.prog 16 #[.pointer (some ⟨b, 0, none⟩)] w fun e w' => e = .returned (.tuple #[]) ∧ PX W w' b mb (j + 1) Dsk.failed E g x := by
  obtain ⟨mm, n, pv, av, xv, F, h⟩ := h
  refine (dsk_fail_any _ _ _ _ w h.d).mono ?_
  rintro e w' ⟨rfl, hd, hc⟩
  exact ⟨rfl, h.disk hd hc (NewOr.none _ _) (Nat.zero_le _)⟩
theorem px_pending : Calls Try.prog 19 #[.pointer (some ⟨b, 0, none⟩)] w fun e w' => e = .returned (.int .i64 (D.ps.length : Int)) ∧ w' = w := by
  obtain ⟨mm, n, pv, av, xv, F, h⟩ := h
  exact dsk_pending_any _ _ _ _ w h.d
theorem px_failed : Calls Try.prog 18 #[.pointer (some ⟨b, 0, none⟩)] w fun e w' => e = .returned (.bool D.f) ∧ w' = w := by
  obtain ⟨mm, n, pv, av, xv, F, h⟩ := h
  exact dsk_failed_any _ _ _ _ w h.d
theorem px_clone (hj : j ≤ 100) : Calls Try.prog 23 #[.pointer (some ⟨b, 0, none⟩)] w fun e w' => ∃ b' pv', e = .returned (.pointer (some ⟨b', 0, none⟩)) ∧ DskAt w' w.heap.size b' pv' D ∧ Below w.heap.size w w' := by
  obtain ⟨mm, n, pv, av, xv, F, h⟩ := h
  exact dsk_clone_any _ _ _ _ w h.d (by have := h.ld; omega)
/-! The model's calls. -/
theorem mx_write (hj : j ≤ 100) (k : Nat) (hk : k < 52) (l c : Nat) (hl : l = 32) (hx : x.length = 32) :
    Calls Try.prog 25 #[.pointer (some ⟨mb, 0, none⟩), .int .i64 (k : Int), .slice (some ⟨g, 0, none⟩) l c] w fun e w' => e = .returned (.tuple #[]) ∧ PX W w' b mb (j + 1) D (E.write k x) g x := by
  subst hl
  obtain ⟨mm, n, pv, av, xv, F, h⟩ := h
  refine (mdl_write_any _ _ _ _ _ _ _ _ w h.m (by have := h.le; omega) h.hb.size k hk x hx _ c h.xr (fun a ha => by
    injection ha with ha; subst ha
    have := h.xg (by omega)
    exact ⟨this.1, fun e => this.2.2 (.inr (.inr (.inl e))), fun e => this.2.2 (.inr (.inr (.inr e)))⟩)).mono ?_
  rintro e w' ⟨rfl, hm⟩
  exact ⟨rfl, h.model hm (by omega) (by have := h.le; simp [Dsk.write]; omega)⟩
theorem mx_damage (hj : j ≤ 100) (k : Nat) (hk : k < 52) (l c : Nat) (hl : l = 32) (hx : x.length = 32) :
    Calls Try.prog 26 #[.pointer (some ⟨mb, 0, none⟩), .int .i64 (k : Int), .slice (some ⟨g, 0, none⟩) l c] w fun e w' => e = .returned (.tuple #[]) ∧ PX W w' b mb (j + 1) D (E.damage k x) g x := by
  subst hl
  obtain ⟨mm, n, pv, av, xv, F, h⟩ := h
  refine (mdl_damage_any _ _ _ _ _ _ _ _ w h.m (by have := h.le; omega) (by have := h.ln; omega) h.hb.size k hk x hx _ c h.xr (fun a ha => by
    injection ha with ha; subst ha
    have := h.xg (by omega)
    exact ⟨this.1, fun e => this.2.2 (.inl e)⟩)).mono ?_
  rintro e w' ⟨rfl, hm⟩
  exact ⟨rfl, h.model hm (by omega) (by have := h.le; have := List.length_filter_le (fun p => decide (p.1 ≠ k)) E.ps; simp only [Dsk.damage]; omega)⟩
theorem mx_flush (hj : j ≤ 100) : Calls Try.prog 27 #[.pointer (some ⟨mb, 0, none⟩)] w fun e w' => e = .returned (.tuple #[]) ∧ PX W w' b mb (j + 1) D E.flush g x := by
  obtain ⟨mm, n, pv, av, xv, F, h⟩ := h
  refine (mdl_flush_any _ _ _ _ _ _ _ _ w h.m (by have := h.le; omega) (by have := h.le; have := h.ln; omega)).mono ?_
  rintro e w' ⟨rfl, hm⟩
  exact ⟨rfl, h.model hm (by have := h.le; omega) (by simp [Dsk.flush])⟩
theorem mx_crash (hj : j ≤ 100) (A : Option Addr) (ks : List Bool) (l c : Nat) (hl : ks.length = l) (hr : RdO w W.heap.size A ks) :
    Calls Try.prog 29 #[.pointer (some ⟨mb, 0, none⟩), .slice A l c] w fun e w' => e = .returned (.tuple #[]) ∧ PX W w' b mb (j + 1) D (E.crash ks) g x := by
  obtain ⟨mm, n, pv, av, xv, F, h⟩ := h
  refine (mdl_crash_any _ _ _ _ _ _ _ _ w h.m (by have := h.le; omega) (by have := h.le; have := h.ln; omega) A ks l c hl hr).mono ?_
  rintro e w' ⟨rfl, hm⟩
  exact ⟨rfl, h.model hm (by have := h.le; omega) (by simp [Dsk.crash])⟩
theorem mx_fail : Calls Try.prog 30 #[.pointer (some ⟨mb, 0, none⟩)] w fun e w' => e = .returned (.tuple #[]) ∧ PX W w' b mb (j + 1) D Dsk.failed g x := by
  obtain ⟨mm, n, pv, av, xv, F, h⟩ := h
  refine (mdl_fail_any _ _ _ _ _ _ _ _ w h.m).mono ?_
  rintro e w' ⟨rfl, hm⟩
  exact ⟨rfl, h.model hm (by omega) (Nat.zero_le _)⟩
theorem mx_pending : Calls Try.prog 31 #[.pointer (some ⟨mb, 0, none⟩)] w fun e w' => e = .returned (.int .i64 (E.ps.length : Int)) ∧ w' = w := by
  obtain ⟨mm, n, pv, av, xv, F, h⟩ := h
  exact mdl_pending_any _ _ _ _ _ _ _ _ w h.m
theorem mx_read (hj : j ≤ 100) (k : Nat) (hk : k < 52) : Calls Try.prog 28 #[.pointer (some ⟨mb, 0, none⟩), .int .i64 (k : Int)] w fun e w' => e = .returned (str (secAt E.now k)) ∧ Below w.heap.size w w' := by
  obtain ⟨mm, n, pv, av, xv, F, h⟩ := h
  exact mdl_read_any _ _ _ _ _ _ _ _ w h.m k hk (by have := h.le; omega)
end
end Go.Proofs.Ytcgajfjlkojnlaa
