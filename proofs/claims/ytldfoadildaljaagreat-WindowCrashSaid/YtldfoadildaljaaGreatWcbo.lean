/- Texts put together: RbdCut, WinCut, WinKit. -/
import Derived.Test.YtldfoadildaljaaGreatWcbn
import Derived.Test.YtldfoadildaljaaGreatWcay
import Derived.Test.YtldfoadildaljaaGreatWcbl
import Derived.Test.YtldfoadildaljaaGreatWcbi
section
set_option maxRecDepth 20000
set_option linter.unusedVariables false
set_option linter.unusedSimpArgs false
namespace Go.Proofs.YtldfoadildaljaaGreat
open Go.RowKit

theorem crash_n (N : Bch) (ks : List Bool) : (N.crash ks).n = N.n := rfl
theorem crash_up (N : Bch) (ks : List Bool) : (N.crash ks).down = false ∧ (N.crash ks).left = -1 ∧ (N.crash ks).done = N.done := ⟨rfl, rfl, rfl⟩
theorem crash_D {N : Bch} {ks : List Bool} {i : Nat} (hi : i < N.n) : (N.crash ks).D i = (N.D i).crash (ks.drop (offs N.D i)) := by
  show (if i < N.n then (N.D i).crash (ks.drop (offs N.D i)) else N.D i) = _
  rw [if_pos hi]
section
variable {W w : World} {b : Nat} {H : BH} {N : Bch} {K : List (Nat × Obj)} {R : List (Option Addr × List (List UInt8))} {S : List (Option Addr × List UInt8)}
theorem ks_crash (h : KS W w b H N K R S) (ks : List Bool) (A : Option Addr) (n c : Nat) (hn : n = ks.length) (hc : ks.length ≤ c) (hk : RdO W W.heap.size A ks) (hps : ∀ i, i < N.n → (N.D i).ps.length ≤ 2000000) :
    Calls Tryz.prog 14 #[.pointer (some ⟨b, 0, none⟩), .slice A n c] w fun e w' => e = .returned (.tuple #[]) ∧ ∃ H', KS W w' b H' (N.crash ks) K R S := by
  refine (bp_crash_arg h.bp ks A n c hn hc hk hps).mono ?_
  rintro e w' ⟨rfl, ht⟩
  obtain ⟨H', k'⟩ := h.bc ht (crash_n _ _)
  exact ⟨rfl, H', k'⟩
end
theorem limit_all {N : Bch} {v : Int} (hd : N.down = false) (hv : 0 ≤ v) : (N.limit v).n = N.n ∧ (N.limit v).down = false ∧ (N.limit v).D = N.D ∧ (N.limit v).done = N.done ∧ (N.limit v).left = v := by
  have e : N.limit v = { N with left := max v (-1) } := if_neg (by rw [hd]; simp)
  rw [e]
  exact ⟨rfl, hd, rfl, rfl, by show max v (-1) = v; omega⟩
section
variable {N M : Bch} {m k : Nat} {G : RG} {zs : List Int} {lv : List Bool}
end
end Go.Proofs.YtldfoadildaljaaGreat
end
section
set_option linter.unusedVariables false
set_option linter.unusedSimpArgs false
namespace Go.Proofs.YtldfoadildaljaaGreat

/-- A disk on which only sectors from lo on below hi may be other ones than they were. -/
structure OutW (D0 : Dsk) (lo hi : Nat) (D : Dsk) : Prop where
  ok : D.Ok
  f : D.f = D0.f
  z : ∀ j, j < 52 → ¬ (lo ≤ j ∧ j < hi) → secAt D.S j = secAt D0.now j
  p : ∀ q ∈ D.ps, lo ≤ q.1 ∧ q.1 < hi
section
variable {D0 D : Dsk} {lo hi : Nat}
theorem OutW.self (h : D0.Ok) (hp : D0.ps = []) : OutW D0 lo hi D0 := ⟨h, rfl, fun j _ _ => by
  obtain ⟨S, ps, f⟩ := D0
  dsimp only at hp
  subst hp
  rfl, fun q hq => by rw [hp] at hq; cases hq⟩
theorem OutW.now (h : OutW D0 lo hi D) {j : Nat} (hj : j < 52) (hn : ¬ (lo ≤ j ∧ j < hi)) : secAt D.now j = secAt D0.now j := by
  unfold Dsk.now
  rw [nowOf_off h.ok.S h.ok.ps hj (fun q hq e => hn (by rw [← e]; exact h.p q hq))]
  exact h.z j hj hn
theorem OutW.write (h : OutW D0 lo hi D) {a : Nat} {x : List UInt8} (ha : a < 52) (hx : x.length = 32) (h1 : lo ≤ a) (h2 : a < hi) : OutW D0 lo hi (D.write a x) := ⟨h.ok.write ha hx, h.f, h.z, fun q hq => by
  rcases List.mem_append.1 hq with hq | hq
  · exact h.p q hq
  · rw [List.mem_singleton.1 hq]; exact ⟨h1, h2⟩⟩
theorem OutW.flush (h : OutW D0 lo hi D) : OutW D0 lo hi D.flush := ⟨h.ok.flush, h.f, fun j hj hn => h.now hj hn, fun q hq => by cases hq⟩
theorem OutW.flushE (h : OutW D0 lo hi D) : OutW D0 lo hi D.flushE := by
  unfold Dsk.flushE; split
  · exact h
  · exact h.flush
theorem OutW.crash (h : OutW D0 lo hi D) (ks : List Bool) : OutW D0 lo hi (D.crash ks) := ⟨h.ok.crash ks, h.f, fun j hj hn => by
  show secAt (nowOf D.S (keptOf D.ps ks)) j = _
  rw [nowOf_off h.ok.S h.ok.ps.kept hj (fun q hq e => hn (by rw [← e]; exact h.p q (keptOf_sub hq)))]
  exact h.z j hj hn, fun q hq => by cases hq⟩
end
/-- As many such disks. -/
structure Cw (N M : Bch) (lo hi : Nat) : Prop where
  n : M.n = N.n
  d : ∀ i, i < N.n → OutW (N.D i) lo hi (M.D i)
section
variable {N M : Bch} {lo hi : Nat}
theorem Cw.self {m : Nat} (h : Wg N m) : Cw N N lo hi := ⟨rfl, fun i hi => OutW.self (h.ok i (by rw [← h.n]; exact hi)) (h.ps i (by rw [← h.n]; exact hi))⟩
theorem write_D (M : Bch) (i a : Nat) (x : List UInt8) : (M.write (i : Int) (a : Int) x).n = M.n ∧ ((M.write (i : Int) (a : Int) x).D = M.D ∨ (M.write (i : Int) (a : Int) x).D = upd M.D i ((M.D i).write a x)) := by
  refine ⟨Bch.write_n M _ _ _, ?_⟩
  unfold Bch.write
  repeat' split
  · exact .inl rfl
  · exact .inl rfl
  · exact .inl (Bch.count_D M)
  · exact .inr (Bch.count_D _)
theorem Cw.write (h : Cw N M lo hi) {i a : Nat} {x : List UInt8} (ha : a < 52) (hx : x.length = 32) (h1 : lo ≤ a) (h2 : a < hi) : Cw N (M.write (i : Int) (a : Int) x) lo hi := by
  obtain ⟨e1, e2⟩ := write_D M i a x
  refine ⟨e1.trans h.n, fun j hj => ?_⟩
  rcases e2 with e | e
  · rw [e]; exact h.d j hj
  · rw [e]
    by_cases q : j = i
    · subst q; rw [upd_same]; exact (h.d j hj).write ha hx h1 h2
    · rw [upd_other _ _ q]; exact h.d j hj
theorem Cw.flush (h : Cw N M lo hi) (i : Nat) : Cw N (M.flush (i : Int)) lo hi := by
  unfold Bch.flush
  split
  · exact h
  · refine ⟨h.n, fun j hj => ?_⟩
    show OutW _ _ _ (upd M.D _ _ j)
    by_cases q : j = ((i : Int)).toNat
    · rw [q, upd_same]
      rw [q] at hj
      exact (h.d _ hj).flushE
    · rw [upd_other _ _ q]; exact h.d j hj
theorem Cw.crash {m : Nat} (hg : Wg N m) (h : Cw N M lo hi) (ks : List Bool) : Wg (M.crash ks) m ∧ (∀ i, i < m → ((M.crash ks).D i).f = (N.D i).f) ∧ ∀ i, i < m → ∀ j, j < 52 → ¬ (lo ≤ j ∧ j < hi) → secAt ((M.crash ks).D i).now j = secAt (N.D i).now j := by
  have hn : M.n = m := h.n.trans hg.n
  have key : ∀ i, i < m → OutW (N.D i) lo hi ((M.crash ks).D i) := fun i hi => by
    rw [crash_D (by omega)]; exact (h.d i (by rw [hg.n]; exact hi)).crash _
  refine ⟨⟨hn, rfl, rfl, fun i hi => (key i hi).ok, fun i hi => ?_⟩, fun i hi => (key i hi).f, fun i hi j hj hq => (key i hi).now hj hq⟩
  rw [crash_D (by omega)]; rfl
end
/-- Done, or cut off. -/
def CutE (r : Int × Bch) : Prop := (r.1 = 0 ∧ r.2.down = false) ∨ (r.1 = 6 ∧ r.2.down = true)
theorem swTo_cut {lv : List Bool} {a D : Nat} {xs : List (List UInt8)} {N : Bch} (ha : a < 52) (hx : ∀ i, i < D → (xs.getD i []).length = 32) (hd : N.down = false) : ∀ i, i ≤ D → CutE (swTo lv a xs N i)
  | 0, _ => .inl ⟨rfl, hd⟩
  | i + 1, hi => by
    rcases swTo_cut (lv := lv) ha hx hd i (by omega) with ⟨h0, h1⟩ | h
    · cases hs : srvD (swTo lv a xs N i).2 lv i with
      | false => rw [swTo_skip h0 hs]; exact .inl ⟨h0, h1⟩
      | true =>
        rw [swTo_goes h0 hs]
        obtain ⟨s1, _, s3⟩ := srvD_yes hs
        rcases write_or s1 ha (hx i (by omega)) s3 h1 with ⟨w1, _, _, w4, _⟩ | ⟨w1, _, _, w4, _⟩
        · exact .inl ⟨w1, w4⟩
        · exact .inr ⟨w1, w4⟩
    · rw [swTo_stop (by rw [h.1]; decide) (i + 1) (by omega)]; exact .inr h
section
variable {N M : Bch} {lv : List Bool} {l' c' fr : Int} {D r0 : Nat} {ds : List (List UInt8)}
theorem wwrTo_cut (hg : gOk l' (D : Int) c' = true) (R : Nat) (hR : r0 + R ≤ 16) (hw : ∀ t : Nat, r0 ≤ t → t < r0 + R → (wrow l' (D : Int) c' (t : Int) fr ds).length = roW l' (D : Int) ∧ ∀ x ∈ wrow l' (D : Int) c' (t : Int) fr ds, x.length = 32) (hd : N.down = false) (hc : Cw M N (36 + r0) (36 + r0 + R)) :
    ∀ j, j ≤ R → CutE (wwrTo N lv l' (D : Int) c' (r0 : Int) fr ds j) ∧ Cw M (wwrTo N lv l' (D : Int) c' (r0 : Int) fr ds j).2 (36 + r0) (36 + r0 + R)
  | 0, _ => ⟨.inl ⟨rfl, hd⟩, hc⟩
  | j + 1, hj => by
    obtain ⟨h, hcw⟩ := wwrTo_cut hg R hR hw hd hc j (by omega)
    rcases h with ⟨h0, h1⟩ | h
    · rw [wwrTo_goes h0, show (r0 : Int) + (j : Int) = ((r0 + j : Nat) : Int) by omega]
      obtain ⟨a1, a2⟩ := hw (r0 + j) (by omega) (by omega)
      have gr := gr_mk (l := l') (c := c') (r := ((r0 + j : Nat) : Int)) hg (by omega) (by omega)
      have hk := gr.fok a1 a2
      generalize (wwrTo N lv l' (D : Int) c' (r0 : Int) fr ds j).2 = M' at h1 hcw ⊢
      have e : swrS M' lv l' (D : Int) c' ((r0 + j : Nat) : Int) (wrow l' (D : Int) c' ((r0 + j : Nat) : Int) fr ds) = swTo lv (36 + (r0 + j)) (fillL (roD (D : Int)) (roF l' (D : Int) c' ((r0 + j : Nat) : Int)) (wrow l' (D : Int) c' ((r0 + j : Nat) : Int) fr ds)) M' (roD (D : Int)) := by
        unfold swrS
        rw [if_neg (by rw [hk]; decide), Int.toNat_natCast]
      have hx := fun i (hi : i < roD (D : Int)) => fill_32 hk hi
      rw [e]
      refine ⟨swTo_cut (by omega) hx h1 _ (Nat.le_refl _), ?_⟩
      suffices h : ∀ i, i ≤ roD (D : Int) → Cw M (swTo lv (36 + (r0 + j)) (fillL (roD (D : Int)) (roF l' (D : Int) c' ((r0 + j : Nat) : Int)) (wrow l' (D : Int) c' ((r0 + j : Nat) : Int) fr ds)) M' i).2 (36 + r0) (36 + r0 + R) from h _ (Nat.le_refl _)
      intro i
      induction i with
      | zero => intro _; exact hcw
      | succ i ih =>
        intro hi
        have ih := ih (by omega)
        rw [swTo]
        repeat' split
        · exact ih
        · exact ih
        · exact ih.write (by omega) (hx i (by omega)) (by omega) (by omega)
    · rw [wwrTo_stop (by rw [h.1]; decide) (j + 1) (by omega)]
      exact ⟨.inr h, hcw⟩
end
section
variable {l d c l' d' c' R K wa wb : Int}
/-- A write of the window with a limit. -/
theorem Pn.cut (P : Pn l d c l' d' c' R K wa wb) {M : Bch} {m : Nat} {lv : List Bool} (hg : Wg M m) {v k : Int} (hv : 0 ≤ v) (k0 : 0 ≤ k) (k1 : k < K) {ds : List (List UInt8)} (hl : (ds.length : Int) = R * wb) (h32 : ∀ x ∈ ds, x.length = 32) :
    CutE (wwrS (M.limit v) lv l d c l' d' c' k ds) ∧ Cw M (wwrS (M.limit v) lv l d c l' d' c' k ds).2 (36 + (k * R).toNat) (36 + ((k + 1) * R).toNat) := by
  have hs := P.sok k0 k1
  have hf := P.frm k0 k1
  have hb := gOk_bd P.b
  obtain ⟨D, rfl⟩ : ∃ D : Nat, d' = (D : Int) := ⟨d'.toNat, by omega⟩
  have hrw := P.rows
  have hk0 : 0 ≤ k * R := Int.mul_nonneg k0 (by omega)
  have hk1 : (k + 1) * R = k * R + R := by rw [Int.add_mul, Int.one_mul]
  have hk16 : (k + 1) * R ≤ 16 := by
    have : (k + 1) * R ≤ K * R := Int.mul_le_mul_of_nonneg_right (by omega) (by omega)
    have e : K * R = R * K := Int.mul_comm _ _
    omega
  obtain ⟨r0, hr0⟩ : ∃ r0 : Nat, k * R = (r0 : Int) := ⟨(k * R).toNat, by omega⟩
  obtain ⟨Rn, hRn⟩ : ∃ Rn : Nat, R = (Rn : Int) := ⟨R.toNat, by omega⟩
  obtain ⟨q1, q2, q3, q4, q5⟩ := limit_all (N := M) hg.dn hv
  have hc0 : Cw M (M.limit v) (36 + r0) (36 + r0 + Rn) := ⟨q1, fun i hi => by rw [q3]; exact (Cw.self hg).d i hi⟩
  obtain ⟨e1, w1⟩ := wwrTo_cut (N := M.limit v) (M := M) (lv := lv) (D := D) (r0 := r0) (fr := k * (R * wb)) (ds := ds) P.b Rn (by omega) (fun t h0 h1 => P.wrow_ok hl h32 (by omega) (by omega) (by omega)) q2 hc0 Rn (Nat.le_refl _)
  have hB : wwrB l d c l' (D : Int) c' k ds = false := by
    unfold wwrB
    rw [hs, decide_eq_false (by rw [P.n]; omega), all32_iff.2 h32]; rfl
  have hS : wwrS (M.limit v) lv l d c l' (D : Int) c' k ds = if (wwrTo (M.limit v) lv l' (D : Int) c' (r0 : Int) (k * (R * wb)) ds Rn).1 ≠ 0 then wwrTo (M.limit v) lv l' (D : Int) c' (r0 : Int) (k * (R * wb)) ds Rn else sflS (wwrTo (M.limit v) lv l' (D : Int) c' (r0 : Int) (k * (R * wb)) ds Rn).2 lv := by
    unfold wwrS
    rw [if_neg (by rw [hB]; decide), hf, P.eR, hr0, show R.toNat = Rn by omega]
  rw [hS, show 36 + (k * R).toNat = 36 + r0 by omega, show 36 + ((k + 1) * R).toNat = 36 + r0 + Rn by omega]
  generalize wwrTo (M.limit v) lv l' (D : Int) c' (r0 : Int) (k * (R * wb)) ds Rn = rr at e1 w1
  rcases e1 with ⟨h0, h1⟩ | h
  · rw [if_neg (by rw [h0]; decide)]
    obtain ⟨f1, f2⟩ := sfl_good (N := rr.2) (lv := lv) h1
    exact ⟨.inl ⟨f1, f2.dn⟩, onTo_any (fun M' => Cw M M' (36 + r0) (36 + r0 + Rn)) w1 (fun M' i h => h.flush i) _⟩
  · rw [if_pos (by rw [h.1]; decide)]
    exact ⟨.inr h, w1⟩
/-- Cut off, and a crash: all but the window's rows is as it was. -/
theorem Mv.cut (P : Pn l d c l' d' c' R K wa wb) {M : Bch} {m : Nat} {lv : List Bool} {rs : Nat → List (List UInt8)} {k v : Int} (h : Mv M m lv l d c l' d' c' rs (k * R)) (hv : 0 ≤ v) (k0 : 0 ≤ k) (k1 : k < K) {ds : List (List UInt8)} (hl : (ds.length : Int) = R * wb) (h32 : ∀ x ∈ ds, x.length = 32) (ks : List Bool) :
    CutE (wwrS (M.limit v) lv l d c l' d' c' k ds) ∧ Mw ((wwrS (M.limit v) lv l d c l' d' c' k ds).2.crash ks) m lv l d c l' d' c' rs (k * R) ((k + 1) * R) ∧ ∀ i, i < m → (((wwrS (M.limit v) lv l d c l' d' c' k ds).2.crash ks).D i).f = (M.D i).f := by
  obtain ⟨h1, h2⟩ := P.cut (lv := lv) h.wg hv k0 k1 hl h32
  obtain ⟨g1, g2, g3⟩ := h2.crash h.wg ks
  have hrw := P.rows
  have hk0 : 0 ≤ k * R := Int.mul_nonneg k0 (by omega)
  refine ⟨h1, ⟨g1, fun t ht hn i hi hs => ?_⟩, g2⟩
  obtain ⟨s1, s2, s3⟩ := srvD_yes hs
  rw [g1.n] at s1
  rw [g3 i s1 (36 + t) (by omega) (fun e => hn (by omega))]
  exact h.st t ht i hi (srvD_mk (by rw [h.wg.n]; exact s1) s2 (by rw [← g2 i s1]; exact s3))
end
end Go.Proofs.YtldfoadildaljaaGreat
end
section
set_option maxRecDepth 20000
set_option linter.unusedVariables false
set_option linter.unusedSimpArgs false
namespace Go.Proofs.YtldfoadildaljaaGreat
open Go.RowKit

section
variable {N : Bch} {lv : List Bool} {l d c l' d' c' k r r0 fr : Int} {rs ds : List (List UInt8)}
theorem swrS_done : (swrS N lv l d c r rs).2.done ≤ N.done + roD d := by
  unfold swrS; split
  · exact Nat.le_add_right _ _
  · exact swTo_done _
theorem wwrTo_done : ∀ j, (wwrTo N lv l' d' c' r0 fr ds j).2.done ≤ N.done + j * roD d'
  | 0 => by rw [Nat.zero_mul]; exact Nat.le_refl _
  | j + 1 => by
    have ih := wwrTo_done j
    have e : (j + 1) * roD d' = j * roD d' + roD d' := Nat.succ_mul _ _
    rw [wwrTo]
    split
    · omega
    · have := swrS_done (N := (wwrTo N lv l' d' c' r0 fr ds j).2) (lv := lv) (l := l') (d := d') (c := c') (r := r0 + (j : Int)) (rs := wrow l' d' c' (r0 + (j : Int)) fr ds); omega
theorem sflS_done : (sflS N lv).2.done = N.done := onTo_any (fun M => M.done = N.done) rfl (fun M i h => (show (M.flush _).done = M.done by unfold Bch.flush; split <;> rfl).trans h) _
theorem wwrS_done : (wwrS N lv l d c l' d' c' k ds).2.done ≤ N.done + (pnR l d c l' d' c').toNat * roD d' := by
  unfold wwrS
  split
  · exact Nat.le_add_right _ _
  · split
    · exact wwrTo_done _
    · rw [sflS_done]; exact wwrTo_done _
end
section
variable {W w : World} {b gl : Nat} {H : BH} {N : Bch} {K : List (Nat × Obj)} {R0 : List (Option Addr × List (List UInt8))} {lv : List Bool} {l d c l' d' c' k : Int}
end
end Go.Proofs.YtldfoadildaljaaGreat
end
