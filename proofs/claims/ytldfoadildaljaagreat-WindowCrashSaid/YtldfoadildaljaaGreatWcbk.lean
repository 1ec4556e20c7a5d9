/- Texts put together: RbdRun, RbdStd, WinRd. -/
import Derived.Test.YtldfoadildaljaaGreatWcbj
import Derived.Test.YtldfoadildaljaaGreatWcbc
import Derived.Test.YtldfoadildaljaaGreatWcaj
import Derived.Test.YtldfoadildaljaaGreatWcbi
import Derived.Test.YtldfoadildaljaaGreatWcal
section
set_option linter.unusedVariables false
set_option linter.unusedSimpArgs false
namespace Go.Proofs.YtldfoadildaljaaGreat

theorem lastOf_off {ps : List (Nat × List UInt8)} {j : Nat} (h : ∀ q ∈ ps, q.1 ≠ j) : lastOf ps j = none := by
  induction ps with
  | nil => rfl
  | cons p ps ih =>
    rw [lastOf_cons, ih (fun q hq => h q (List.mem_cons_of_mem _ hq))]
    simp only [if_neg (h p (List.mem_cons_self ..))]
theorem nowOf_off {S : List UInt8} {ps : List (Nat × List UInt8)} (hS : S.length = 1664) (hw : WOk ps) {j : Nat} (hj : j < 52) (h : ∀ q ∈ ps, q.1 ≠ j) : secAt (nowOf S ps) j = secAt S j := by
  rw [nowOf_sec hS hw j hj, lastOf_off h]; rfl
theorem keptOf_sub : ∀ {ps : List (Nat × List UInt8)} {ks : List Bool} {q : Nat × List UInt8}, q ∈ keptOf ps ks → q ∈ ps
  | [], _, _, h => by rw [keptOf_zero] at h; cases h
  | _ :: _, [], _, h => by rw [keptOf_nil] at h; cases h
  | p :: ps, k :: ks, q, h => by
    unfold keptOf at h
    split at h
    · rcases List.mem_cons.1 h with rfl | h
      · exact List.mem_cons_self ..
      · exact List.mem_cons_of_mem _ (keptOf_sub h)
    · exact List.mem_cons_of_mem _ (keptOf_sub h)
section
variable {G : RG} {k : Nat} {D : Dsk}
end
/-- A row as it stands. -/
def flR (G : RG) (rs : Nat → List (List UInt8)) (t : Nat) : List (List UInt8) := fillL (roD (G.D t)) (roF (G.L t) (G.D t) (G.C t) (t : Int)) (rs t)
section
variable {N : Bch} {lv : List Bool} {G : RG} {k : Nat} {rs : Nat → List (List UInt8)}
/-- A write with power, as far as it is there. -/
theorem write_or {M : Bch} {d a : Nat} {x : List UInt8} (hd : d < M.n) (ha : a < 52) (hx : x.length = 32) (hf : (M.D d).f = false) (hdn : M.down = false) :
    (M.writeE (d : Int) (a : Int) x.length = 0 ∧ (M.write (d : Int) (a : Int) x).n = M.n ∧ (M.write (d : Int) (a : Int) x).D = upd M.D d ((M.D d).write a x) ∧ (M.write (d : Int) (a : Int) x).down = false ∧ (M.left = -1 → (M.write (d : Int) (a : Int) x).left = -1)) ∨
    (M.writeE (d : Int) (a : Int) x.length = 6 ∧ (M.write (d : Int) (a : Int) x).n = M.n ∧ (M.write (d : Int) (a : Int) x).D = M.D ∧ (M.write (d : Int) (a : Int) x).down = true ∧ M.left = 0) := by
  by_cases h0 : M.left = 0
  · right
    have hp : M.powE (d : Int) = 0 := Bch.powE_ok (Bch.pickE_ok (by omega) (by omega)) hdn
    have ht : takeE (M.at_ (d : Int)).f (a : Int) x.length = 0 := by
      rw [hx, show (M.at_ (d : Int)).f = false from hf]; exact takeE_ok (by omega) (by omega)
    have hw : M.write (d : Int) (a : Int) x = M.count := by
      unfold Bch.write
      rw [if_neg (show ¬ M.powE (d : Int) ≠ 0 by simp [hp]), if_neg (fun e => e ht), if_pos h0]
    have hc : M.count = { M with down := true } := if_pos h0
    refine ⟨?_, ?_, ?_, ?_, h0⟩
    · unfold Bch.writeE Bch.countE
      rw [if_neg (show ¬ M.powE (d : Int) ≠ 0 by simp [hp]), if_neg (fun e => e ht), if_pos h0]
    · rw [hw, hc]
    · rw [hw, hc]
    · rw [hw, hc]
  · left
    obtain ⟨h1, h2⟩ := Bch.write_ok hd ha hx hf hdn h0
    have hc : ((M.set d ((M.D d).write a x)).count) = { M.set d ((M.D d).write a x) with done := (M.set d ((M.D d).write a x)).done + 1, left := if (M.set d ((M.D d).write a x)).left = -1 then -1 else (M.set d ((M.D d).write a x)).left - 1 } := if_neg (show ¬ (M.set d ((M.D d).write a x)).left = 0 from h0)
    refine ⟨h1, ?_, ?_, ?_, fun hl => ?_⟩
    · rw [h2, hc]; rfl
    · rw [h2, hc]; rfl
    · rw [h2, hc]; exact hdn
    · rw [h2, hc]; exact if_pos hl
end
end Go.Proofs.YtldfoadildaljaaGreat
end
section
set_option linter.unusedVariables false
set_option linter.unusedSimpArgs false
namespace Go.Proofs.YtldfoadildaljaaGreat

section
variable {N : Bch} {lv : List Bool} {nn l c : Int} {t D F W : Nat} {rs : List (List UInt8)}
/-- One row of a bench, seen as if all stood. -/
def oneL (N : Bch) (lv : List Bool) (D t : Nat) (x : List (List UInt8)) (t' : Nat) : List (List UInt8) := if t' = t then x else (List.range D).map fun i => secAt ((only N lv).D i).now (36 + t')
theorem row_std (hd : N.down = false) (hst : ∀ i, i < D → srvD N lv i = true → secAt (N.D i).now (36 + t) = (fillL D F rs).getD i []) : Std (only N lv) N.n D (oneL N lv D t (fillL D F rs)) :=
  ⟨rfl, hd, fun i hi t' ht' hf => by
    have hs : srvD N lv i = true := by
      rw [← Bool.not_eq_false]
      intro e
      have : Dsk.f (if srvD N lv i = true then N.D i else Dsk.failed) = false := hf
      rw [if_neg (by rw [e]; decide)] at this
      cases this
    unfold oneL
    by_cases e : t' = t
    · subst e; rw [if_pos rfl, only_D hs]; exact hst i hi hs
    · rw [if_neg e]; simp [List.getD_eq_getElem?_getD, hi]⟩
theorem row_or (hd : N.down = false) (gr : Gr nn l c (t : Int) D F W) (hrs : rs.length = W) (ha : ∀ x ∈ rs, x.length = 32) (hst : ∀ i, i < D → srvD N lv i = true → secAt (N.D i).now (36 + t) = (fillL D F rs).getD i []) :
    (srdE N lv l (D : Int) c (t : Int) = 0 ∧ srdL N lv l (D : Int) c (t : Int) = rs) ∨ srdE N lv l (D : Int) c (t : Int) = 7 := by
  have h := (row_std (F := F) (rs := rs) hd hst).told gr hrs ha (if_pos rfl) lv
  rw [only_ss, (only_srd N lv _ _ _ _).1, (only_srd N lv _ _ _ _).2] at h
  split at h
  · exact .inl h
  · exact .inr h.1
theorem row_ok (hd : N.down = false) (gr : Gr nn l c (t : Int) D F W) (hrs : rs.length = W) (ha : ∀ x ∈ rs, x.length = 32) (hst : ∀ i, i < D → srvD N lv i = true → secAt (N.D i).now (36 + t) = (fillL D F rs).getD i [])
    (hc : ((cntB D (fun i => !srvD N lv i) : Nat) : Int) ≤ l - 4) : srdE N lv l (D : Int) c (t : Int) = 0 ∧ srdL N lv l (D : Int) c (t : Int) = rs := by
  have h := (row_std (F := F) (rs := rs) hd hst).ok (lv := lv) gr hrs ha (if_pos rfl) (by rw [cntB_congr (b' := fun i => !srvD N lv i) fun i _ => by rw [only_srv]]; exact hc)
  rwa [(only_srd N lv _ _ _ _).1, (only_srd N lv _ _ _ _).2] at h
end
def StR (N : Bch) (lv : List Bool) (G : RG) (rs : Nat → List (List UInt8)) : Prop := ∀ t, t < 16 → ∀ i : Nat, (i : Int) < G.D t → srvD N lv i = true → secAt (N.D i).now (36 + t) = (flR G rs t).getD i []
section
variable {N : Bch} {lv : List Bool} {G : RG} {k : Nat} {rs : Nat → List (List UInt8)}
end
end Go.Proofs.YtldfoadildaljaaGreat
end
section
set_option maxRecDepth 20000
set_option linter.unusedVariables false
set_option linter.unusedSimpArgs false
namespace Go.Proofs.YtldfoadildaljaaGreat
open Go.RowKit

/-- The first j sectors, the others not there yet. -/
def wrdF (N : Bch) (lv : List Bool) (l d c fr : Int) (m j : Nat) : List (List UInt8) := (wrdTo N lv l d c fr j).2 ++ List.replicate (m - j) []
theorem wrdF_all (N : Bch) (lv : List Bool) (l d c fr : Int) (m : Nat) : wrdF N lv l d c fr m m = (wrdTo N lv l d c fr m).2 := by simp [wrdF]
theorem wrdF_zero (N : Bch) (lv : List Bool) (l d c fr : Int) (m : Nat) : wrdF N lv l d c fr m 0 = List.replicate m [] := by simp [wrdF, wrdTo]
theorem wrdTo_step {N : Bch} {lv : List Bool} {l d c fr : Int} {j : Nat} (h : (wrdTo N lv l d c fr j).1 = 0) (he : woneE N lv l d c (fr + (j : Int)) = 0) : wrdTo N lv l d c fr (j + 1) = (0, (wrdTo N lv l d c fr j).2 ++ [woneB N lv l d c (fr + (j : Int))]) := by
  unfold woneE at he
  unfold woneB
  by_cases q : gCap l d c ≤ fr + (j : Int)
  · rw [wrdTo_zero h q, if_pos q]
  · rw [if_neg q] at he ⊢
    exact wrdTo_goes h q he
theorem wrdTo_fail {N : Bch} {lv : List Bool} {l d c fr : Int} {j : Nat} (h : (wrdTo N lv l d c fr j).1 = 0) (he : woneE N lv l d c (fr + (j : Int)) ≠ 0) : wrdTo N lv l d c fr (j + 1) = (woneE N lv l d c (fr + (j : Int)), []) := by
  unfold woneE at he ⊢
  by_cases q : gCap l d c ≤ fr + (j : Int)
  · rw [if_pos q] at he; exact absurd rfl he
  · rw [if_neg q] at he ⊢
    exact wrdTo_err h q he
theorem wrdF_step {N : Bch} {lv : List Bool} {l d c fr : Int} {m j : Nat} (hj : j < m) (h : (wrdTo N lv l d c fr j).1 = 0) (he : woneE N lv l d c (fr + (j : Int)) = 0) : (wrdF N lv l d c fr m j).set j (woneB N lv l d c (fr + (j : Int))) = wrdF N lv l d c fr m (j + 1) := by
  have hl := wrdTo_len j h
  unfold wrdF
  rw [wrdTo_step h he, List.set_append_right _ _ (by omega), hl, Nat.sub_self, show m - j = (m - (j + 1)) + 1 by omega, List.replicate_succ, List.set_cons_zero, List.append_assoc]
  rfl
def WnR (w : World) (E : Int) (rs : List (List UInt8)) (e : Ending) (w' : World) : Prop := ∃ A c, e = .returned (.tuple #[.slice A rs.length c, .int .i64 E]) ∧ RdF w.heap.size w' A rs ∧ Below w.heap.size w w'
theorem wnR_none {w w' : World} {E : Int} {e : Ending} {rs : List (List UInt8)} (he : e = .returned (.tuple #[.slice none 0 0, .int .i64 E])) (hr : rs = []) (hb : Below w.heap.size w w') : WnR w E rs e w' := by
  subst hr
  exact ⟨none, 0, he, ⟨by simp, fun h => by simp at h⟩, hb⟩
theorem winRow_new (w : World) (n : Nat) (hn : n ≤ 1000000) : OwR (w.alloc (.cells (madeCells #[.slice none 0 0] n) 48)) w.heap.size w.heap.size n n (List.replicate n []) := (rq_new w n hn).owr
theorem gat_one {W : World} {b g j : Nat} {l d c : Int} {v : Value} (h : GAt W b l d c) (hne : g ≠ b) : GAt (W.setCell ⟨g, j, none⟩ v) b l d c :=
  ⟨(World.cell?_setCell_far _ _ _ _ hne).trans h.1, (World.cell?_setCell_far _ _ _ _ hne).trans h.2.1, (World.cell?_setCell_far _ _ _ _ hne).trans h.2.2⟩
theorem rdf_le {lo lo' : Nat} {w : World} {A : Option Addr} {rs : List (List UInt8)} (h : RdF lo w A rs) (hl : lo' ≤ lo) : RdF lo' w A rs :=
  ⟨h.1, fun h0 => by
    obtain ⟨b, off, e, hb, hl2, hc⟩ := h.2 h0
    refine ⟨b, off, e, hb, by omega, fun k hk => ?_⟩
    obtain ⟨A', c, h1, h2⟩ := hc k hk
    exact ⟨A', c, h1, h2.le hl⟩⟩
set_option maxHeartbeats 3200000 in
theorem winRead_any (B b : Nat) (H : BH) (N : Bch) (w : World) (h : BAt w B b H N) (lv : List Bool) (A : Option Addr) (m cp : Nat) (hm : m = lv.length) (hv : RdO w w.heap.size A lv) (l d c l' d' c' k : Int) (hl : (-9223372036854775808 ≤ l ∧ l ≤ 9223372036854775807)) (hd : (-9223372036854775808 ≤ d ∧ d ≤ 9223372036854775807)) (hc : (-9223372036854775808 ≤ c ∧ c ≤ 9223372036854775807)) (hl' : (-9223372036854775808 ≤ l' ∧ l' ≤ 9223372036854775807)) (hd' : (-9223372036854775808 ≤ d' ∧ d' ≤ 9223372036854775807)) (hc' : (-9223372036854775808 ≤ c' ∧ c' ≤ 9223372036854775807)) (hk : (-9223372036854775808 ≤ k ∧ k ≤ 9223372036854775807)) :
    Calls Tryz.prog 10 #[.pointer (some ⟨b, 0, none⟩), .slice A m cp, .agg #[.int .i64 l, .int .i64 d, .int .i64 c], .agg #[.int .i64 l', .int .i64 d', .int .i64 c'], .int .i64 k] w (WnR w (wrdS N lv l d c l' d' c' k).1 (wrdS N lv l d c l' d' c' k).2) := by
  subst hm
  have S0 := gs2_start w l d c l' d' c' 25 25 (0, 0) (0, 0)
  have CS := Lib.hid (fun W => planSpan_any l d c l' d' c' k W hl hd hc hl' hd' hc' hk)
  have bF := pnF_bd l d c l' d' c' k
  have bN := pnN_bd l d c l' d' c'
  have CO := Lib.hid (fun W (hb : Below w.heap.size w W) (n : Int) (hn : (-9223372036854775808 ≤ n ∧ n ≤ 9223372036854775807)) => winOne_any B b H N W (h.below hb) lv A lv.length cp rfl (hv.keep hb.size fun p hp => hb.cell hp) l d c n hl hd hc hn)
  clear h hv
  cases hs : pnSok l d c l' d' c' k with
  | false =>
    have e1 : pnF l d c l' d' c' k = 0 := if_neg (by rw [hs]; decide)
    have e2 : pnT l d c l' d' c' k = 0 := if_neg (by rw [hs]; decide)
    have HW := Lib.hid (wrdS_bad (N := N) (lv := lv) hs)
    rw [e1, e2] at CS
    generalize wrdS N lv l d c l' d' c' k = r at HW ⊢
    clear hs e1 e2 CO bF
    go_enter Tryz.func10, Tryz.ntmps10
    go_wp2_with fail
    (with_reducible refine (CS.out _).mono ?_); rintro e w1 ⟨rfl, hb⟩
    have F := (S0.later hb).2.2.2.2.2.2
    clear hb S0 CS
    go_wp2_with fail
    go_ret2
    exact wnR_none (by rw [HW.out]; rfl) (by rw [HW.out]) F
  | true =>
    obtain ⟨mm, hmm⟩ : ∃ mm : Nat, pnN l d c l' d' c' = (mm : Int) := ⟨(pnN l d c l' d' c').toNat, by omega⟩
    have hgc : gCan l d c l' d' c' = true := by
      cases hg : gCan l d c l' d' c' with
      | true => rfl
      | false =>
        unfold pnSok pnW at hs
        rw [hg, if_neg (by decide)] at hs
        have := of_decide_eq_true hs
        omega
    obtain ⟨R, K, wa, wb, P⟩ := pn_of hgc
    have hpos := P.n_bd
    have hPn := P.n
    have e1 : pnT l d c l' d' c' k = pnF l d c l' d' c' k + (mm : Int) := by
      unfold pnT pnF
      rw [if_pos hs, if_pos hs, Int.add_mul, Int.one_mul, hmm]
    have HW := Lib.hid (show wrdS N lv l d c l' d' c' k = wrdTo N lv l d c (pnF l d c l' d' c' k) mm by unfold wrdS; rw [if_pos hs, hmm]; rfl)
    rw [e1] at CS
    have hm0 : 0 < mm := by omega
    have hm28 : mm ≤ 28 := by omega
    generalize wrdS N lv l d c l' d' c' k = r at HW ⊢
    generalize pnF l d c l' d' c' k = fr at CS bF HW
    have km := make_rows mm (by omega)
    have hwr : IntKind.i64.wrap (fr + (mm : Int)) = fr + (mm : Int) := IntWalk.i64_in _ (by omega)
    have hwd : IntKind.i64.wrap (fr + (mm : Int) - fr) = (mm : Int) := by rw [show fr + (mm : Int) - fr = (mm : Int) by omega]; exact IntWalk.i64_in _ (by omega)
    have hne : (fr == fr + (mm : Int)) = false := by rw [beq_eq_false_iff_ne]; omega
    have hdf : fr + (mm : Int) - fr = (mm : Int) := by omega
    clear hs hgc P hpos hPn e1 hmm bN
    go_enter Tryz.func10, Tryz.ntmps10
    go_wp2_with fail
    (with_reducible refine (CS.out _).mono ?_); rintro e w1 ⟨rfl, hb⟩
    have S1 := S0.later hb
    clear hb S0 CS
    obtain ⟨g1, g2, g3, _, _, _, F1⟩ := S1
    have z1 := World.block_lt_of_cell? _ _ g1
    go_wp2_with fail
    have O0 := winRow_new w1 mm (by omega)
    rw [← wrdF_zero N lv l d c fr mm] at O0
    have F2 := F1.trans ((below1 w1 (.cells (madeCells #[.slice none 0 0] mm) 48)).mono F1.size)
    have G2 := GAt.below (b := w.heap.size) (l := l) (d := d) (c := c) ⟨g1, g2, g3⟩ (below1 w1 (.cells (madeCells #[.slice none 0 0] mm) 48)) z1
    obtain ⟨g, hg⟩ : ∃ g, w1.heap.size = g := ⟨_, rfl⟩
    rw [hg] at O0 z1 ⊢
    generalize w1.alloc (.cells (madeCells #[.slice none 0 0] mm) 48) = w2 at O0 F2 G2 ⊢
    clear F1 g1 g2 g3
    go_loopw [34] (fun i wr => ∃ j : Nat, j ≤ mm ∧ i = .int .i64 j ∧ (wrdTo N lv l d c fr j).1 = 0 ∧ OwR wr g g mm mm (wrdF N lv l d c fr mm j) ∧ GAt wr w.heap.size l d c ∧ Below w.heap.size w wr) (fun i _ => mm - (intOf i).toNat)
    case atStart => exact ⟨0, Nat.zero_le _, rfl, rfl, O0, G2, F2⟩
    case round =>
      obtain ⟨j, hj, rfl, h0, ho, hG, hF⟩ := hrel
      have Ho := Lib.hid ho
      have H0 := Lib.hid h0
      have hgl := ho.lt
      clear O0 ho h0
      by_cases hlt : j < mm
      · have i0 : (0 : Int) ≤ (j : Int) := by omega
        have i1 : (j : Int) < (mm : Int) := by omega
        have hwj : IntKind.i64.wrap (fr + (j : Int)) = fr + (j : Int) := IntWalk.i64_in _ (by omega)
        have C1 := CO.out wr hF (fr + (j : Int)) (by omega)
        have Hst := Lib.hid (fun he => wrdTo_fail (N := N) (lv := lv) (l := l) (d := d) (c := c) (fr := fr) H0.out he)
        have Hgo := Lib.hid (fun he => wrdF_step (N := N) (lv := lv) (l := l) (d := d) (c := c) (fr := fr) hlt H0.out he)
        have Hg2 := Lib.hid (fun he => wrdTo_step (N := N) (lv := lv) (l := l) (d := d) (c := c) (fr := fr) H0.out he)
        have Hsp := Lib.hid (fun he => wrdTo_stop (N := N) (lv := lv) (l := l) (d := d) (c := c) (fr := fr) (j := j + 1) he mm (by omega))
        generalize woneE N lv l d c (fr + (j : Int)) = E at C1 Hst Hgo Hg2
        generalize woneB N lv l d c (fr + (j : Int)) = x at C1 Hgo Hg2
        have C1 := Lib.hid C1
        obtain ⟨g1, g2, g3⟩ := hG
        by_cases e0 : E = 0
        · subst e0
          have Hgo3 := Lib.hid (Hgo.out rfl)
          have Hg3 := Lib.hid (show (wrdTo N lv l d c fr (j + 1)).1 = 0 by rw [Hg2.out rfl])
          clear Hg2 Hgo
          go_wp2_with fail
          (with_reducible refine C1.out.mono ?_); rintro e w3 ⟨A1, c1, rfl, hr, hb3⟩
          have hr' := hr.le (show g ≤ wr.heap.size by omega)
          have hne : 0 < x.length → ∀ a, A1 = some a → a.block ≠ g := fun hp a ha => by
            obtain ⟨q, off, e, _, hq, _⟩ := hr.2 hp
            rw [ha] at e
            injection e with e
            subst e
            show q ≠ g
            omega
          have O3 := ((Ho.out.below hb3).set (c := c1) j hr' hne)
          rw [Hgo3.out] at O3
          obtain ⟨_, _, c3, _, f3⟩ := (Ho.out.below hb3).cell j hlt
          have hF3 := (hF.trans (hb3.mono hF.size)).setCell (p := ⟨g, j, none⟩) (by show w.heap.size ≤ g; omega) (.slice A1 x.length c1)
          have hG3 := gat_one (j := j) (v := .slice A1 x.length c1) (GAt.below (b := w.heap.size) (l := l) (d := d) (c := c) ⟨g1, g2, g3⟩ hb3 (by omega)) (show g ≠ w.heap.size by omega)
          clear hr hr' hne C1 Ho Hgo3 Hst Hsp g1 g2 g3
          go_wp2_with fail
          go_roundw
          case rel => exact ⟨j + 1, by omega, by go_num, Hg3.out, O3, hG3, hF3⟩
          case measure => simp [intOf]; omega
        · have hf := Hst.out e0
          have HW2 := Lib.hid (show r = (E, []) by rw [HW.out, Hsp.out (by rw [hf]; exact e0), hf])
          have en : (E != 0) = true := by rw [bne_iff_ne]; exact e0
          clear Hst Hgo Hg2 Hsp hf e0 HW
          go_wp2_with fail
          (with_reducible refine C1.out.mono ?_); rintro e w3 ⟨A1, c1, rfl, hr, hb3⟩
          have hF3 := hF.trans (hb3.mono hF.size)
          clear hr hb3 C1
          go_wp2_with fail
          go_ret2
          exact wnR_none (by rw [HW2.out]; rfl) (by rw [HW2.out]) hF3
      · obtain rfl : j = mm := by omega
        have hrr := (Ho.out.rdf (by omega))
        rw [wrdF_all] at hrr
        have hl := wrdTo_len j H0.out
        have H1 := Lib.hid (show r = (0, (wrdTo N lv l d c fr j).2) by rw [HW.out, ← H0.out])
        have HR := Lib.hid hrr
        have HL := Lib.hid hl
        clear HW H0 Ho hrr hl
        go_wp2_with fail
        go_ret2
        exact ⟨some ⟨g, 0, none⟩, j, by rw [H1.out]; dsimp only; rw [HL.out]; rfl, by rw [H1.out]; exact rdf_le HR.out (by omega), hF⟩
theorem winRd : WinRd := fun W w b H N K R S h lv A n cp hn hv l d c l' d' c' k hl hd hc hl' hd' hc' hk => by
  refine (winRead_any W.heap.size b H N w h.bp.at' lv A n cp hn hv.rdo l d c l' d' c' k hl hd hc hl' hd' hc' hk).mono ?_
  rintro e w' ⟨A', c0, rfl, hr, hb⟩
  exact ⟨A', c0, rfl, h.rows hb hr⟩
end Go.Proofs.YtldfoadildaljaaGreat
end
