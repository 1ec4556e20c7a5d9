/- Texts put together: BakPut, BakGet. -/
import Derived.Test.YtjnemopocmhfkaaDoorBlbe
import Derived.Test.YtjnemopocmhfkaaDoorBlbd
import Derived.Test.YtjnemopocmhfkaaDoorBlbf
import Derived.Test.YtjnemopocmhfkaaDoorBlbg
import Derived.Test.YtjnemopocmhfkaaDoorBlba
section
set_option maxRecDepth 20000
set_option linter.unusedVariables false
set_option linter.unusedSimpArgs false
namespace Go.Proofs.YtjnemopocmhfkaaDoor
open Go.RowKit

theorem bkBad_may {e x : Int} {ds : List (List UInt8)} (h : bkMay e x = false) : bkBad e x ds = true := by unfold bkBad; rw [h]; rfl
theorem bkBad_len {e x : Int} {ds : List (List UInt8)} (h : bkMay e x = true) (h2 : 28 < ds.length) : bkBad e x ds = true := by unfold bkBad; rw [h, decide_eq_true h2]; rfl
theorem bkBad_any {e x : Int} {ds : List (List UInt8)} (h : bkMay e x = true) (h2 : ¬ 28 < ds.length) : bkBad e x ds = ds.any unlB := by unfold bkBad; rw [h, decide_eq_false h2]; rfl
theorem bkS_bad {N : Bch} {lv : List Bool} {e x : Int} {ds : List (List UInt8)} (h : bkBad e x ds = true) : bkS N lv e x ds = (1, N) := if_pos h
theorem bkS_err {N : Bch} {lv : List Bool} {e x : Int} {ds : List (List UInt8)} (h : bkBad e x ds = false) {r : Int × Bch} (hr : onTo (bkF (bkB e.toNat x.toNat ds :: ds)) lv N N.n = r) (h0 : r.1 ≠ 0) : bkS N lv e x ds = r := by
  unfold bkS; rw [if_neg (by rw [h]; decide), if_pos (by rw [hr]; exact h0), hr]
theorem bkS_fl {N : Bch} {lv : List Bool} {e x : Int} {ds : List (List UInt8)} (h : bkBad e x ds = false) {r : Int × Bch} (hr : onTo (bkF (bkB e.toNat x.toNat ds :: ds)) lv N N.n = r) (h0 : r.1 = 0) : bkS N lv e x ds = onTo flF lv r.2 N.n := by
  unfold bkS; rw [if_neg (by rw [h]; decide), if_neg (by rw [hr]; exact fun q => q h0), hr]
theorem rdrx_one {F : Nat → Prop} {V : World} {q n c : Nat} {A : Option Addr} {bs : List UInt8} {t : TypeId} {f : Nat × Nat} (hq : V.heap[q]? = some (.cells #[.slice A n c] t f)) (hn : bs.length = n) (oq : ¬ F q) (hb : RdBX F V A bs) : RdRX F V (some ⟨q, 0, none⟩) [bs] := by
  subst hn
  refine ⟨by simp, fun _ => ⟨q, 0, rfl, (Array.getElem?_eq_some_iff.1 hq).1, oq, fun k hk => ?_⟩⟩
  obtain rfl : k = 0 := by simp at hk; omega
  exact ⟨A, c, cell_of_row V q 0 _ t f hq, hb⟩
set_option maxHeartbeats 4000000 in
theorem bkPut_any (W w : World) (b : Nat) (H : BH) (N : Bch) (h : BP W w b H N) (lv : List Bool) (A : Option Addr) (m cp : Nat) (hm : m = lv.length) (hv : RdOX (BF b H N.n) w A lv) (e x : Int) (he : (-9223372036854775808 ≤ e ∧ e ≤ 9223372036854775807)) (hx : (-9223372036854775808 ≤ x ∧ x ≤ 9223372036854775807)) (A2 : Option Addr) (ds : List (List UInt8)) (n2 c2 : Nat) (hn2 : ds.length = n2) (h1000 : n2 ≤ 1000) (hrd : RdRX (BF b H N.n) w A2 ds)
    (hps : ∀ i, i < N.n → (N.D i).ps.length ≤ 1999000) (hdn : N.done ≤ 1999000) (ht : TabOk W) :
    Calls Tryd.prog 9 #[.pointer (some ⟨b, 0, none⟩), .slice A m cp, .int .i64 e, .int .i64 x, .slice A2 n2 c2] w fun r w' => r = .returned (.int .i64 (bkS N lv e x ds).1) ∧ BC W w w' b H N.n (bkS N lv e x ds).2 := by
  subst hm
  have CM := Lib.hid (fun V => bkMay_any e x V)
  have Hh := Lib.hid h
  have B1 := Lib.hid (below1 w (.cells #[.pointer (some ⟨b, 0, none⟩)] 23))
  have CU := Lib.hid (fun V (hb : Below w.heap.size w V) => bkAnyU_any A2 n2 c2 ds V hn2 ((hrd.below hb).rdr))
  have HB := Lib.hid (h.self.then B1.out)
  cases hk : bkMay e x with
  | false =>
    have HS := Lib.hid (bkS_bad (N := N) (lv := lv) (bkBad_may (ds := ds) hk))
    rw [hk] at CM
    clear h hv hrd hps hdn ht hk CU hn2
    go_enter Tryd.func9, Tryd.ntmps9
    go_wp2_with (go_at_call 23; (with_reducible refine (CM.out _).mono ?_); rintro e w1 ⟨rfl, rfl⟩)
    go_ret
    exact ⟨by rw [HS.out]; rfl, by rw [HS.out]; exact HB.out⟩
  | true =>
    rw [hk] at CM
    by_cases hl : 28 < n2
    · have HS := Lib.hid (bkS_bad (N := N) (lv := lv) (bkBad_len (ds := ds) hk (by omega)))
      have i1 : (28 : Int) < (n2 : Int) := by omega
      clear h hv hrd hps hdn ht hk CU hn2
      go_enter Tryd.func9, Tryd.ntmps9
      go_wp2_with (go_at_call 23; (with_reducible refine (CM.out _).mono ?_); rintro e w1 ⟨rfl, rfl⟩)
      go_ret
      exact ⟨by rw [HS.out]; rfl, by rw [HS.out]; exact HB.out⟩
    · have i1 : ¬ (28 : Int) < (n2 : Int) := by omega
      have HX := Lib.hid (bkBad_any (ds := ds) hk (by omega))
      cases hu : ds.any unlB with
      | true =>
        have HS := Lib.hid (bkS_bad (N := N) (lv := lv) (HX.out.trans hu))
        rw [hu] at CU
        clear h hv hrd hps hdn ht hk hn2 HX hu
        go_enter Tryd.func9, Tryd.ntmps9
        go_wp2_with (first
          | (go_at_call 23; (with_reducible refine (CM.out _).mono ?_); rintro e w1 ⟨rfl, rfl⟩)
          | (go_at_call 24; (with_reducible refine (CU.out _ B1.out).mono ?_); rintro e w1 ⟨rfl, rfl⟩))
        go_ret
        exact ⟨by rw [HS.out]; rfl, by rw [HS.out]; exact HB.out⟩
      | false =>
        have HBad := Lib.hid (HX.out.trans hu)
        rw [hu] at CU
        obtain ⟨h0, h1, h2, h3⟩ := (bkMay_iff e x).1 hk
        obtain ⟨en, rfl⟩ : ∃ k : Nat, e = (k : Int) := ⟨e.toNat, by omega⟩
        obtain ⟨xn, rfl⟩ : ∃ k : Nat, x = (k : Int) := ⟨x.toNat, by omega⟩
        have htw : TabOk w := ht.below h.bel ht.pos
        have CH := Lib.hid (bkHead_any A2 n2 c2 en xn ds _ hn2 (by omega) (by omega) (by omega) (hrd.below B1.out).rdr (htw.below B1.out htw.pos))
        have Hv := Lib.hid hv
        have Hrd := Lib.hid hrd
        have Hn2 := Lib.hid hn2
        have Hps := Lib.hid hps
        have Hdn := Lib.hid hdn
        have C5 := Lib.hid (cell_of_row (w.alloc (.cells #[.pointer (some ⟨b, 0, none⟩)] 23)) w.heap.size 0 _ _ _ (heap_alloc_new w _))
        clear h hv hrd hps hdn ht hk hn2 HX hu htw HB h0 h1 h2 h3 he hx
        go_enter Tryd.func9, Tryd.ntmps9
        go_wp2_with (first
          | (go_at_call 23; (with_reducible refine (CM.out _).mono ?_); rintro e w1 ⟨rfl, rfl⟩)
          | (go_at_call 24; (with_reducible refine (CU.out _ B1.out).mono ?_); rintro e w1 ⟨rfl, rfl⟩))
        (with_reducible refine CH.out.mono ?_); rintro e w1 ⟨g, rfl, ho, hb1⟩
        have hB1 := B1.out.trans (hb1.mono B1.out.size)
        have HB1 := Lib.hid hB1
        have D5 := Lib.hid ((hb1.cell (p := ⟨w.heap.size, 0, none⟩) (by show w.heap.size < _; simp)).trans C5.out)
        have hz1 : w.heap.size < w1.heap.size := by have := hb1.size; simp at this; omega
        have Hoff := Lib.hid (show ∀ k, w.heap.size ≤ k → ¬ BF b H N.n k from fun k hk q => by have := (Hh.out.at'.flt q).2; omega)
        have HX1 := Lib.hid (show RdBX (BF b H N.n) w1 (some ⟨g, 0, none⟩) (bkB en xn ds) from ho.rdbf.rdbx fun k _ hk => Hoff.out k (by simp at hk; omega))
        have Hlen := Lib.hid (bkB_len en xn ds)
        have HPS : Hid (bkB ((en : Int)).toNat ((xn : Int)).toNat ds :: ds = [bkB en xn ds] ++ ds) := rfl
        generalize bkB en xn ds = hd at HX1 Hlen HPS
        clear ho hb1 hB1 CH CU CM C5
        go_wp2_with fail
        have b2 := below2 w1 (.cells #[.slice (some ⟨g, 0, none⟩) 32 32] 48) (.cells #[.slice (some ⟨w1.heap.size, 0, none⟩) 1 1, .slice A2 n2 c2] 31)
        have g1 : ((w1.alloc (.cells #[.slice (some ⟨g, 0, none⟩) 32 32] 48)).alloc (.cells #[.slice (some ⟨w1.heap.size, 0, none⟩) 1 1, .slice A2 n2 c2] 31)).heap[w1.heap.size]? = some (.cells #[.slice (some ⟨g, 0, none⟩) 32 32] 48) := (hp_old _ _ _ (by simp)).trans (hp_new w1 _ _ rfl)
        have g2 : ((w1.alloc (.cells #[.slice (some ⟨g, 0, none⟩) 32 32] 48)).alloc (.cells #[.slice (some ⟨w1.heap.size, 0, none⟩) 1 1, .slice A2 n2 c2] 31)).heap[w1.heap.size + 1]? = some (.cells #[.slice (some ⟨w1.heap.size, 0, none⟩) 1 1, .slice A2 n2 c2] 31) := hp_new _ _ _ (by simp)
        generalize (w1.alloc (.cells #[.slice (some ⟨g, 0, none⟩) 32 32] 48)).alloc (.cells #[.slice (some ⟨w1.heap.size, 0, none⟩) 1 1, .slice A2 n2 c2] 31) = V at b2 g1 g2 ⊢
        have HBV := Lib.hid (HB1.out.trans (b2.mono (by omega)))
        have DV := Lib.hid ((b2.cell (p := ⟨w.heap.size, 0, none⟩) hz1).trans D5.out)
        have hzV : w.heap.size < V.heap.size := by have := b2.size; omega
        have CC := Lib.hid (bkConcat_any (BF b H N.n) (w1.heap.size + 1) (some ⟨w1.heap.size, 0, none⟩) A2 1 n2 1 c2 _ _ [hd] ds V (fun k q => by have := (Hh.out.at'.flt q).2; omega) g2 rfl Hn2.out (by omega) (by omega) (rdrx_one g1 Hlen.out (Hoff.out _ (by omega)) (HX1.out.below b2)) (Hrd.out.below HBV.out))
        clear b2 g1 g2 D5 HX1
        (with_reducible refine CC.out.mono ?_); rintro e w2 ⟨A3, c3, rfl, hr3, hb3⟩
        have HB3 := Lib.hid (HBV.out.trans (hb3.mono (by omega)))
        have D3 := Lib.hid ((hb3.cell (p := ⟨w.heap.size, 0, none⟩) hzV).trans DV.out)
        have hz3 : w.heap.size < w2.heap.size := by have := hb3.size; omega
        have b4 := below1 w2 (.cells #[.slice A3 (1 + n2) c3] 31)
        have d5 := (b4.cell (p := ⟨w.heap.size, 0, none⟩) hz3).trans D3.out
        have d11 : (w2.alloc (.cells #[.slice A3 (1 + n2) c3] 31)).cell? ⟨w2.heap.size, 0, none⟩ = some (.slice A3 (1 + n2) c3) := cell_of_row _ _ 0 _ _ _ (hp_new w2 _ _ rfl)
        have hr4 := hr3.below b4
        have HB4 := Lib.hid (HB3.out.trans (b4.mono (by omega)))
        have CE := Lib.hid (eachBk_any W _ b H N (Hh.out.grow HB4.out) w.heap.size w2.heap.size A3 ([hd] ++ ds) (1 + n2) c3 (by rw [List.length_append, Hn2.out]; rfl) (by omega) d5 d11 hr4 (Hoff.out _ (Nat.le_refl _)) (Hoff.out _ (by omega)) lv A lv.length cp rfl (Hv.out.below HB4.out) Hps.out Hdn.out)
        have D4 := Lib.hid d5
        have Hnw := Lib.hid (show (onTo (bkF ([hd] ++ ds)) lv N N.n).2.n = N.n from onBk_n _)
        obtain ⟨r, hr⟩ : ∃ r, onTo (bkF ([hd] ++ ds)) lv N N.n = r := ⟨_, rfl⟩
        have HS1 : Hid (r.1 ≠ 0 → bkS N lv (en : Int) (xn : Int) ds = r) := fun q => bkS_err HBad.out (by rw [HPS.out]; exact hr) q
        have HS0 : Hid (r.1 = 0 → bkS N lv (en : Int) (xn : Int) ds = onTo flF lv r.2 N.n) := fun q => bkS_fl HBad.out (by rw [HPS.out]; exact hr) q
        rw [hr] at CE Hnw
        obtain ⟨e0, Nw⟩ := r
        clear hr hb3 b4 d11 hr4 hr3 CC DV D3 HB3 HBV HPS Hlen
        by_cases q0 : e0 = 0
        · have HSt := Lib.hid (HS0.out q0)
          rw [q0] at CE
          clear HS0 HS1 q0
          go_wp2_with (first
            | (go_at_call 28
               (with_reducible refine CE.out.mono ?_)
               rintro e w5 ⟨rfl, ht5⟩
               obtain ⟨H5, a5, c5, n5⟩ := ht5
               have A5 := Lib.hid a5
               have C5 := Lib.hid c5
               have N5 := Lib.hid n5
               have e3 := cell_chg D4.out c5 (Hoff.out _ (Nat.le_refl _))
               clear a5 c5 n5
               have CF := Lib.hid (eachFl_any W w5 b H5 Nw A5.out lv A lv.length cp rfl (by rw [Hnw.out]; exact (Hv.out.below HB4.out).chg C5.out (bnew_weak N5.out))))
            | (go_at_call 28
               (with_reducible refine CF.out.mono ?_)
               rintro e w6 ⟨rfl, ht6⟩
               have HT := Lib.hid (BC.below HB4.out (BC.seq C5.out N5.out (by rw [Hnw.out] at ht6; exact ht6)))
               clear ht6))
          go_ret
          exact ⟨by rw [HSt.out, ← Hnw.out]; rfl, by rw [HSt.out]; exact HT.out⟩
        · have HSt := Lib.hid (HS1.out q0)
          have n0 : (e0 != 0) = true := by rw [bne_iff_ne]; exact q0
          clear HS0 HS1 q0
          go_wp2_with (go_at_call 28; (with_reducible refine CE.out.mono ?_); rintro e w5 ⟨rfl, ht5⟩; have HT := Lib.hid (BC.below HB4.out ht5); clear ht5)
          go_ret
          exact ⟨by rw [HSt.out]; rfl, by rw [HSt.out]; exact HT.out⟩
end Go.Proofs.YtjnemopocmhfkaaDoor
end
section
set_option maxRecDepth 20000
set_option linter.unusedVariables false
set_option linter.unusedSimpArgs false
namespace Go.Proofs.YtjnemopocmhfkaaDoor
open Go.RowKit

theorem gotB_may {N : Bch} {lv : List Bool} {e x : Int} (h : bkMay e x = false) : gotB N lv e x = false ∧ gotL N lv e x = [] := by
  unfold gotB gotL
  rw [h, if_neg (by decide)]; exact ⟨rfl, rfl⟩
theorem gotB_nat {N : Bch} {lv : List Bool} {e x : Nat} (h : bkMay (e : Int) (x : Int) = true) : gotB N lv (e : Int) (x : Int) = getB N lv e x N.n ∧ gotL N lv (e : Int) (x : Int) = getL N lv e x N.n := by
  unfold gotB gotL
  rw [h, if_pos rfl]; exact ⟨rfl, rfl⟩
theorem getB_no {N : Bch} {lv : List Bool} {e x j : Nat} (h : getB N lv e x j = false) (h2 : (lv.getD j false && hitB N e x j) = false) : getB N lv e x (j + 1) = false := by rw [getB, h, h2]; rfl
theorem getB_yes {N : Bch} {lv : List Bool} {e x j : Nat} (h : getB N lv e x j = false) (h2 : lv.getD j false = true) (h3 : hitB N e x j = true) (hj : j < N.n) : getB N lv e x N.n = true ∧ getL N lv e x N.n = hitR N e x j := by
  have h4 : getB N lv e x (j + 1) = true := by rw [getB, h2, h3, Bool.and_self, Bool.or_true]
  obtain ⟨a, b⟩ := getB_mono h4 N.n (by omega)
  refine ⟨a, b.trans ?_⟩
  rw [getL, if_neg (by rw [h]; decide), if_pos (by rw [h2, h3]; rfl), hitR_yes h3]
set_option maxHeartbeats 4000000 in
theorem bkGet_any (B b : Nat) (H : BH) (N : Bch) (w : World) (h : BAt w B b H N) (lv : List Bool) (A : Option Addr) (n c : Nat) (hn : n = lv.length) (hv : RdO w w.heap.size A lv) (e x : Int) (he : (-9223372036854775808 ≤ e ∧ e ≤ 9223372036854775807)) (hx : (-9223372036854775808 ≤ x ∧ x ≤ 9223372036854775807)) (ht : TabOk w) :
    Calls Tryd.prog 11 #[.pointer (some ⟨b, 0, none⟩), .slice A n c, .int .i64 e, .int .i64 x] w fun r w' => ∃ v, r = .returned (.tuple #[v, .bool (gotB N lv e x)]) ∧ OwV w.heap.size w' v (gotL N lv e x) ∧ Below w.heap.size w w' := by
  subst hn
  have CM := Lib.hid (fun V => bkMay_any e x V)
  have hnil : ∀ V : World, OwV w.heap.size V (.slice none 0 0) [] := fun V => ⟨[], World.ownsRow_nil _ _ _ _, RowsY.nil _ _ _⟩
  cases hk : bkMay e x with
  | false =>
    have HS := Lib.hid (gotB_may (N := N) (lv := lv) hk)
    rw [hk] at CM
    clear h hv ht hk
    go_enter Tryd.func11, Tryd.ntmps11
    go_wp2_with (go_at_call 23; (with_reducible refine (CM.out _).mono ?_); rintro e w1 ⟨rfl, rfl⟩)
    go_ret2
    exact ⟨.slice none 0 0, by rw [HS.out.1]; rfl, by rw [HS.out.2]; exact hnil _, Below.refl _ _⟩
  | true =>
    rw [hk] at CM
    obtain ⟨h0, h1, h2, h3⟩ := (bkMay_iff e x).1 hk
    obtain ⟨en, rfl⟩ : ∃ k : Nat, e = (k : Int) := ⟨e.toNat, by omega⟩
    obtain ⟨xn, rfl⟩ : ∃ k : Nat, x = (k : Int) := ⟨x.toNat, by omega⟩
    have HS := Lib.hid (gotB_nat (N := N) (lv := lv) hk)
    have Ht := Lib.hid ht
    have hn8 := h.ok.n
    have CL := Lib.hid (bch_len_any B b H N w h)
    unfold ptr at CL
    have CI := Lib.hid (fun V (hb : Below w.heap.size w V) (j : Nat) (hj : j ≤ 1000000) => alvIs_any B b H N V (h.below hb) lv A lv.length c rfl (hv.keep hb.size (fun p hp => hb.cell hp)) (j : Int) (by omega) (by omega))
    have CD := Lib.hid (fun V (hb : Below w.heap.size w V) (j : Nat) (hj : j < N.n) => bkOnDisk_any B b H N V (h.below hb) j hj en xn (by omega) (by omega) (Ht.out.below hb Ht.out.pos))
    clear h hv ht hk h0 h1 h2 h3 he hx
    obtain ⟨n0, hn0⟩ : ∃ n0, N.n = n0 := ⟨_, rfl⟩
    rw [hn0] at CL hn8 HS CD
    have Hn0 := Lib.hid hn0
    clear hn0
    go_enter Tryd.func11, Tryd.ntmps11
    go_wp2_with (first
      | (go_at_call 23; (with_reducible refine (CM.out _).mono ?_); rintro e w1 ⟨rfl, rfl⟩)
      | (go_at_call 33; (with_reducible refine CL.out.mono ?_); rintro e w1 ⟨rfl, rfl⟩))
    go_loopw [19] (fun i wr => ∃ j : Nat, j ≤ n0 ∧ i = .int .i64 j ∧ getB N lv en xn j = false ∧ Below w1.heap.size w1 wr) (fun i _ => n0 - (intOf i).toNat)
    case atStart => exact ⟨0, Nat.zero_le _, rfl, rfl, Below.refl _ _⟩
    case round =>
      obtain ⟨j, hj, rfl, hno, hbr⟩ := hrel
      have Hno := Lib.hid hno
      have Hbr := Lib.hid hbr
      clear hno hbr
      by_cases hlt : j < n0
      · have i0 : (0 : Int) ≤ (j : Int) := by omega
        have i1 : (j : Int) < (n0 : Int) := by omega
        have CI1 := Lib.hid (CI.out wr Hbr.out j (by omega))
        have HLv := Lib.hid (show alvD N.n lv (j : Int) = lv.getD j false by rw [alvD_nat, Hn0.out, decide_eq_true hlt]; rfl)
        rw [HLv.out] at CI1
        cases hb : lv.getD j false with
        | false =>
          rw [hb] at CI1
          have HN := Lib.hid (getB_no Hno.out (by rw [hb]; rfl))
          clear hb CI CD HLv
          go_wp2_with (go_at_call 34; (with_reducible refine CI1.out.mono ?_); rintro e w2 ⟨rfl, h2⟩; obtain rfl : wr = w2 := h2.symm)
          go_roundw
          case rel => exact ⟨j + 1, by omega, by go_num, HN.out, Hbr.out⟩
          case measure => simp [intOf]; omega
        | true =>
          rw [hb] at CI1
          have CD1 := Lib.hid (CD.out wr Hbr.out j hlt)
          cases hh : hitB N en xn j with
          | false =>
            have HN := Lib.hid (getB_no Hno.out (by rw [hb, hh]; rfl))
            rw [hh] at CD1
            clear hb CI CD HLv hh
            go_wp2_with (first
              | (go_at_call 34; (with_reducible refine CI1.out.mono ?_); rintro e w2 ⟨rfl, h2⟩; obtain rfl : wr = w2 := h2.symm)
              | (go_at_call 35; (with_reducible refine CD1.out.mono ?_); rintro e w3 ⟨v, rfl, _, hb3⟩; have HB3 := Lib.hid (Hbr.out.trans (hb3.mono Hbr.out.size)); clear hb3))
            go_roundw
            case rel => exact ⟨j + 1, by omega, by go_num, HN.out, HB3.out⟩
            case measure => simp [intOf]; omega
          | true =>
            have HY := Lib.hid (getB_yes Hno.out hb hh (by rw [Hn0.out]; exact hlt))
            rw [hh] at CD1
            clear hb CI CD HLv hh
            go_wp2_with (first
              | (go_at_call 34; (with_reducible refine CI1.out.mono ?_); rintro e w2 ⟨rfl, h2⟩; obtain rfl : wr = w2 := h2.symm)
              | (go_at_call 35; (with_reducible refine CD1.out.mono ?_); rintro e w3 ⟨v, rfl, ho3, hb3⟩; have HB3 := Lib.hid (Hbr.out.trans (hb3.mono Hbr.out.size)); have HO3 := Lib.hid (ho3.le Hbr.out.size); clear hb3 ho3))
            go_ret2
            rw [Hn0.out] at HY
            exact ⟨v, by rw [HS.out.1, HY.out.1]; rfl, by rw [HS.out.2, HY.out.2]; exact HO3.out, HB3.out⟩
      · obtain rfl : j = n0 := by omega
        go_wp2
        go_ret2
        exact ⟨.slice none 0 0, by rw [HS.out.1, Hno.out]; rfl, by rw [HS.out.2, getL_none Hno.out]; exact hnil _, Hbr.out⟩
end Go.Proofs.YtjnemopocmhfkaaDoor
end
