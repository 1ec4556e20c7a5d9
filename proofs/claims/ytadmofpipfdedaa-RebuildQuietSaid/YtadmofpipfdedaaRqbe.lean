/- Texts put together: RbdRenew, RbdParted, Rbd. -/
import Derived.Test.YtadmofpipfdedaaRqbd
import Derived.Test.YtadmofpipfdedaaRqbb
import Derived.Test.YtadmofpipfdedaaRqaa
import Derived.Test.YtadmofpipfdedaaRqae
section
set_option maxRecDepth 20000
set_option linter.unusedVariables false
set_option linter.unusedSimpArgs false
namespace Go.Proofs.Ytadmofpipfdedaa
open Go.RowKit

set_option maxHeartbeats 1600000 in
theorem renew_any {W w : World} {b : Nat} {H : BH} {N : Bch} (h : BP W w b H N) (lv : List Bool) (A : Option Addr) (m cp : Nat) (hm : m = lv.length) (hv : RdOX (BF b H N.n) w A lv) {nn l c : Int} {r dd D F Wd : Nat} (gr : Gr nn l c (r : Int) D F Wd) (hdd : dd < D)
    (hfo : srdE N lv l (D : Int) c (r : Int) = 0 → fillOk l (D : Int) c (r : Int) (srdL N lv l (D : Int) c (r : Int)) = true) (hps : ∀ i, i < N.n → (N.D i).ps.length ≤ 1999990) (hdn : N.done ≤ 1999990) :
    Calls Try.prog 49 #[.pointer (some ⟨b, 0, none⟩), .slice A m cp, .int .i64 (dd : Int), .agg #[.int .i64 l, .int .i64 (D : Int), .int .i64 c], .int .i64 (r : Int)] w (StpW W w b H N.n (renS N lv l (D : Int) c r dd)) := by
  subst hm
  have hr16 := gr.r0
  have hd8 := gr.d8
  have K0 : KS W w b H N [] [] [] := KX.ks ⟨h, fun p hp => absurd hp (by simp)⟩
  have B1 := below1 w (.cells #[.int .i64 l, .int .i64 (D : Int), .int .i64 c] 25)
  have CR := ks_read (K0.below B1) lv A lv.length cp rfl (hv.below B1) l (D : Int) c (r : Int) gr.l64 gr.d64 gr.c64 gr.r64
  have G := Lib.hid (gat_new w l (D : Int) c 25 (0, 0))
  have HB1 := Lib.hid B1
  have Hh := Lib.hid h
  have Hflt := Lib.hid (show ∀ k, BF b H N.n k → k < w.heap.size from fun k hk => (h.at'.flt hk).2)
  clear B1 hv K0 h
  by_cases hE : srdE N lv l (D : Int) c (r : Int) = 0
  · have hL := hfo hE
    obtain ⟨_, hl, ha⟩ := fillOk_yes hL
    rw [gr.eW] at hl
    have HR : Hid (renS N lv l (D : Int) c r dd = (N.writeE (dd : Int) ((36 + r : Nat) : Int) ((fillL D F (srdL N lv l (D : Int) c (r : Int))).getD dd []).length, N.write (dd : Int) ((36 + r : Nat) : Int) ((fillL D F (srdL N lv l (D : Int) c (r : Int))).getD dd []))) := Lib.hid (by
      unfold renS rbRow
      rw [if_neg (by simp [hE]), gr.eD, gr.eF])
    rw [hE, hl] at CR
    have h32 := gr.fills hl ha hdd
    generalize renS N lv l (D : Int) c r dd = rr at HR ⊢
    generalize srdL N lv l (D : Int) c (r : Int) = L at CR HR hl ha h32
    have CR := Lib.hid CR
    have HL := Lib.hid (show L.length = Wd ∧ ∀ x ∈ L, x.length = 32 from ⟨hl, ha⟩)
    have CF := Lib.hid (fun (V : World) (A' : Option Addr) (c' : Nat) (hrd : RdR V V.heap.size A' L) => gr.fill (cp := c') hrd hl ha)
    have HPS := Lib.hid (show ∀ i, i < N.n → (N.D i).ps.length ≤ 2000000 from fun i hi => by have := hps i hi; omega)
    clear hfo hE hL hl ha gr hps
    go_enter Try.func49, Try.ntmps49
    go_wp2_with fail
    (with_reducible refine CR.out.mono ?_); rintro e w1 ⟨A', c', rfl, k1, hb⟩
    have FB := Lib.hid (HB1.out.trans (hb.mono HB1.out.size))
    obtain ⟨g1, g2, g3⟩ := G.out.below hb (by simp)
    have CF1 := Lib.hid (CF.out w1 A' c' (k1.rd (by simp)))
    have hz1 : w.heap.size < w1.heap.size := by have := hb.size; simp at this; omega
    clear k1 hb CR CF G
    go_wp2_with fail
    (with_reducible refine CF1.out.mono ?_); rintro e w2 ⟨g, xs, rfl, Q, hb⟩
    have FB2 := Lib.hid (FB.out.trans (hb.mono FB.out.size))
    have hrx : RdRX (BF b H N.n) w2 (some ⟨g, 0, none⟩) (fillL D F L) := (Q.rdf (by omega)).rdrx fun k _ hk e => by have := Hflt.out k e; omega
    obtain ⟨b', off, A2, c2, e2, h1, h2⟩ := hrx.at (k := dd) (by rw [fillL_len]; exact hdd)
    injection e2 with e2
    injection e2 with e3 e4 _
    subst e3 e4
    rw [Nat.zero_add] at h1
    have h2b := h2.rdb
    generalize (fillL D F L).getD dd [] = x at h1 h2b h32 HR
    rw [h32] at h1 HR
    have CW := Lib.hid (bp_write W w2 b H N (Hh.out.grow FB2.out) (dd : Int) (36 + (r : Int)) x A2 32 c2 h32.symm ⟨by omega, by omega⟩ ⟨by omega, by omega⟩ h2b HPS.out (by omega))
    have i0 : (0 : Int) ≤ (dd : Int) := by omega
    have i1 : (dd : Int) < (D : Int) := by omega
    clear hrx h2 h2b h32 Q hb g1 g2 g3 CF1
    go_wp2_with fail
    (with_reducible refine CW.out.mono ?_); rintro e w3 ⟨rfl, ht⟩
    have Ht := Lib.hid ht
    clear ht h1 CW
    go_wp2_with fail
    go_ret
    refine ⟨by rw [HR.out, show ((36 + r : Nat) : Int) = 36 + (r : Int) by omega]; rfl, ?_⟩
    rw [HR.out, show ((36 + r : Nat) : Int) = 36 + (r : Int) by omega]
    exact BC.below FB2.out Ht.out
  · have HR : Hid (renS N lv l (D : Int) c r dd = (srdE N lv l (D : Int) c (r : Int), N)) := Lib.hid (if_pos hE)
    have e0 : (srdE N lv l (D : Int) c (r : Int) != 0) = true := by rw [bne_iff_ne]; exact hE
    generalize renS N lv l (D : Int) c r dd = rr at HR ⊢
    generalize srdE N lv l (D : Int) c (r : Int) = E at CR HR e0
    have CR := Lib.hid CR
    clear hfo hE gr hps hdn
    go_enter Try.func49, Try.ntmps49
    go_wp2_with fail
    (with_reducible refine CR.out.mono ?_); rintro e w1 ⟨A', c', rfl, k1, hb⟩
    have FB := Lib.hid (HB1.out.trans (hb.mono HB1.out.size))
    clear k1 hb CR G
    go_wp2_with fail
    go_ret
    exact ⟨by rw [HR.out]; rfl, by rw [HR.out]; exact BC.below FB.out (Hh.out.grow FB.out).self⟩
end Go.Proofs.Ytadmofpipfdedaa
end
section
set_option maxRecDepth 20000
set_option linter.unusedVariables false
set_option linter.unusedSimpArgs false
namespace Go.Proofs.Ytadmofpipfdedaa
open Go.RowKit

/-- Whole numbers of 64 bits. -/
structure RG64 (G : RG) : Prop where
  l : (-9223372036854775808 ≤ G.l ∧ G.l ≤ 9223372036854775807)
  d : (-9223372036854775808 ≤ G.d ∧ G.d ≤ 9223372036854775807)
  c : (-9223372036854775808 ≤ G.c ∧ G.c ≤ 9223372036854775807)
  l' : (-9223372036854775808 ≤ G.l' ∧ G.l' ≤ 9223372036854775807)
  d' : (-9223372036854775808 ≤ G.d' ∧ G.d' ≤ 9223372036854775807)
  c' : (-9223372036854775808 ≤ G.c' ∧ G.c' ≤ 9223372036854775807)
  s : (-9223372036854775808 ≤ G.s ∧ G.s ≤ 9223372036854775807)
def RG.e (G : RG) : Int := if G.ok = true then 0 else 1
set_option maxHeartbeats 800000 in
theorem partedCheck_any (G : RG) (w : World) (h : RG64 G) :
    Calls Try.prog 46 #[.agg #[.int .i64 G.l, .int .i64 G.d, .int .i64 G.c], .agg #[.int .i64 G.l', .int .i64 G.d', .int .i64 G.c'], .int .i64 G.s] w fun e w' => e = .returned (.int .i64 G.e) ∧ Below w.heap.size w w' := by
  have CK : Hid (∀ W, Calls Try.prog 70 #[.agg #[.int .i64 G.l, .int .i64 G.d, .int .i64 G.c]] W fun e w' => e = .returned (.int .i64 (gErr G.l G.d G.c)) ∧ Below W.heap.size W w') := Lib.hid fun W => check_any G.l G.d G.c W h.l h.d h.c
  have CT : Hid (∀ W, Calls Try.prog 70 #[.agg #[.int .i64 G.l', .int .i64 G.d', .int .i64 G.c']] W fun e w' => e = .returned (.int .i64 (gErr G.l' G.d' G.c')) ∧ Below W.heap.size W w') := Lib.hid fun W => check_any G.l' G.d' G.c' W h.l' h.d' h.c'
  have HG : Hid (G.e = if (gOk G.l G.d G.c && (decide (0 ≤ G.s) && (decide (G.s ≤ 16) && (decide (G.s = 0) || gOk G.l' G.d' G.c')))) = true then 0 else 1) := rfl
  have hs := h.s
  generalize G.e = ge at HG ⊢
  clear h
  generalize G.l = l at CK HG
  generalize G.d = d at CK HG
  generalize G.c = c at CK HG
  generalize G.l' = l' at CT HG
  generalize G.d' = d' at CT HG
  generalize G.c' = c' at CT HG
  generalize G.s = s at hs HG
  have G2 := (gat_new (w.alloc (.cells #[.int .i64 l, .int .i64 d, .int .i64 c] 25)) l' d' c' 25 (0, 0))
  have B2 := below2 w (.cells #[.int .i64 l, .int .i64 d, .int .i64 c] 25) (.cells #[.int .i64 l', .int .i64 d', .int .i64 c'] 25)
  have hz : (w.alloc (.cells #[.int .i64 l, .int .i64 d, .int .i64 c] 25)).heap.size = w.heap.size + 1 := by simp
  rw [hz] at G2
  clear hz
  have HB2 := Lib.hid B2
  have HG2 := Lib.hid G2
  clear B2 G2
  have hgo : ∀ x y z : Int, gErr x y z = if gOk x y z = true then 0 else 1 := fun _ _ _ => rfl
  rw [hgo] at CK CT
  clear hgo
  cases hg : gOk l d c with
  | false =>
    rw [hg] at CK HG
    have CK := CK
    simp only [Bool.false_eq_true, if_false] at CK
    clear hg CT
    go_enter Try.func46, Try.ntmps46
    go_wp2_with fail
    (with_reducible refine (CK.out _).mono ?_); rintro e w1 ⟨rfl, hb⟩
    have F := HB2.out.trans (hb.mono HB2.out.size)
    clear hb
    go_wp2_with fail
    go_ret
    exact ⟨by rw [HG.out]; rfl, F⟩
  | true =>
    rw [hg] at CK HG
    simp only [if_true] at CK
    clear hg
    by_cases h0 : s < 0
    · have R := Lib.hid (show ge = 1 by rw [HG.out, decide_eq_false (by omega : ¬ 0 ≤ s)]; rfl)
      clear HG CT
      go_enter Try.func46, Try.ntmps46
      go_wp2_with fail
      (with_reducible refine (CK.out _).mono ?_); rintro e w1 ⟨rfl, hb⟩
      have F := HB2.out.trans (hb.mono HB2.out.size)
      clear hb
      go_wp2_with fail
      go_ret
      exact ⟨by rw [R.out]; rfl, F⟩
    · by_cases h1 : 16 < s
      · have R := Lib.hid (show ge = 1 by rw [HG.out, decide_eq_false (by omega : ¬ s ≤ 16)]; simp)
        clear HG CT
        go_enter Try.func46, Try.ntmps46
        go_wp2_with fail
        (with_reducible refine (CK.out _).mono ?_); rintro e w1 ⟨rfl, hb⟩
        have F := HB2.out.trans (hb.mono HB2.out.size)
        clear hb
        go_wp2_with fail
        go_ret
        exact ⟨by rw [R.out]; rfl, F⟩
      · by_cases h2 : s = 0
        · have R := Lib.hid (show ge = 0 by rw [HG.out, h2]; rfl)
          subst h2
          clear HG CT
          go_enter Try.func46, Try.ntmps46
          go_wp2_with fail
          (with_reducible refine (CK.out _).mono ?_); rintro e w1 ⟨rfl, hb⟩
          have F := HB2.out.trans (hb.mono HB2.out.size)
          clear hb
          go_wp2_with fail
          go_ret
          exact ⟨by rw [R.out]; rfl, F⟩
        · have R := Lib.hid (show ge = if gOk l' d' c' = true then 0 else 1 by rw [HG.out, decide_eq_true (by omega : 0 ≤ s), decide_eq_true (by omega : s ≤ 16), decide_eq_false h2]; rfl)
          have e2 : (s == 0) = false := ibeq_no h2
          clear HG h2
          generalize (if gOk l' d' c' = true then (0 : Int) else 1) = y at CT R
          go_enter Try.func46, Try.ntmps46
          go_wp2_with fail
          (with_reducible refine (CK.out _).mono ?_); rintro e w1 ⟨rfl, hb⟩
          have F := HB2.out.trans (hb.mono HB2.out.size)
          obtain ⟨g1, g2, g3⟩ := HG2.out.below hb (by simp)
          clear hb
          go_wp2_with fail
          (with_reducible refine (CT.out _).mono ?_); rintro e w2 ⟨rfl, hb⟩
          have F2 := F.trans (hb.mono F.size)
          clear hb
          go_wp2_with fail
          go_ret
          exact ⟨by rw [R.out]; rfl, F2⟩
set_option maxHeartbeats 800000 in
theorem partedOf_any (G : RG) (r : Nat) (hr : r < 16) (w : World) (h : RG64 G) :
    Calls Try.prog 48 #[.agg #[.int .i64 G.l, .int .i64 G.d, .int .i64 G.c], .agg #[.int .i64 G.l', .int .i64 G.d', .int .i64 G.c'], .int .i64 G.s, .int .i64 (r : Int)] w fun e w' => e = .returned (.agg #[.int .i64 (G.L r), .int .i64 (G.D r), .int .i64 (G.C r)]) ∧ Below w.heap.size w w' := by
  have HL := Lib.hid (show G.L r = rg G.s G.l G.l' r from rfl)
  have HD := Lib.hid (show G.D r = rg G.s G.d G.d' r from rfl)
  have HC := Lib.hid (show G.C r = rg G.s G.c G.c' r from rfl)
  have hs := h.s
  have hl := h.l
  have hd := h.d
  have hc := h.c
  have hl' := h.l'
  have hd' := h.d'
  have hc' := h.c'
  generalize G.L r = L at HL ⊢
  generalize G.D r = D at HD ⊢
  generalize G.C r = C at HC ⊢
  clear h
  generalize G.l = l at hl HL
  generalize G.d = d at hd HD
  generalize G.c = c at hc HC
  generalize G.l' = l' at hl' HL
  generalize G.d' = d' at hd' HD
  generalize G.c' = c' at hc' HC
  generalize G.s = s at hs HL HD HC
  by_cases hs2 : (r : Int) < s
  · have e1 := Lib.hid (HL.out.trans (if_pos hs2))
    have e2 := Lib.hid (HD.out.trans (if_pos hs2))
    have e3 := Lib.hid (HC.out.trans (if_pos hs2))
    clear HL HD HC
    go_enter Try.func48, Try.ntmps48
    go_wp2_with fail
    refine bodyPost_ret (v := .agg #[.int .i64 l', .int .i64 d', .int .i64 c']) (by simp [results, Try.results48, go_sem]) rfl ⟨?_, ?_⟩
    · rw [e1.out, e2.out, e3.out]
    · exact below3 w _ _ _
  · have e1 := Lib.hid (HL.out.trans (if_neg hs2))
    have e2 := Lib.hid (HD.out.trans (if_neg hs2))
    have e3 := Lib.hid (HC.out.trans (if_neg hs2))
    clear HL HD HC
    go_enter Try.func48, Try.ntmps48
    go_wp2_with fail
    refine bodyPost_ret (v := .agg #[.int .i64 l, .int .i64 d, .int .i64 c]) (by simp [results, Try.results48, go_sem]) rfl ⟨?_, ?_⟩
    · rw [e1.out, e2.out, e3.out]
    · exact below3 w _ _ _
end Go.Proofs.Ytadmofpipfdedaa
end
section
set_option maxRecDepth 20000
set_option linter.unusedVariables false
set_option linter.unusedSimpArgs false
namespace Go.Proofs.Ytadmofpipfdedaa
open Go.RowKit

/-- What a row that is read tells may be filled. -/
def RbF (N : Bch) (lv : List Bool) (G : RG) (dd : Nat) : Prop := ∀ r, r < 16 → (dd : Int) < G.D r → (rbTo lv G dd N r).1 = 0 → srdE (rbTo lv G dd N r).2 lv (G.L r) (G.D r) (G.C r) (r : Int) = 0 → fillOk (G.L r) (G.D r) (G.C r) (r : Int) (srdL (rbTo lv G dd N r).2 lv (G.L r) (G.D r) (G.C r) (r : Int)) = true
theorem rbS_bad {N : Bch} {lv : List Bool} {dd : Int} {G : RG} (h : N.pickE dd ≠ 0 ∨ alvD N.n lv dd = true ∨ G.ok = false) : rbS N lv dd G = (1, N) := if_pos h
theorem BC.same {W w w' : World} {b : Nat} {H : BH} {N : Bch} (h : BP W w b H N) (hb : Below w.heap.size w w') : BC W w w' b H N.n N := BC.below hb (h.grow hb).self
theorem cells3_one (x y z : Int) : ∀ u ∈ [Value.int .i64 x, .int .i64 y, .int .i64 z], u.oneCell' = true := by
  intro u hu
  simp only [List.mem_cons, List.not_mem_nil, or_false] at hu
  rcases hu with rfl | rfl | rfl <;> rfl
set_option maxHeartbeats 3200000 in
theorem rbDisk_any {W w : World} {b : Nat} {H : BH} {N : Bch} (h : BP W w b H N) (lv : List Bool) (A : Option Addr) (m cp : Nat) (hm : m = lv.length) (hv : RdOX (BF b H N.n) w A lv) (dd : Int) (hd : (-9223372036854775808 ≤ dd ∧ dd ≤ 9223372036854775807)) (G : RG) (h64 : RG64 G)
    (hfo : ¬ (N.pickE dd ≠ 0 ∨ alvD N.n lv dd = true ∨ G.ok = false) → (N.D dd.toNat).f = false → RbF N lv G dd.toNat) (hps : ∀ i, i < N.n → (N.D i).ps.length ≤ 1999900) (hdn : N.done ≤ 1999900) :
    Calls Try.prog 18 #[.pointer (some ⟨b, 0, none⟩), .slice A m cp, .int .i64 dd, .agg #[.int .i64 G.l, .int .i64 G.d, .int .i64 G.c], .agg #[.int .i64 G.l', .int .i64 G.d', .int .i64 G.c'], .int .i64 G.s] w (StpW W w b H N.n (rbS N lv dd G)) := by
  subst hm
  have hn8 := h.at'.ok.n
  have B2 := below2 w (.cells #[.int .i64 G.l, .int .i64 G.d, .int .i64 G.c] 25) (.cells #[.int .i64 G.l', .int .i64 G.d', .int .i64 G.c'] 25)
  have h2 := h.grow B2
  have CL := Lib.hid (bp_len W _ b H N h2)
  have HS := Lib.hid (fun (w' : World) (hb : Below w.heap.size w w') => BC.same h hb)
  have HB2 := Lib.hid B2
  by_cases c0 : dd < 0
  · have HE := Lib.hid (rbS_bad (lv := lv) (G := G) (.inl (show N.pickE dd ≠ 0 by rw [Bch.pickE_no (by omega)]; decide)))
    generalize rbS N lv dd G = rr at HE ⊢
    clear h h2 hv hfo hps hdn B2 h64 CL
    go_enter Try.func18, Try.ntmps18
    go_wp2_with fail
    go_ret
    exact ⟨by rw [HE.out]; rfl, by rw [HE.out]; exact HS.out _ HB2.out⟩
  by_cases c1 : (N.n : Int) ≤ dd
  · have HE := Lib.hid (rbS_bad (lv := lv) (G := G) (.inl (show N.pickE dd ≠ 0 by rw [Bch.pickE_no (by omega)]; decide)))
    generalize rbS N lv dd G = rr at HE ⊢
    clear h h2 hv hfo hps hdn B2 h64
    go_enter Try.func18, Try.ntmps18
    go_wp2_with fail
    (with_reducible refine CL.out.mono ?_); rintro e w1 ⟨rfl, rfl⟩
    go_wp2_with fail
    go_ret
    exact ⟨by rw [HE.out]; rfl, by rw [HE.out]; exact HS.out _ HB2.out⟩
  obtain ⟨k, rfl⟩ : ∃ k : Nat, dd = (k : Int) := ⟨dd.toNat, by omega⟩
  have hpk : N.pickE (k : Int) = 0 := Bch.pickE_ok (by omega) (by omega)
  have CI := Lib.hid (alvIs_any W.heap.size b H N _ h2.at' lv A lv.length cp rfl (hv.below B2).rdo (k : Int) (by omega) (by omega))
  cases ha : alvD N.n lv (k : Int) with
  | true =>
    have HE := Lib.hid (rbS_bad (G := G) (.inr (.inl ha)))
    rw [ha] at CI
    generalize rbS N lv (k : Int) G = rr at HE ⊢
    clear h h2 hv hfo hps hdn B2 h64 ha hpk
    go_enter Try.func18, Try.ntmps18
    go_wp2_with fail
    (with_reducible refine CL.out.mono ?_); rintro e w1 ⟨rfl, rfl⟩
    go_wp2_with fail
    (with_reducible refine CI.out.mono ?_); rintro e w1 ⟨rfl, rfl⟩
    go_wp2_with fail
    go_ret
    exact ⟨by rw [HE.out]; rfl, by rw [HE.out]; exact HS.out _ HB2.out⟩
  | false =>
  rw [ha] at CI
  have CP := Lib.hid (partedCheck_any G ((w.alloc (.cells #[.int .i64 G.l, .int .i64 G.d, .int .i64 G.c] 25)).alloc (.cells #[.int .i64 G.l', .int .i64 G.d', .int .i64 G.c'] 25)) h64)
  cases hok : G.ok with
  | false =>
    have HE := Lib.hid (rbS_bad (N := N) (lv := lv) (dd := (k : Int)) (.inr (.inr hok)))
    rw [show G.e = 1 from if_neg (by rw [hok]; decide)] at CP
    generalize rbS N lv (k : Int) G = rr at HE ⊢
    clear h h2 hv hfo hps hdn B2 h64 ha hpk hok
    go_enter Try.func18, Try.ntmps18
    go_wp2_with fail
    (with_reducible refine CL.out.mono ?_); rintro e w1 ⟨rfl, rfl⟩
    go_wp2_with fail
    (with_reducible refine CI.out.mono ?_); rintro e w1 ⟨rfl, rfl⟩
    go_wp2_with fail
    (with_reducible refine CP.out.mono ?_); rintro e w1 ⟨rfl, hb⟩
    have F := Lib.hid (HB2.out.trans (hb.mono HB2.out.size))
    clear hb
    go_wp2_with fail
    go_ret
    exact ⟨by rw [HE.out]; rfl, by rw [HE.out]; exact HS.out _ F.out⟩
  | true =>
  rw [show G.e = 0 from if_pos hok] at CP
  have CFd := Lib.hid (fun (V : World) (hb : Below w.heap.size w V) => bp_failed W V b H N (h.grow hb) (k : Int) ⟨by omega, by omega⟩)
  rw [alvFailed (show k < N.n by omega)] at CFd
  cases hf : (N.D k).f with
  | true =>
    have HE := Lib.hid (show rbS N lv (k : Int) G = (5, N) by
      unfold rbS
      rw [if_neg (by rw [hpk, ha, hok]; simp), Int.toNat_natCast, if_pos hf])
    rw [hf] at CFd
    generalize rbS N lv (k : Int) G = rr at HE ⊢
    clear h h2 hv hfo hps hdn B2 h64 ha hpk hok hf
    go_enter Try.func18, Try.ntmps18
    go_wp2_with fail
    (with_reducible refine CL.out.mono ?_); rintro e w1 ⟨rfl, rfl⟩
    go_wp2_with fail
    (with_reducible refine CI.out.mono ?_); rintro e w1 ⟨rfl, rfl⟩
    go_wp2_with fail
    (with_reducible refine CP.out.mono ?_); rintro e w1 ⟨rfl, hb⟩
    have F := Lib.hid (HB2.out.trans (hb.mono HB2.out.size))
    have CF := Lib.hid (CFd.out _ F.out)
    clear hb
    go_wp2_with fail
    (with_reducible refine CF.out.mono ?_); rintro e w2 ⟨rfl, rfl⟩
    go_wp2_with fail
    go_ret
    exact ⟨by rw [HE.out]; rfl, by rw [HE.out]; exact HS.out _ F.out⟩
  | false =>
    rw [hf] at CFd
    have HE := Lib.hid (show rbS N lv (k : Int) G = if (rbTo lv G k N 16).1 ≠ 0 then rbTo lv G k N 16 else ((rbTo lv G k N 16).2.flushE (k : Int), (rbTo lv G k N 16).2.flush (k : Int)) by
      unfold rbS
      rw [if_neg (by rw [hpk, ha, hok]; simp), Int.toNat_natCast, if_neg (by rw [hf]; simp)])
    rw [Int.toNat_natCast] at hfo
    have HF := Lib.hid (hfo (by rw [hpk, ha, hok]; simp) hf)
    have HGood := Lib.hid (fun r => RG.good hok r)
    have HCO := Lib.hid (fun (j : Nat) (hj : j < 16) (V : World) => partedOf_any G j hj V h64)
    have GA := gat_new w G.l G.d G.c 25 (0, 0)
    have GT := gat_new (w.alloc (.cells #[.int .i64 G.l, .int .i64 G.d, .int .i64 G.c] 25)) G.l' G.d' G.c' 25 (0, 0)
    have hz : (w.alloc (.cells #[.int .i64 G.l, .int .i64 G.d, .int .i64 G.c] 25)).heap.size = w.heap.size + 1 := by simp
    rw [hz] at GT
    have GA2 := GA.below (below1 (w.alloc (.cells #[.int .i64 G.l, .int .i64 G.d, .int .i64 G.c] 25)) (.cells #[.int .i64 G.l', .int .i64 G.d', .int .i64 G.c'] 25)) (by simp)
    have HGA := Lib.hid GA2
    have HGT := Lib.hid GT
    have Hflt := Lib.hid (show ∀ k, BF b H N.n k → k < w.heap.size from fun k hk => (h.at'.flt hk).2)
    have Hh := Lib.hid h
    have Hv := Lib.hid hv
    have Hps := Lib.hid hps
    have Hdn := Lib.hid hdn
    have H64 := Lib.hid h64
    have hs := h64.s
    generalize rbS N lv (k : Int) G = rr at HE ⊢
    clear h h2 hv hfo hps hdn B2 h64 ha hpk hok hf GA GA2 GT hz HS
    go_enter Try.func18, Try.ntmps18
    go_wp2_with fail
    (with_reducible refine CL.out.mono ?_); rintro e w1 ⟨rfl, rfl⟩
    go_wp2_with fail
    (with_reducible refine CI.out.mono ?_); rintro e w1 ⟨rfl, rfl⟩
    go_wp2_with fail
    (with_reducible refine CP.out.mono ?_); rintro e w1 ⟨rfl, hb⟩
    have F := Lib.hid (HB2.out.trans (hb.mono HB2.out.size))
    have CF := Lib.hid (CFd.out _ F.out)
    have GA1 := Lib.hid (HGA.out.below hb (by simp; omega))
    have GT1 := Lib.hid (HGT.out.below hb (by simp))
    have hz1 : w.heap.size + 2 ≤ w1.heap.size := by have := hb.size; simp at this; omega
    clear hb CL CI CP CFd HGA HGT HB2
    go_wp2_with fail
    (with_reducible refine CF.out.mono ?_); rintro e w2 ⟨rfl, rfl⟩
    have HP1 := Lib.hid (Hh.out.grow F.out)
    clear CF
    go_wp2_with fail
    go_loopw [41] (fun i wr => ∃ j : Nat, j ≤ 16 ∧ i = .int .i64 j ∧ (rbTo lv G k N j).1 = 0 ∧ BC W w2 wr b H N.n (rbTo lv G k N j).2) (fun i _ => 16 - (intOf i).toNat)
    case atStart => exact ⟨0, Nat.zero_le _, rfl, rfl, HP1.out.self⟩
    case round =>
      obtain ⟨j, hj, rfl, hz, hbc⟩ := hrel
      have Hz := Lib.hid hz
      have Hbc := Lib.hid hbc
      obtain ⟨Hj, aj, cj, nj⟩ := hbc
      have Haj := Lib.hid aj
      have Hcj := Lib.hid cj
      have Hnj := Lib.hid nj
      have Hnn : Hid ((rbTo lv G k N j).2.n = N.n) := Lib.hid (rbTo_n j)
      clear hz aj cj nj
      by_cases hlt : j < 16
      · have i1 : (j : Int) < 16 := by omega
        have hcell : ∀ p : Addr, p.block < w2.heap.size → w.heap.size ≤ p.block → wr.cell? p = w2.cell? p := fun p h1 h2 => chg_cell Hcj.out p (fun e => by have := Hflt.out _ e; omega) h1
        obtain ⟨a0, a1, a2⟩ := GA1.out
        obtain ⟨t0, t1, t2⟩ := GT1.out
        have x0 := (hcell ⟨w.heap.size, 0, none⟩ (by show w.heap.size < _; omega) (by show w.heap.size ≤ w.heap.size; omega)).trans a0
        have x1 := (hcell ⟨w.heap.size, 1, none⟩ (by show w.heap.size < _; omega) (by show w.heap.size ≤ w.heap.size; omega)).trans a1
        have x2 := (hcell ⟨w.heap.size, 2, none⟩ (by show w.heap.size < _; omega) (by show w.heap.size ≤ w.heap.size; omega)).trans a2
        have y0 := (hcell ⟨w.heap.size + 1, 0, none⟩ (by show w.heap.size + 1 < _; omega) (by show w.heap.size ≤ w.heap.size + 1; omega)).trans t0
        have y1 := (hcell ⟨w.heap.size + 1, 1, none⟩ (by show w.heap.size + 1 < _; omega) (by show w.heap.size ≤ w.heap.size + 1; omega)).trans t1
        have y2 := (hcell ⟨w.heap.size + 1, 2, none⟩ (by show w.heap.size + 1 < _; omega) (by show w.heap.size ≤ w.heap.size + 1; omega)).trans t2
        have hzr := Hcj.out.size
        clear hcell a0 a1 a2 t0 t1 t2
        have CO := HCO.out j hlt wr
        have Hgj := HGood.out j
        have HFj := Lib.hid (fun h1 h2 => HF.out j hlt h1 Hz.out h2)
        have HSk := Lib.hid (fun hd => rbTo_skip (lv := lv) (G := G) (dd := k) (N := N) (r := j) Hz.out hd)
        have HGo := Lib.hid (fun hd => rbTo_goes (lv := lv) (G := G) (dd := k) (N := N) (r := j) Hz.out hd)
        have HSt := Lib.hid (fun hs => rbTo_stop (lv := lv) (G := G) (dd := k) (N := N) (r := j + 1) hs 16 (by omega))
        have hpj : ∀ i, i < (rbTo lv G k N j).2.n → ((rbTo lv G k N j).2.D i).ps.length ≤ 1999990 := fun i hi => Nat.le_trans (rbTo_pend i j) (by rw [Hnn.out] at hi; have := Hps.out i hi; omega)
        have hdj : (rbTo lv G k N j).2.done ≤ 1999990 := Nat.le_trans (rbTo_done j) (by have := Hdn.out; omega)
        have HPj := Lib.hid hpj
        have HDj := Lib.hid hdj
        clear hpj hdj
        generalize G.L j = gl at CO Hgj HFj HGo
        generalize G.C j = gc at CO Hgj HFj HGo
        obtain ⟨gd, hgd⟩ : ∃ gd : Nat, G.D j = (gd : Int) := ⟨(G.D j).toNat, by have := gOk_bd Hgj; omega⟩
        rw [hgd] at CO Hgj HFj HSk HGo
        clear hgd
        have hgd8 := gOk_bd Hgj
        have Hgr := Lib.hid (gr_mk Hgj (show (0 : Int) ≤ (j : Int) by omega) i1)
        replace CO := Lib.hid CO
        clear Hgj
        have i0 : (0 : Int) ≤ (k : Int) := by omega
        go_wp2_with fail
        (with_reducible refine CO.out.mono ?_); rintro e w5 ⟨rfl, hb5⟩
        have hbw := hb5.trans ((below1 w5 (.cells #[.int .i64 gl, .int .i64 (gd : Int), .int .i64 gc] 25)).mono hb5.size)
        have FB := Lib.hid hbw
        have hbj := BC.same Haj.out hbw
        rw [Hnn.out] at hbj
        have HBj := Lib.hid (hbj.seq Hcj.out Hnj.out)
        have hpw := Haj.out.grow hbw
        have hvw : RdOX (BF b Hj (rbTo lv G k N j).2.n) (w5.alloc (.cells #[.int .i64 gl, .int .i64 (gd : Int), .int .i64 gc] 25)) A lv := by
          rw [Hnn.out]
          exact ((Hv.out.below F.out).chg Hcj.out (bnew_weak Hnj.out)).below hbw
        clear hbw hbj x0 x1 x2 y0 y1 y2 hb5 CO
        by_cases hq : (gd : Int) ≤ (k : Int)
        · have HS := Lib.hid (HSk.out hq)
          clear HSk HGo HSt hpw hvw
          go_wp2_with fail
          go_roundw
          case rel => exact ⟨j + 1, by omega, by go_num, by rw [HS.out]; exact Hz.out, by rw [HS.out]; exact HBj.out⟩
          case measure => simp [intOf]; omega
        · have HG := Lib.hid (HGo.out (by omega))
          have CRn := Lib.hid (renew_any hpw lv A lv.length cp rfl hvw Hgr.out (show k < gd by omega) (fun he => HFj.out (by omega) he) HPj.out HDj.out)
          have HX : Hid (∀ V Nx, BC W (w5.alloc (.cells #[.int .i64 gl, .int .i64 (gd : Int), .int .i64 gc] 25)) V b Hj (rbTo lv G k N j).2.n Nx → BC W w2 V b H N.n Nx) := Lib.hid fun V Nx hb => by
            have h' := BC.below FB.out hb
            rw [Hnn.out] at h'
            exact h'.seq Hcj.out Hnj.out
          clear HSk HGo hpw hvw HFj Hgr
          generalize renS (rbTo lv G k N j).2 lv gl (gd : Int) gc j k = q at CRn HG
          obtain ⟨E, Nx⟩ := q
          by_cases h0 : E = 0
          · rw [h0] at CRn HG
            clear h0 HSt
            go_wp2_with fail
            (with_reducible refine CRn.out.mono ?_); rintro e w3 ⟨rfl, ht⟩
            have Ht := Lib.hid (HX.out _ _ ht)
            clear ht
            go_wp2_with fail
            go_roundw
            case rel => exact ⟨j + 1, by omega, by go_num, by rw [HG.out], by rw [HG.out]; exact Ht.out⟩
            case measure => simp [intOf]; omega
          · have n0' : (E != 0) = true := by rw [bne_iff_ne]; exact h0
            have HS := Lib.hid (HSt.out (by rw [HG.out]; exact h0))
            have HN := Lib.hid h0
            clear h0 HSt
            go_wp2_with fail
            (with_reducible refine CRn.out.mono ?_); rintro e w3 ⟨rfl, ht⟩
            have Ht := Lib.hid (HX.out _ _ ht)
            clear ht
            go_wp2_with fail
            go_ret
            exact ⟨by rw [HE.out, HS.out, HG.out, if_pos HN.out]; rfl, by rw [HE.out, HS.out, HG.out, if_pos HN.out]; exact BC.below F.out Ht.out⟩
      · obtain rfl : j = 16 := by omega
        have CFl := Lib.hid (bp_flush W wr b Hj _ Haj.out (k : Int) ⟨by omega, by omega⟩)
        go_wp2_with fail
        (with_reducible refine CFl.out.mono ?_); rintro e w3 ⟨rfl, ht⟩
        have Ht := Lib.hid ht
        clear ht CFl
        go_wp2_with fail
        go_ret
        refine ⟨by rw [HE.out, if_neg (by rw [Hz.out]; simp)]; rfl, ?_⟩
        rw [HE.out, if_neg (by rw [Hz.out]; simp)]
        refine BC.below F.out ?_
        have := Ht.out
        rw [Hnn.out] at this
        exact this.seq Hcj.out Hnj.out
end Go.Proofs.Ytadmofpipfdedaa
end
