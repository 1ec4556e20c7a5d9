/- Texts put together: ScrubAllLoops, ScrubAllLaw. -/
import Derived.Test.YtadmofpipfdedaaSabg
import Derived.Test.YtadmofpipfdedaaSabf
import Derived.Test.YtadmofpipfdedaaSabc
import Derived.Test.YtadmofpipfdedaaSaag
section
set_option linter.unusedVariables false
set_option linter.unusedSimpArgs false
namespace Go.Proofs.Ytadmofpipfdedaa
open Go.RowKit

noncomputable def codeSA : Code := Try.f9.body.getD .skip
/-- The rows that are turned, and those that are wanted. -/
def pT (tn r t : Nat) : Bool := if tn = 0 then decide (t < r) else if tn = 1 then decide (r ≤ t) else false
def wP (tn : Nat) (s : Int) (k D t : Nat) : Bool := decide (tn = 0) && (decide ((t : Int) < s) || decide (k < D))
theorem pT_step {tn r t : Nat} (h : tn < 2) : pT tn (r + 1) t = if t = r then !pT tn r t else pT tn r t := by
  unfold pT
  by_cases h0 : tn = 0
  · rw [if_pos h0, if_pos h0]
    by_cases e : t = r
    · subst e; rw [if_pos rfl, decide_eq_true (by omega), decide_eq_false (by omega)]; rfl
    · rw [if_neg e]; exact decide_eq_decide.2 (by omega)
  · rw [if_neg h0, if_neg h0, if_pos (show tn = 1 by omega), if_pos (show tn = 1 by omega)]
    by_cases e : t = r
    · subst e; rw [if_pos rfl, decide_eq_false (by omega), decide_eq_true (by omega)]; rfl
    · rw [if_neg e]; exact decide_eq_decide.2 (by omega)
theorem pT_next {tn t : Nat} (h : tn < 2) (ht : t < 16) : pT tn 16 t = pT (tn + 1) 0 t := by
  unfold pT
  by_cases h0 : tn = 0
  · subst h0; rw [if_pos rfl, if_neg (by omega), if_pos rfl, decide_eq_true ht, decide_eq_true (Nat.zero_le _)]
  · obtain rfl : tn = 1 := by omega
    rw [if_neg (by omega), if_pos rfl, if_neg (by omega), if_neg (by omega), decide_eq_false (by omega)]
set_option maxRecDepth 100000 in
set_option maxHeartbeats 3200000 in
theorem saBb {W0 : World} {b k D D2 ga tn : Nat} {l c s : Int} {cu q : UInt8} {N0 : Bch} {KK : List (Nat × Obj)} {xv : Value} {r : Nat} {H : BH} {M : Bch} {w : World} (u0 u1 u3 u6 u7 u8 u9 u10 u11 u12 u14 u16 u20 u21 u22 u23 u24 u25 u26 u27 u28 u29 u30 u31 u32 u33 u34 u35 u36 u37 u38 u39 u40 u41 u42 u43 u44 u45 u46 u47 u48 u49 u50 u51 u52 u53 u54 u55 u56 u57 u58 u59 u60 u61 u62 u63 u64 u65 u66 u67 u68 u69 u70 u71 u72 u73 u74 u75 u76 u77 u78 u79 u80 u81 u82 u83 u84 u85 u86 u87 u88 u89 u90 u91 u92 u93 u94 u95 u96 u97 u98 u99 u100 u101 u102 u103 u104 u105 u106 u107 u108 u109 u110 u111 u112 u113 u114 u115 u116 u117 u118 u119 : Value) (K : Act → World → Prop) (Q0 : Exit → Act → World → Prop) (hmem : (ga, Obj.cells #[.int .i64 l, .int .i64 (D : Int), .int .i64 c] 25 (0, 0)) ∈ KK) (hor : bits .or .u8 (cu.toNat : Int) 1 = ((q.toNat : Nat) : Int)) (htn : tn < 2) (hk2 : k < D2) (hD2 : D2 ≤ 8) (hD8 : D ≤ 8) (hs : 0 ≤ s ∧ s ≤ 16) (h32 : ∀ r, r < 16 → (secAt (N0.D k).now (36 + r)).length = 32) (hI : (r ≤ 16 ∧ KS W0 w b H M KK [] [] ∧ WI w b H M.n KK W0 xv (fltN (wP tn s k D) r) ∧ Tw N0 M D2 k q (pT tn r)))
    (hK : ∀ (v12 v20 v21 v52 v53 v54 v55 v56 v57 v58 v59 v60 v61 v62 v63 v64 v65 v66 v67 v68 v69 v70 v71 v72 v73 v74 v75 v76 v77 v78 v79 v80 v81 v82 v83 v84 v85 v86 v87 v88 v89 v90 v91 v92 v93 v94 v95 v96 v97 v98 v99 v100 v101 : Value) (xv2 : Value) (H2 : BH) (M2 : Bch) (V : World), ((r + 1) ≤ 16 ∧ KS W0 V b H2 M2 KK [] [] ∧ WI V b H2 M2.n KK W0 xv2 (fltN (wP tn s k D) (r + 1)) ∧ Tw N0 M2 D2 k q (pT tn (r + 1))) → 16 - (r + 1) < 16 - r → K ⟨List.toArray (u0 :: u1 :: (.int .i64 s) :: u3 :: (.int .i64 (k : Int)) :: (.int .u8 (cu.toNat : Int)) :: u6 :: u7 :: u8 :: u9 :: u10 :: u11 :: v12 :: (.pointer (some ⟨ga, 0, none⟩)) :: u14 :: (.pointer (some ⟨b, 0, none⟩)) :: u16 :: (.int .i64 ((tn : Nat) : Int)) :: xv2 :: (.int .i64 (((r + 1) : Nat) : Int)) :: v20 :: v21 :: u22 :: u23 :: u24 :: u25 :: u26 :: u27 :: u28 :: u29 :: u30 :: u31 :: u32 :: u33 :: u34 :: u35 :: u36 :: u37 :: u38 :: u39 :: u40 :: u41 :: u42 :: u43 :: u44 :: u45 :: u46 :: u47 :: u48 :: u49 :: u50 :: u51 :: v52 :: v53 :: v54 :: v55 :: v56 :: v57 :: v58 :: v59 :: v60 :: v61 :: v62 :: v63 :: v64 :: v65 :: v66 :: v67 :: v68 :: v69 :: v70 :: v71 :: v72 :: v73 :: v74 :: v75 :: v76 :: v77 :: v78 :: v79 :: v80 :: v81 :: v82 :: v83 :: v84 :: v85 :: v86 :: v87 :: v88 :: v89 :: v90 :: v91 :: v92 :: v93 :: v94 :: v95 :: v96 :: v97 :: v98 :: v99 :: v100 :: v101 :: u102 :: u103 :: u104 :: u105 :: u106 :: u107 :: u108 :: u109 :: u110 :: u111 :: u112 :: u113 :: u114 :: u115 :: u116 :: u117 :: u118 :: u119 :: []), []⟩ V)
    (hX : ∀ (v12 v20 v21 v52 v53 v54 v55 v56 v57 v58 v59 v60 v61 v62 v63 v64 v65 v66 v67 v68 v69 v70 v71 v72 v73 v74 v75 v76 v77 v78 v79 v80 v81 v82 v83 v84 v85 v86 v87 v88 v89 v90 v91 v92 v93 v94 v95 v96 v97 v98 v99 v100 v101 : Value), (r = 16) → Q0 (.exit 2) ⟨List.toArray (u0 :: u1 :: (.int .i64 s) :: u3 :: (.int .i64 (k : Int)) :: (.int .u8 (cu.toNat : Int)) :: u6 :: u7 :: u8 :: u9 :: u10 :: u11 :: v12 :: (.pointer (some ⟨ga, 0, none⟩)) :: u14 :: (.pointer (some ⟨b, 0, none⟩)) :: u16 :: (.int .i64 ((tn : Nat) : Int)) :: xv :: (.int .i64 ((r : Nat) : Int)) :: v20 :: v21 :: u22 :: u23 :: u24 :: u25 :: u26 :: u27 :: u28 :: u29 :: u30 :: u31 :: u32 :: u33 :: u34 :: u35 :: u36 :: u37 :: u38 :: u39 :: u40 :: u41 :: u42 :: u43 :: u44 :: u45 :: u46 :: u47 :: u48 :: u49 :: u50 :: u51 :: v52 :: v53 :: v54 :: v55 :: v56 :: v57 :: v58 :: v59 :: v60 :: v61 :: v62 :: v63 :: v64 :: v65 :: v66 :: v67 :: v68 :: v69 :: v70 :: v71 :: v72 :: v73 :: v74 :: v75 :: v76 :: v77 :: v78 :: v79 :: v80 :: v81 :: v82 :: v83 :: v84 :: v85 :: v86 :: v87 :: v88 :: v89 :: v90 :: v91 :: v92 :: v93 :: v94 :: v95 :: v96 :: v97 :: v98 :: v99 :: v100 :: v101 :: u102 :: u103 :: u104 :: u105 :: u106 :: u107 :: u108 :: u109 :: u110 :: u111 :: u112 :: u113 :: u114 :: u115 :: u116 :: u117 :: u118 :: u119 :: []), []⟩ w) :
    Code.wp Try.prog (sub [1, 1, 1, 1, 1, 1, 1, 0, 1, 0, 0, 1, 0, 0, 1, 0, 1, 0, 0] codeSA) (Exit.then K Q0) ⟨List.toArray (u0 :: u1 :: (.int .i64 s) :: u3 :: (.int .i64 (k : Int)) :: (.int .u8 (cu.toNat : Int)) :: u6 :: u7 :: u8 :: u9 :: u10 :: u11 :: u12 :: (.pointer (some ⟨ga, 0, none⟩)) :: u14 :: (.pointer (some ⟨b, 0, none⟩)) :: u16 :: (.int .i64 ((tn : Nat) : Int)) :: xv :: (.int .i64 ((r : Nat) : Int)) :: u20 :: u21 :: u22 :: u23 :: u24 :: u25 :: u26 :: u27 :: u28 :: u29 :: u30 :: u31 :: u32 :: u33 :: u34 :: u35 :: u36 :: u37 :: u38 :: u39 :: u40 :: u41 :: u42 :: u43 :: u44 :: u45 :: u46 :: u47 :: u48 :: u49 :: u50 :: u51 :: u52 :: u53 :: u54 :: u55 :: u56 :: u57 :: u58 :: u59 :: u60 :: u61 :: u62 :: u63 :: u64 :: u65 :: u66 :: u67 :: u68 :: u69 :: u70 :: u71 :: u72 :: u73 :: u74 :: u75 :: u76 :: u77 :: u78 :: u79 :: u80 :: u81 :: u82 :: u83 :: u84 :: u85 :: u86 :: u87 :: u88 :: u89 :: u90 :: u91 :: u92 :: u93 :: u94 :: u95 :: u96 :: u97 :: u98 :: u99 :: u100 :: u101 :: u102 :: u103 :: u104 :: u105 :: u106 :: u107 :: u108 :: u109 :: u110 :: u111 :: u112 :: u113 :: u114 :: u115 :: u116 :: u117 :: u118 :: u119 :: []), []⟩ w := by
  have HK := Lib.hid hK
  have HX := Lib.hid hX
  clear hK hX
  conv => arg 2; whnf
  obtain ⟨hr, hk, hw, ht⟩ := hI
  by_cases hlt : r < 16
  · have i0 : (0 : Int) ≤ (r : Int) := by omega
    have i1 : (r : Int) < 16 := by omega
    have j0 : (0 : Int) ≤ (k : Int) := by omega
    have hMn := ht.gd.n
    have hro := Bch.read_ok (N := M) (d := k) (k := 36 + r) (by omega) (by omega) (ht.gd.f k hk2) ht.gd.dn
    rw [show ((36 + r : Nat) : Int) = 36 + (r : Int) by omega] at hro
    have CR := bp_read W0 w b H M hk.bp (k : Int) (36 + (r : Int)) ⟨by omega, by omega⟩ ⟨by omega, by omega⟩
    rw [hro.1, hro.2] at CR
    replace CR := Lib.hid CR
    have hy32 : (secAt (M.D k).now (36 + r)).length = 32 := secAt_len (by rw [(ht.gd.ok k hk2).now]; omega)
    have Hst := Lib.hid (ht.step (r := r) (Q := pT tn (r + 1)) hk2 hlt (h32 r hlt) fun t _ => pT_step htn)
    have Hps := Lib.hid (show ∀ i, i < M.n → (M.D i).ps.length ≤ 2000000 from fun i hi => by rw [ht.gd.ps i (by omega)]; exact Nat.zero_le _)
    have Hfy := Lib.hid (fun h => fltN_yes (P := wP tn s k D) (k := r) h)
    have Hfn := Lib.hid (fun h => fltN_no (P := wP tn s k D) (k := r) h)
    have hwl := fltN_len (wP tn s k D) r
    have HW : Hid (wP tn s k D r = (decide (tn = 0) && (decide ((r : Int) < s) || decide (k < D)))) := rfl
    generalize wP tn s k D r = wp at Hfy Hfn HW
    have hw0 := hw
    generalize fltN (wP tn s k D) r = ks at hw Hfy Hfn hwl
    clear hw0
    generalize secAt (M.D k).now (36 + r) = y at CR hy32 Hst
    have HKs := Lib.hid hk
    have HWi := Lib.hid hw
    clear hk hw ht HX h32 hro
    go_wp2_with fail
    (with_reducible refine CR.out.mono ?_); rintro e w1 ⟨v, rfl, hy, hb1⟩
    obtain ⟨gx, cx, rfl, hgx, _, _, _, _⟩ := hy.pos (by omega)
    rw [hy32] at hy
    rw [hy32]
    obtain ⟨z7, f7⟩ := hy.cell hy32 r (by omega)
    have ex := xor_u8 (y.getD r 0) q
    obtain ⟨hput, _⟩ := hy.set hy32 r (y.getD r 0 ^^^ q)
    have htb : tb q r y = y.set r (y.getD r 0 ^^^ q) := rfl
    obtain ⟨zq, hzq⟩ : ∃ z, y.getD r 0 ^^^ q = z := ⟨_, rfl⟩
    rw [hzq] at ex hput htb
    have r32 : (r : Int) < 32 := by omega
    have hbs := hb1.setCell (p := ⟨gx, r, none⟩) hgx (.int .u8 (zq.toNat : Int))
    have k1 := HKs.out.below hbs
    have i1' := HWi.out.below hbs
    have CD := Lib.hid (ks_damage_wi k1 i1' (k : Int) (36 + (r : Int)) (y.set r zq) (some ⟨gx, 0, none⟩) 32 cx (by rw [List.length_set]; exact hy32.symm) ⟨by omega, by omega⟩ ⟨by omega, by omega⟩ hput.rdS.1 Hps.out)
    have hst := Hst.out
    rw [htb, show ((36 + r : Nat) : Int) = 36 + (r : Int) by omega] at hst
    have Hst2 := Lib.hid hst
    generalize y.set r zq = y2 at CD Hst2
    generalize y.getD r 0 = ya at z7 ex
    clear CR hy hb1 k1 i1' hbs hput HKs HWi Hps hgx hzq htb hst Hst
    go_wp2_with fail
    (with_reducible refine CD.out.mono ?_); rintro e w2 ⟨rfl, H2, k2, i2⟩
    have hst := Hst2.out
    generalize M.damage (k : Int) (36 + (r : Int)) y2 = N2 at k2 i2 hst
    have hk2s := k2
    obtain ⟨g1, g2, g3⟩ := k2.gat hmem
    have hwW := i2.ow.lt
    have hW2 := k2.bp.bel.size
    have K2 := Lib.hid k2
    have W2 := Lib.hid i2
    have T2 := Lib.hid hst
    clear CD k2 i2 hst hk2s Hst2 z7 f7 ex hMn hwW
    by_cases h0 : tn = 0
    · have e0 : ((tn : Int) == 0) = true := by rw [h0]; rfl
      by_cases h1 : (r : Int) < s
      · have hwp : wp = true := by rw [HW.out, decide_eq_true h0, decide_eq_true h1]; rfl
        clear HW h0
        have Hf := Lib.hid (Hfy.out hwp)
        clear Hfy Hfn hwp
        go_wp2_with (at_builtin; refine wpList_append_V rfl _ _ _ rfl W0.heap.size 3 (.int .i64 0) 8 Try.underlying22 info_int rfl _ ks.length (ks.map iv) rfl (World.ownsRow.kept W2.out.ow (grown_none (below1 w2 _)) (Classical.em _)) (w2.heap.size + 1) (some ⟨w2.heap.size, 0, none⟩) 1 1 [.int .i64 (r : Int)] rfl rfl (fun _ => ⟨w2.heap.size, 0, rfl, by omega, fun j hj => by obtain rfl : j = 0 := (by simp at hj; omega); exact cell_of_row _ _ _ _ _ _ (hp_new _ _ _ rfl)⟩) (fun u hu => by simp at hu; subst hu; rfl) (by unfold maxLen; omega) (by omega) (by simp; omega) ?_; intro v9 w9 hown9 hg9 hat9)
        obtain ⟨k9, i9⟩ := W2.out.push K2.out hown9 hg9 hat9
        have K9 := Lib.hid k9
        have I9 := Lib.hid (show WI w9 b H2 N2.n KK W0 v9 (fltN (wP tn s k D) (r + 1)) by rw [Hf.out]; exact i9)
        clear hown9 hg9 hat9 k9 i9 K2 W2
        go_wp2_with fail
        exact HK.out _ _ _ _ _ _ _ _ _ _ _ _ _ _ _ _ _ _ _ _ _ _ _ _ _ _ _ _ _ _ _ _ _ _ _ _ _ _ _ _ _ _ _ _ _ _ _ _ _ _ _ _ _ v9 H2 N2 _ ⟨by omega, K9.out, I9.out, T2.out⟩ (by omega)
      · by_cases h2 : k < D
        · have hwp : wp = true := by rw [HW.out, decide_eq_true h0, decide_eq_false h1, decide_eq_true h2]; rfl
          have h2' : (k : Int) < (D : Int) := by omega
          clear HW h0 h2
          have Hf := Lib.hid (Hfy.out hwp)
          clear Hfy Hfn hwp
          go_wp2_with (at_builtin; refine wpList_append_V rfl _ _ _ rfl W0.heap.size 3 (.int .i64 0) 8 Try.underlying22 info_int rfl _ ks.length (ks.map iv) rfl (World.ownsRow.kept W2.out.ow (grown_none (below1 w2 _)) (Classical.em _)) (w2.heap.size + 1) (some ⟨w2.heap.size, 0, none⟩) 1 1 [.int .i64 (r : Int)] rfl rfl (fun _ => ⟨w2.heap.size, 0, rfl, by omega, fun j hj => by obtain rfl : j = 0 := (by simp at hj; omega); exact cell_of_row _ _ _ _ _ _ (hp_new _ _ _ rfl)⟩) (fun u hu => by simp at hu; subst hu; rfl) (by unfold maxLen; omega) (by omega) (by simp; omega) ?_; intro v9 w9 hown9 hg9 hat9)
          obtain ⟨k9, i9⟩ := W2.out.push K2.out hown9 hg9 hat9
          have K9 := Lib.hid k9
          have I9 := Lib.hid (show WI w9 b H2 N2.n KK W0 v9 (fltN (wP tn s k D) (r + 1)) by rw [Hf.out]; exact i9)
          clear hown9 hg9 hat9 k9 i9 K2 W2
          go_wp2_with fail
          exact HK.out _ _ _ _ _ _ _ _ _ _ _ _ _ _ _ _ _ _ _ _ _ _ _ _ _ _ _ _ _ _ _ _ _ _ _ _ _ _ _ _ _ _ _ _ _ _ _ _ _ _ _ _ _ v9 H2 N2 _ ⟨by omega, K9.out, I9.out, T2.out⟩ (by omega)
        · have hwp : wp = false := by rw [HW.out, decide_eq_true h0, decide_eq_false h1, decide_eq_false h2]; rfl
          have h2' : ¬ (k : Int) < (D : Int) := by omega
          clear HW h0 h2
          have Hf := Lib.hid (Hfn.out hwp)
          clear Hfy Hfn hwp
          have I9 := Lib.hid (show WI w2 b H2 N2.n KK W0 xv (fltN (wP tn s k D) (r + 1)) by rw [Hf.out]; exact W2.out)
          clear W2
          go_wp2_with fail
          exact HK.out _ _ _ _ _ _ _ _ _ _ _ _ _ _ _ _ _ _ _ _ _ _ _ _ _ _ _ _ _ _ _ _ _ _ _ _ _ _ _ _ _ _ _ _ _ _ _ _ _ _ _ _ _ _ H2 N2 _ ⟨by omega, K2.out, I9.out, T2.out⟩ (by omega)
    · have e0 : ((tn : Int) == 0) = false := ibeq_no (by omega)
      have hwp : wp = false := by rw [HW.out, decide_eq_false h0]; rfl
      clear HW h0
      have Hf := Lib.hid (Hfn.out hwp)
      clear Hfy Hfn hwp
      have I9 := Lib.hid (show WI w2 b H2 N2.n KK W0 xv (fltN (wP tn s k D) (r + 1)) by rw [Hf.out]; exact W2.out)
      clear W2
      go_wp2_with fail
      exact HK.out _ _ _ _ _ _ _ _ _ _ _ _ _ _ _ _ _ _ _ _ _ _ _ _ _ _ _ _ _ _ _ _ _ _ _ _ _ _ _ _ _ _ _ _ _ _ _ _ _ _ _ _ _ _ H2 N2 _ ⟨by omega, K2.out, I9.out, T2.out⟩ (by omega)
  · have i1 : ¬ (r : Int) < 16 := by omega
    have Hin := Lib.hid (show r = 16 by omega)
    clear HK hk hw ht
    go_wp2_with fail
    exact HX.out _ _ _ _ _ _ _ _ _ _ _ _ _ _ _ _ _ _ _ _ _ _ _ _ _ _ _ _ _ _ _ _ _ _ _ _ _ _ _ _ _ _ _ _ _ _ _ _ _ _ _ _ _ Hin.out
set_option maxRecDepth 100000 in
set_option maxHeartbeats 3200000 in
theorem saB {W0 : World} {b k D D2 ga tn : Nat} {l c s : Int} {cu q : UInt8} {N0 : Bch} {KK : List (Nat × Obj)} {H0 : BH} {M0 : Bch} {w : World} (u0 u1 u3 u6 u7 u8 u9 u10 u11 u12 u14 u16 u20 u21 u22 u23 u24 u25 u26 u27 u28 u29 u30 u31 u32 u33 u34 u35 u36 u37 u38 u39 u40 u41 u42 u43 u44 u45 u46 u47 u48 u49 u50 u51 u52 u53 u54 u55 u56 u57 u58 u59 u60 u61 u62 u63 u64 u65 u66 u67 u68 u69 u70 u71 u72 u73 u74 u75 u76 u77 u78 u79 u80 u81 u82 u83 u84 u85 u86 u87 u88 u89 u90 u91 u92 u93 u94 u95 u96 u97 u98 u99 u100 u101 u102 u103 u104 u105 u106 u107 u108 u109 u110 u111 u112 u113 u114 u115 u116 u117 u118 u119 : Value) (Q : Exit → Act → World → Prop) (hmem : (ga, Obj.cells #[.int .i64 l, .int .i64 (D : Int), .int .i64 c] 25 (0, 0)) ∈ KK) (hor : bits .or .u8 (cu.toNat : Int) 1 = ((q.toNat : Nat) : Int)) (htn : tn < 2) (hk2 : k < D2) (hD2 : D2 ≤ 8) (hD8 : D ≤ 8) (hs : 0 ≤ s ∧ s ≤ 16) (h32 : ∀ r, r < 16 → (secAt (N0.D k).now (36 + r)).length = 32) (hI : (0 ≤ 16 ∧ KS W0 w b H0 M0 KK [] [] ∧ WI w b H0 M0.n KK W0 (.slice none 0 0) (fltN (wP tn s k D) 0) ∧ Tw N0 M0 D2 k q (pT tn 0)))
    (hX : ∀ (v12 v20 v21 v52 v53 v54 v55 v56 v57 v58 v59 v60 v61 v62 v63 v64 v65 v66 v67 v68 v69 v70 v71 v72 v73 v74 v75 v76 v77 v78 v79 v80 v81 v82 v83 v84 v85 v86 v87 v88 v89 v90 v91 v92 v93 v94 v95 v96 v97 v98 v99 v100 v101 : Value) (xv : Value) (r : Nat) (H : BH) (M : Bch) (V : World), (r ≤ 16 ∧ KS W0 V b H M KK [] [] ∧ WI V b H M.n KK W0 xv (fltN (wP tn s k D) r) ∧ Tw N0 M D2 k q (pT tn r)) → (r = 16) → Q (.exit 2) ⟨List.toArray (u0 :: u1 :: (.int .i64 s) :: u3 :: (.int .i64 (k : Int)) :: (.int .u8 (cu.toNat : Int)) :: u6 :: u7 :: u8 :: u9 :: u10 :: u11 :: v12 :: (.pointer (some ⟨ga, 0, none⟩)) :: u14 :: (.pointer (some ⟨b, 0, none⟩)) :: u16 :: (.int .i64 ((tn : Nat) : Int)) :: xv :: (.int .i64 ((r : Nat) : Int)) :: v20 :: v21 :: u22 :: u23 :: u24 :: u25 :: u26 :: u27 :: u28 :: u29 :: u30 :: u31 :: u32 :: u33 :: u34 :: u35 :: u36 :: u37 :: u38 :: u39 :: u40 :: u41 :: u42 :: u43 :: u44 :: u45 :: u46 :: u47 :: u48 :: u49 :: u50 :: u51 :: v52 :: v53 :: v54 :: v55 :: v56 :: v57 :: v58 :: v59 :: v60 :: v61 :: v62 :: v63 :: v64 :: v65 :: v66 :: v67 :: v68 :: v69 :: v70 :: v71 :: v72 :: v73 :: v74 :: v75 :: v76 :: v77 :: v78 :: v79 :: v80 :: v81 :: v82 :: v83 :: v84 :: v85 :: v86 :: v87 :: v88 :: v89 :: v90 :: v91 :: v92 :: v93 :: v94 :: v95 :: v96 :: v97 :: v98 :: v99 :: v100 :: v101 :: u102 :: u103 :: u104 :: u105 :: u106 :: u107 :: u108 :: u109 :: u110 :: u111 :: u112 :: u113 :: u114 :: u115 :: u116 :: u117 :: u118 :: u119 :: []), []⟩ V) :
    Code.wp Try.prog (.loop (sub [1, 1, 1, 1, 1, 1, 1, 0, 1, 0, 0, 1, 0, 0, 1, 0, 1, 0, 0] codeSA)) Q ⟨List.toArray (u0 :: u1 :: (.int .i64 s) :: u3 :: (.int .i64 (k : Int)) :: (.int .u8 (cu.toNat : Int)) :: u6 :: u7 :: u8 :: u9 :: u10 :: u11 :: u12 :: (.pointer (some ⟨ga, 0, none⟩)) :: u14 :: (.pointer (some ⟨b, 0, none⟩)) :: u16 :: (.int .i64 ((tn : Nat) : Int)) :: (.slice none 0 0) :: (.int .i64 ((0 : Nat) : Int)) :: u20 :: u21 :: u22 :: u23 :: u24 :: u25 :: u26 :: u27 :: u28 :: u29 :: u30 :: u31 :: u32 :: u33 :: u34 :: u35 :: u36 :: u37 :: u38 :: u39 :: u40 :: u41 :: u42 :: u43 :: u44 :: u45 :: u46 :: u47 :: u48 :: u49 :: u50 :: u51 :: u52 :: u53 :: u54 :: u55 :: u56 :: u57 :: u58 :: u59 :: u60 :: u61 :: u62 :: u63 :: u64 :: u65 :: u66 :: u67 :: u68 :: u69 :: u70 :: u71 :: u72 :: u73 :: u74 :: u75 :: u76 :: u77 :: u78 :: u79 :: u80 :: u81 :: u82 :: u83 :: u84 :: u85 :: u86 :: u87 :: u88 :: u89 :: u90 :: u91 :: u92 :: u93 :: u94 :: u95 :: u96 :: u97 :: u98 :: u99 :: u100 :: u101 :: u102 :: u103 :: u104 :: u105 :: u106 :: u107 :: u108 :: u109 :: u110 :: u111 :: u112 :: u113 :: u114 :: u115 :: u116 :: u117 :: u118 :: u119 :: []), []⟩ w := by
  refine wp_loop_ghost (fun gk a V => ∀ C : Prop, (∀ (u12 u20 u21 u52 u53 u54 u55 u56 u57 u58 u59 u60 u61 u62 u63 u64 u65 u66 u67 u68 u69 u70 u71 u72 u73 u74 u75 u76 u77 u78 u79 u80 u81 u82 u83 u84 u85 u86 u87 u88 u89 u90 u91 u92 u93 u94 u95 u96 u97 u98 u99 u100 u101 : Value) (xv : Value) (r : Nat) (H : BH) (M : Bch), gk = 16 - r → (r ≤ 16 ∧ KS W0 V b H M KK [] [] ∧ WI V b H M.n KK W0 xv (fltN (wP tn s k D) r) ∧ Tw N0 M D2 k q (pT tn r)) → a = ⟨List.toArray (u0 :: u1 :: (.int .i64 s) :: u3 :: (.int .i64 (k : Int)) :: (.int .u8 (cu.toNat : Int)) :: u6 :: u7 :: u8 :: u9 :: u10 :: u11 :: u12 :: (.pointer (some ⟨ga, 0, none⟩)) :: u14 :: (.pointer (some ⟨b, 0, none⟩)) :: u16 :: (.int .i64 ((tn : Nat) : Int)) :: xv :: (.int .i64 ((r : Nat) : Int)) :: u20 :: u21 :: u22 :: u23 :: u24 :: u25 :: u26 :: u27 :: u28 :: u29 :: u30 :: u31 :: u32 :: u33 :: u34 :: u35 :: u36 :: u37 :: u38 :: u39 :: u40 :: u41 :: u42 :: u43 :: u44 :: u45 :: u46 :: u47 :: u48 :: u49 :: u50 :: u51 :: u52 :: u53 :: u54 :: u55 :: u56 :: u57 :: u58 :: u59 :: u60 :: u61 :: u62 :: u63 :: u64 :: u65 :: u66 :: u67 :: u68 :: u69 :: u70 :: u71 :: u72 :: u73 :: u74 :: u75 :: u76 :: u77 :: u78 :: u79 :: u80 :: u81 :: u82 :: u83 :: u84 :: u85 :: u86 :: u87 :: u88 :: u89 :: u90 :: u91 :: u92 :: u93 :: u94 :: u95 :: u96 :: u97 :: u98 :: u99 :: u100 :: u101 :: u102 :: u103 :: u104 :: u105 :: u106 :: u107 :: u108 :: u109 :: u110 :: u111 :: u112 :: u113 :: u114 :: u115 :: u116 :: u117 :: u118 :: u119 :: []), []⟩ → C) → C) (16 - 0) ?_ ?_
  · intro C hC
    exact hC _ _ _ _ _ _ _ _ _ _ _ _ _ _ _ _ _ _ _ _ _ _ _ _ _ _ _ _ _ _ _ _ _ _ _ _ _ _ _ _ _ _ _ _ _ _ _ _ _ _ _ _ _ ((.slice none 0 0)) (0) (H0) (M0) rfl hI rfl
  · intro gk a V hI'
    refine hI' _ ?_
    intro u12 u20 u21 u52 u53 u54 u55 u56 u57 u58 u59 u60 u61 u62 u63 u64 u65 u66 u67 u68 u69 u70 u71 u72 u73 u74 u75 u76 u77 u78 u79 u80 u81 u82 u83 u84 u85 u86 u87 u88 u89 u90 u91 u92 u93 u94 u95 u96 u97 u98 u99 u100 u101 xv r H M hk hinv ha
    subst ha
    subst hk
    refine saBb _ _ _ _ _ _ _ _ _ _ _ _ _ _ _ _ _ _ _ _ _ _ _ _ _ _ _ _ _ _ _ _ _ _ _ _ _ _ _ _ _ _ _ _ _ _ _ _ _ _ _ _ _ _ _ _ _ _ _ _ _ _ _ _ _ _ _ _ _ _ _ _ _ _ _ _ _ _ _ _ _ _ _ _ _ _ _ _ _ _ _ _ _ _ _ _ _ _ _ _ _ _ _ _ _ _ _ _ _ _ _ _ _ _ hmem hor htn hk2 hD2 hD8 hs h32 hinv (fun v12 v20 v21 v52 v53 v54 v55 v56 v57 v58 v59 v60 v61 v62 v63 v64 v65 v66 v67 v68 v69 v70 v71 v72 v73 v74 v75 v76 v77 v78 v79 v80 v81 v82 v83 v84 v85 v86 v87 v88 v89 v90 v91 v92 v93 v94 v95 v96 v97 v98 v99 v100 v101 xv2 H2 M2 V2 h2 hm => ?_) (fun v12 v20 v21 v52 v53 v54 v55 v56 v57 v58 v59 v60 v61 v62 v63 v64 v65 v66 v67 v68 v69 v70 v71 v72 v73 v74 v75 v76 v77 v78 v79 v80 v81 v82 v83 v84 v85 v86 v87 v88 v89 v90 v91 v92 v93 v94 v95 v96 v97 v98 v99 v100 v101 hx => hX v12 v20 v21 v52 v53 v54 v55 v56 v57 v58 v59 v60 v61 v62 v63 v64 v65 v66 v67 v68 v69 v70 v71 v72 v73 v74 v75 v76 v77 v78 v79 v80 v81 v82 v83 v84 v85 v86 v87 v88 v89 v90 v91 v92 v93 v94 v95 v96 v97 v98 v99 v100 v101 xv r H M V hinv hx)
    refine ⟨_, hm, fun C hC => ?_⟩
    exact hC v12 v20 v21 v52 v53 v54 v55 v56 v57 v58 v59 v60 v61 v62 v63 v64 v65 v66 v67 v68 v69 v70 v71 v72 v73 v74 v75 v76 v77 v78 v79 v80 v81 v82 v83 v84 v85 v86 v87 v88 v89 v90 v91 v92 v93 v94 v95 v96 v97 v98 v99 v100 v101 (xv2) ((r + 1)) (H2) (M2) rfl h2 rfl
theorem wP_told {G : RG} {l c l' c' s : Int} {D D' k tn r : Nat} (hGe : G = ⟨l, (D : Int), c, l', (D' : Int), c', s⟩) (hk : k < D') (ht : tn < 2) (hr : r < 16) : (pT tn 16 r && decide (k < (G.D r).toNat)) = wP tn s k D r := by
  subst hGe
  unfold wP pT RG.D rg
  dsimp only
  by_cases h0 : tn = 0
  · rw [if_pos h0, decide_eq_true h0, decide_eq_true hr, Bool.true_and, Bool.true_and]
    by_cases h1 : (r : Int) < s
    · rw [if_pos h1, decide_eq_true h1, decide_eq_true (by omega)]; rfl
    · rw [if_neg h1, decide_eq_false h1, Bool.false_or]; exact decide_eq_decide.2 (by omega)
  · rw [if_neg h0, decide_eq_false h0, if_pos (by omega), decide_eq_false (by omega)]; rfl
set_option maxRecDepth 100000 in
set_option maxHeartbeats 3200000 in
theorem saAb {W0 : World} {b k D D' ga gt gl : Nat} {l c l' c' s : Int} {cu q : UInt8} {N0 : Bch} {KK : List (Nat × Obj)} {G : RG} {zl : List Int} {tn : Nat} {H : BH} {M : Bch} {w : World} (u0 u1 u3 u6 u7 u8 u9 u10 u11 u12 u18 u19 u20 u21 u22 u23 u24 u25 u26 u27 u28 u29 u30 u31 u32 u33 u34 u35 u36 u37 u38 u39 u40 u41 u42 u43 u44 u45 u46 u47 u48 u49 u50 u51 u52 u53 u54 u55 u56 u57 u58 u59 u60 u61 u62 u63 u64 u65 u66 u67 u68 u69 u70 u71 u72 u73 u74 u75 u76 u77 u78 u79 u80 u81 u82 u83 u84 u85 u86 u87 u88 u89 u90 u91 u92 u93 u94 u95 u96 u97 u98 u99 u100 u101 u102 u103 u104 u105 u106 u107 u108 u109 u110 u111 u112 u113 u114 u115 u116 u117 u118 u119 : Value) (K : Act → World → Prop) (Q0 : Exit → Act → World → Prop) (hmem : (ga, Obj.cells #[.int .i64 l, .int .i64 (D : Int), .int .i64 c] 25 (0, 0)) ∈ KK) (hmt : (gt, Obj.cells #[.int .i64 l', .int .i64 (D' : Int), .int .i64 c'] 25 (0, 0)) ∈ KK) (hml : (gl, Obj.cells ((liveL 0 D').map Value.bool).toArray 4 (0, 0)) ∈ KK) (hor : bits .or .u8 (cu.toNat : Int) 1 = ((q.toNat : Nat) : Int)) (hq : q ≠ 0) (hk2 : k < D') (hD2 : 3 ≤ D' ∧ D' ≤ 8) (hD8 : D ≤ D') (hs : 0 ≤ s ∧ s ≤ 16) (hGe : G = ⟨l, (D : Int), c, l', (D' : Int), c', s⟩) (hG : G.ok = true) (h64 : RG64 G) (hle : ∀ t, t < 16 → G.D t ≤ (D' : Int)) (hf : Fb N0 D' (rowG G zl) 16 0) (h32 : ∀ r, r < 16 → (secAt (N0.D k).now (36 + r)).length = 32) (hI : (tn ≤ 2 ∧ KS W0 w b H M KK [] [] ∧ Tw N0 M D' k q (pT tn 0)))
    (hK : ∀ (v12 v18 v19 v20 v21 v22 v23 v48 v49 v50 v51 v52 v53 v54 v55 v56 v57 v58 v59 v60 v61 v62 v63 v64 v65 v66 v67 v68 v69 v70 v71 v72 v73 v74 v75 v76 v77 v78 v79 v80 v81 v82 v83 v84 v85 v86 v87 v88 v89 v90 v91 v92 v93 v94 v95 v96 v97 v98 v99 v100 v101 v102 v103 v104 v105 v106 v107 v108 v109 v110 v111 v112 v113 v114 v115 v116 v117 v118 : Value) (H2 : BH) (M2 : Bch) (V : World), ((tn + 1) ≤ 2 ∧ KS W0 V b H2 M2 KK [] [] ∧ Tw N0 M2 D' k q (pT (tn + 1) 0)) → 2 - (tn + 1) < 2 - tn → K ⟨List.toArray (u0 :: u1 :: (.int .i64 s) :: u3 :: (.int .i64 (k : Int)) :: (.int .u8 (cu.toNat : Int)) :: u6 :: u7 :: u8 :: u9 :: u10 :: u11 :: v12 :: (.pointer (some ⟨ga, 0, none⟩)) :: (.pointer (some ⟨gt, 0, none⟩)) :: (.pointer (some ⟨b, 0, none⟩)) :: (.slice (some ⟨gl, 0, none⟩) D' D') :: (.int .i64 (((tn + 1) : Nat) : Int)) :: v18 :: v19 :: v20 :: v21 :: v22 :: v23 :: u24 :: u25 :: u26 :: u27 :: u28 :: u29 :: u30 :: u31 :: u32 :: u33 :: u34 :: u35 :: u36 :: u37 :: u38 :: u39 :: u40 :: u41 :: u42 :: u43 :: u44 :: u45 :: u46 :: u47 :: v48 :: v49 :: v50 :: v51 :: v52 :: v53 :: v54 :: v55 :: v56 :: v57 :: v58 :: v59 :: v60 :: v61 :: v62 :: v63 :: v64 :: v65 :: v66 :: v67 :: v68 :: v69 :: v70 :: v71 :: v72 :: v73 :: v74 :: v75 :: v76 :: v77 :: v78 :: v79 :: v80 :: v81 :: v82 :: v83 :: v84 :: v85 :: v86 :: v87 :: v88 :: v89 :: v90 :: v91 :: v92 :: v93 :: v94 :: v95 :: v96 :: v97 :: v98 :: v99 :: v100 :: v101 :: v102 :: v103 :: v104 :: v105 :: v106 :: v107 :: v108 :: v109 :: v110 :: v111 :: v112 :: v113 :: v114 :: v115 :: v116 :: v117 :: v118 :: u119 :: []), []⟩ V)
    (hX : ∀ (v12 v18 v19 v20 v21 v22 v23 v48 v49 v50 v51 v52 v53 v54 v55 v56 v57 v58 v59 v60 v61 v62 v63 v64 v65 v66 v67 v68 v69 v70 v71 v72 v73 v74 v75 v76 v77 v78 v79 v80 v81 v82 v83 v84 v85 v86 v87 v88 v89 v90 v91 v92 v93 v94 v95 v96 v97 v98 v99 v100 v101 v102 v103 v104 v105 v106 v107 v108 v109 v110 v111 v112 v113 v114 v115 v116 v117 v118 : Value), (tn = 2) → Q0 (.exit 0) ⟨List.toArray (u0 :: u1 :: (.int .i64 s) :: u3 :: (.int .i64 (k : Int)) :: (.int .u8 (cu.toNat : Int)) :: u6 :: u7 :: u8 :: u9 :: u10 :: u11 :: v12 :: (.pointer (some ⟨ga, 0, none⟩)) :: (.pointer (some ⟨gt, 0, none⟩)) :: (.pointer (some ⟨b, 0, none⟩)) :: (.slice (some ⟨gl, 0, none⟩) D' D') :: (.int .i64 ((tn : Nat) : Int)) :: v18 :: v19 :: v20 :: v21 :: v22 :: v23 :: u24 :: u25 :: u26 :: u27 :: u28 :: u29 :: u30 :: u31 :: u32 :: u33 :: u34 :: u35 :: u36 :: u37 :: u38 :: u39 :: u40 :: u41 :: u42 :: u43 :: u44 :: u45 :: u46 :: u47 :: v48 :: v49 :: v50 :: v51 :: v52 :: v53 :: v54 :: v55 :: v56 :: v57 :: v58 :: v59 :: v60 :: v61 :: v62 :: v63 :: v64 :: v65 :: v66 :: v67 :: v68 :: v69 :: v70 :: v71 :: v72 :: v73 :: v74 :: v75 :: v76 :: v77 :: v78 :: v79 :: v80 :: v81 :: v82 :: v83 :: v84 :: v85 :: v86 :: v87 :: v88 :: v89 :: v90 :: v91 :: v92 :: v93 :: v94 :: v95 :: v96 :: v97 :: v98 :: v99 :: v100 :: v101 :: v102 :: v103 :: v104 :: v105 :: v106 :: v107 :: v108 :: v109 :: v110 :: v111 :: v112 :: v113 :: v114 :: v115 :: v116 :: v117 :: v118 :: u119 :: []), []⟩ w) :
    Code.wp Try.prog (sub [1, 1, 1, 1, 1, 1, 1, 0, 1, 0, 0] codeSA) (Exit.then K Q0) ⟨List.toArray (u0 :: u1 :: (.int .i64 s) :: u3 :: (.int .i64 (k : Int)) :: (.int .u8 (cu.toNat : Int)) :: u6 :: u7 :: u8 :: u9 :: u10 :: u11 :: u12 :: (.pointer (some ⟨ga, 0, none⟩)) :: (.pointer (some ⟨gt, 0, none⟩)) :: (.pointer (some ⟨b, 0, none⟩)) :: (.slice (some ⟨gl, 0, none⟩) D' D') :: (.int .i64 ((tn : Nat) : Int)) :: u18 :: u19 :: u20 :: u21 :: u22 :: u23 :: u24 :: u25 :: u26 :: u27 :: u28 :: u29 :: u30 :: u31 :: u32 :: u33 :: u34 :: u35 :: u36 :: u37 :: u38 :: u39 :: u40 :: u41 :: u42 :: u43 :: u44 :: u45 :: u46 :: u47 :: u48 :: u49 :: u50 :: u51 :: u52 :: u53 :: u54 :: u55 :: u56 :: u57 :: u58 :: u59 :: u60 :: u61 :: u62 :: u63 :: u64 :: u65 :: u66 :: u67 :: u68 :: u69 :: u70 :: u71 :: u72 :: u73 :: u74 :: u75 :: u76 :: u77 :: u78 :: u79 :: u80 :: u81 :: u82 :: u83 :: u84 :: u85 :: u86 :: u87 :: u88 :: u89 :: u90 :: u91 :: u92 :: u93 :: u94 :: u95 :: u96 :: u97 :: u98 :: u99 :: u100 :: u101 :: u102 :: u103 :: u104 :: u105 :: u106 :: u107 :: u108 :: u109 :: u110 :: u111 :: u112 :: u113 :: u114 :: u115 :: u116 :: u117 :: u118 :: u119 :: []), []⟩ w := by
  have HK := Lib.hid hK
  have HX := Lib.hid hX
  clear hK hX
  conv => arg 2; whnf
  obtain ⟨htn, hk, ht⟩ := hI
  by_cases hlt : tn < 2
  · have i0 : (0 : Int) ≤ (tn : Int) := by omega
    have i1 : (tn : Int) < 2 := by omega
    have HKs := Lib.hid hk
    have HT := Lib.hid ht
    have HGe := Lib.hid (show (((G.l = l ∧ G.d = (D : Int)) ∧ G.c = c) ∧ (G.l' = l' ∧ G.d' = (D' : Int)) ∧ G.c' = c') ∧ G.s = s from by rw [hGe]; exact ⟨⟨⟨⟨rfl, rfl⟩, rfl⟩, ⟨rfl, rfl⟩, rfl⟩, rfl⟩)
    have HwP := Lib.hid (fun (r : Nat) (hr : r < 16) => wP_told hGe hk2 hlt hr)
    have Hle := Lib.hid hle
    have HG := Lib.hid hG
    have H64 := Lib.hid h64
    have Hf := Lib.hid hf
    have hl0 : (liveL 0 D').length = D' := liveL_len _ _
    clear hk ht HX hGe hG h64 hle hf
    go_upto_block 2 with fail
    refine wp_block ?_
    refine saB _ _ _ _ _ _ _ _ _ _ _ _ _ _ _ _ _ _ _ _ _ _ _ _ _ _ _ _ _ _ _ _ _ _ _ _ _ _ _ _ _ _ _ _ _ _ _ _ _ _ _ _ _ _ _ _ _ _ _ _ _ _ _ _ _ _ _ _ _ _ _ _ _ _ _ _ _ _ _ _ _ _ _ _ _ _ _ _ _ _ _ _ _ _ _ _ _ _ _ _ _ _ _ _ _ _ _ _ _ _ _ _ _ hmem hor hlt hk2 hD2.2 (by omega) hs h32 ⟨Nat.zero_le _, HKs.out, WI.nil _ _ _ _ _ _, HT.out⟩ (fun v12 v20 v21 v52 v53 v54 v55 v56 v57 v58 v59 v60 v61 v62 v63 v64 v65 v66 v67 v68 v69 v70 v71 v72 v73 v74 v75 v76 v77 v78 v79 v80 v81 v82 v83 v84 v85 v86 v87 v88 v89 v90 v91 v92 v93 v94 v95 v96 v97 v98 v99 v100 v101 xv r H2 M2 V2 hI2 hx2 => ?_)
    obtain ⟨_, k2, i2, t2⟩ := hI2
    rw [hx2] at i2 t2
    clear hx2 HKs HT h32
    have gd := t2.gd
    have hP : ∀ r, r < 16 → scB M2 (liveL 0 D') G r = wP tn s k D r := fun r hr => ((t2.spo Hf.out Hle.out HG.out hq hr).told HG.out (rows_dat G zl) hr fun i hi => srvD_mk (by rw [gd.n]; have := Hle.out r hr; omega) (live0 (by have := Hle.out r hr; omega)) (gd.f i (by have := Hle.out r hr; omega))).trans (HwP.out r hr)
    have CR := ks_scrub_is k2 (liveL 0 D') (some ⟨gl, 0, none⟩) D' D' hl0.symm (k2.lv (g := gl) (lv := liveL 0 D') (t := 4) (f := (0, 0)) hml rfl (by omega)) G H64.out HG.out gd.dn hP
    rw [HGe.out.1.1.1.1, HGe.out.1.1.1.2, HGe.out.1.1.2, HGe.out.1.2.1.1, HGe.out.1.2.1.2, HGe.out.1.2.2, HGe.out.2] at CR
    replace CR := Lib.hid CR
    have hfl := fltN_len (wP tn s k D) 16
    obtain ⟨Aw, cw, rfl, _⟩ := i2.ow.rdI (by omega)
    obtain ⟨g1, g2, g3⟩ := k2.gat hmem
    obtain ⟨g4, g5, g6⟩ := k2.gat hmt
    have I2 := Lib.hid i2
    have T3 := Lib.hid (t2.congr fun t ht => pT_next hlt ht)
    clear k2 i2 t2 gd hP HwP Hf
    generalize fltN (wP tn s k D) 16 = fl at CR hfl I2
    go_wp2_with fail
    (with_reducible refine CR.out.mono ?_); rintro e w5 ⟨A5, c5, rfl, hr5, k5, hb5⟩
    have hw5 := I2.out.below hb5
    obtain ⟨Aw', cw', ew, hrw⟩ := hw5.ow.rdI (by omega)
    injection ew with ew1 ew2 ew3
    subst ew1 ew3
    have CS := Lib.hid (sameInt_any A5 Aw fl fl fl.length fl.length c5 cw w5 rfl rfl hr5 hrw)
    rw [show decide (fl = fl) = true from decide_eq_true rfl] at CS
    have K5 := Lib.hid k5
    clear CR hr5 hrw k5 hb5 hw5 I2 g1 g2 g3 g4 g5 g6 ew2
    go_wp2_with fail
    (with_reducible refine CS.out.mono ?_); rintro e w6 ⟨rfl, hb6⟩
    have K6 := Lib.hid (K5.out.below hb6)
    clear CS hb6 K5
    go_wp2_with fail
    exact HK.out _ _ _ _ _ _ _ _ _ _ _ _ _ _ _ _ _ _ _ _ _ _ _ _ _ _ _ _ _ _ _ _ _ _ _ _ _ _ _ _ _ _ _ _ _ _ _ _ _ _ _ _ _ _ _ _ _ _ _ _ _ _ _ _ _ _ _ _ _ _ _ _ _ _ _ _ _ _ H2 M2 _ ⟨by omega, K6.out, T3.out⟩ (by omega)
  · have i1 : ¬ (tn : Int) < 2 := by omega
    have Hin := Lib.hid (show tn = 2 by omega)
    clear HK hk ht
    go_wp2_with fail
    exact HX.out _ _ _ _ _ _ _ _ _ _ _ _ _ _ _ _ _ _ _ _ _ _ _ _ _ _ _ _ _ _ _ _ _ _ _ _ _ _ _ _ _ _ _ _ _ _ _ _ _ _ _ _ _ _ _ _ _ _ _ _ _ _ _ _ _ _ _ _ _ _ _ _ _ _ _ _ _ _ Hin.out
set_option maxRecDepth 100000 in
set_option maxHeartbeats 3200000 in
theorem saA {W0 : World} {b k D D' ga gt gl : Nat} {l c l' c' s : Int} {cu q : UInt8} {N0 : Bch} {KK : List (Nat × Obj)} {G : RG} {zl : List Int} {H0 : BH} {M0 : Bch} {w : World} (u0 u1 u3 u6 u7 u8 u9 u10 u11 u12 u18 u19 u20 u21 u22 u23 u24 u25 u26 u27 u28 u29 u30 u31 u32 u33 u34 u35 u36 u37 u38 u39 u40 u41 u42 u43 u44 u45 u46 u47 u48 u49 u50 u51 u52 u53 u54 u55 u56 u57 u58 u59 u60 u61 u62 u63 u64 u65 u66 u67 u68 u69 u70 u71 u72 u73 u74 u75 u76 u77 u78 u79 u80 u81 u82 u83 u84 u85 u86 u87 u88 u89 u90 u91 u92 u93 u94 u95 u96 u97 u98 u99 u100 u101 u102 u103 u104 u105 u106 u107 u108 u109 u110 u111 u112 u113 u114 u115 u116 u117 u118 u119 : Value) (Q : Exit → Act → World → Prop) (hmem : (ga, Obj.cells #[.int .i64 l, .int .i64 (D : Int), .int .i64 c] 25 (0, 0)) ∈ KK) (hmt : (gt, Obj.cells #[.int .i64 l', .int .i64 (D' : Int), .int .i64 c'] 25 (0, 0)) ∈ KK) (hml : (gl, Obj.cells ((liveL 0 D').map Value.bool).toArray 4 (0, 0)) ∈ KK) (hor : bits .or .u8 (cu.toNat : Int) 1 = ((q.toNat : Nat) : Int)) (hq : q ≠ 0) (hk2 : k < D') (hD2 : 3 ≤ D' ∧ D' ≤ 8) (hD8 : D ≤ D') (hs : 0 ≤ s ∧ s ≤ 16) (hGe : G = ⟨l, (D : Int), c, l', (D' : Int), c', s⟩) (hG : G.ok = true) (h64 : RG64 G) (hle : ∀ t, t < 16 → G.D t ≤ (D' : Int)) (hf : Fb N0 D' (rowG G zl) 16 0) (h32 : ∀ r, r < 16 → (secAt (N0.D k).now (36 + r)).length = 32) (hI : (0 ≤ 2 ∧ KS W0 w b H0 M0 KK [] [] ∧ Tw N0 M0 D' k q (pT 0 0)))
    (hX : ∀ (v12 v18 v19 v20 v21 v22 v23 v48 v49 v50 v51 v52 v53 v54 v55 v56 v57 v58 v59 v60 v61 v62 v63 v64 v65 v66 v67 v68 v69 v70 v71 v72 v73 v74 v75 v76 v77 v78 v79 v80 v81 v82 v83 v84 v85 v86 v87 v88 v89 v90 v91 v92 v93 v94 v95 v96 v97 v98 v99 v100 v101 v102 v103 v104 v105 v106 v107 v108 v109 v110 v111 v112 v113 v114 v115 v116 v117 v118 : Value) (tn : Nat) (H : BH) (M : Bch) (V : World), (tn ≤ 2 ∧ KS W0 V b H M KK [] [] ∧ Tw N0 M D' k q (pT tn 0)) → (tn = 2) → Q (.exit 0) ⟨List.toArray (u0 :: u1 :: (.int .i64 s) :: u3 :: (.int .i64 (k : Int)) :: (.int .u8 (cu.toNat : Int)) :: u6 :: u7 :: u8 :: u9 :: u10 :: u11 :: v12 :: (.pointer (some ⟨ga, 0, none⟩)) :: (.pointer (some ⟨gt, 0, none⟩)) :: (.pointer (some ⟨b, 0, none⟩)) :: (.slice (some ⟨gl, 0, none⟩) D' D') :: (.int .i64 ((tn : Nat) : Int)) :: v18 :: v19 :: v20 :: v21 :: v22 :: v23 :: u24 :: u25 :: u26 :: u27 :: u28 :: u29 :: u30 :: u31 :: u32 :: u33 :: u34 :: u35 :: u36 :: u37 :: u38 :: u39 :: u40 :: u41 :: u42 :: u43 :: u44 :: u45 :: u46 :: u47 :: v48 :: v49 :: v50 :: v51 :: v52 :: v53 :: v54 :: v55 :: v56 :: v57 :: v58 :: v59 :: v60 :: v61 :: v62 :: v63 :: v64 :: v65 :: v66 :: v67 :: v68 :: v69 :: v70 :: v71 :: v72 :: v73 :: v74 :: v75 :: v76 :: v77 :: v78 :: v79 :: v80 :: v81 :: v82 :: v83 :: v84 :: v85 :: v86 :: v87 :: v88 :: v89 :: v90 :: v91 :: v92 :: v93 :: v94 :: v95 :: v96 :: v97 :: v98 :: v99 :: v100 :: v101 :: v102 :: v103 :: v104 :: v105 :: v106 :: v107 :: v108 :: v109 :: v110 :: v111 :: v112 :: v113 :: v114 :: v115 :: v116 :: v117 :: v118 :: u119 :: []), []⟩ V) :
    Code.wp Try.prog (.loop (sub [1, 1, 1, 1, 1, 1, 1, 0, 1, 0, 0] codeSA)) Q ⟨List.toArray (u0 :: u1 :: (.int .i64 s) :: u3 :: (.int .i64 (k : Int)) :: (.int .u8 (cu.toNat : Int)) :: u6 :: u7 :: u8 :: u9 :: u10 :: u11 :: u12 :: (.pointer (some ⟨ga, 0, none⟩)) :: (.pointer (some ⟨gt, 0, none⟩)) :: (.pointer (some ⟨b, 0, none⟩)) :: (.slice (some ⟨gl, 0, none⟩) D' D') :: (.int .i64 ((0 : Nat) : Int)) :: u18 :: u19 :: u20 :: u21 :: u22 :: u23 :: u24 :: u25 :: u26 :: u27 :: u28 :: u29 :: u30 :: u31 :: u32 :: u33 :: u34 :: u35 :: u36 :: u37 :: u38 :: u39 :: u40 :: u41 :: u42 :: u43 :: u44 :: u45 :: u46 :: u47 :: u48 :: u49 :: u50 :: u51 :: u52 :: u53 :: u54 :: u55 :: u56 :: u57 :: u58 :: u59 :: u60 :: u61 :: u62 :: u63 :: u64 :: u65 :: u66 :: u67 :: u68 :: u69 :: u70 :: u71 :: u72 :: u73 :: u74 :: u75 :: u76 :: u77 :: u78 :: u79 :: u80 :: u81 :: u82 :: u83 :: u84 :: u85 :: u86 :: u87 :: u88 :: u89 :: u90 :: u91 :: u92 :: u93 :: u94 :: u95 :: u96 :: u97 :: u98 :: u99 :: u100 :: u101 :: u102 :: u103 :: u104 :: u105 :: u106 :: u107 :: u108 :: u109 :: u110 :: u111 :: u112 :: u113 :: u114 :: u115 :: u116 :: u117 :: u118 :: u119 :: []), []⟩ w := by
  refine wp_loop_ghost (fun gk a V => ∀ C : Prop, (∀ (u12 u18 u19 u20 u21 u22 u23 u48 u49 u50 u51 u52 u53 u54 u55 u56 u57 u58 u59 u60 u61 u62 u63 u64 u65 u66 u67 u68 u69 u70 u71 u72 u73 u74 u75 u76 u77 u78 u79 u80 u81 u82 u83 u84 u85 u86 u87 u88 u89 u90 u91 u92 u93 u94 u95 u96 u97 u98 u99 u100 u101 u102 u103 u104 u105 u106 u107 u108 u109 u110 u111 u112 u113 u114 u115 u116 u117 u118 : Value) (tn : Nat) (H : BH) (M : Bch), gk = 2 - tn → (tn ≤ 2 ∧ KS W0 V b H M KK [] [] ∧ Tw N0 M D' k q (pT tn 0)) → a = ⟨List.toArray (u0 :: u1 :: (.int .i64 s) :: u3 :: (.int .i64 (k : Int)) :: (.int .u8 (cu.toNat : Int)) :: u6 :: u7 :: u8 :: u9 :: u10 :: u11 :: u12 :: (.pointer (some ⟨ga, 0, none⟩)) :: (.pointer (some ⟨gt, 0, none⟩)) :: (.pointer (some ⟨b, 0, none⟩)) :: (.slice (some ⟨gl, 0, none⟩) D' D') :: (.int .i64 ((tn : Nat) : Int)) :: u18 :: u19 :: u20 :: u21 :: u22 :: u23 :: u24 :: u25 :: u26 :: u27 :: u28 :: u29 :: u30 :: u31 :: u32 :: u33 :: u34 :: u35 :: u36 :: u37 :: u38 :: u39 :: u40 :: u41 :: u42 :: u43 :: u44 :: u45 :: u46 :: u47 :: u48 :: u49 :: u50 :: u51 :: u52 :: u53 :: u54 :: u55 :: u56 :: u57 :: u58 :: u59 :: u60 :: u61 :: u62 :: u63 :: u64 :: u65 :: u66 :: u67 :: u68 :: u69 :: u70 :: u71 :: u72 :: u73 :: u74 :: u75 :: u76 :: u77 :: u78 :: u79 :: u80 :: u81 :: u82 :: u83 :: u84 :: u85 :: u86 :: u87 :: u88 :: u89 :: u90 :: u91 :: u92 :: u93 :: u94 :: u95 :: u96 :: u97 :: u98 :: u99 :: u100 :: u101 :: u102 :: u103 :: u104 :: u105 :: u106 :: u107 :: u108 :: u109 :: u110 :: u111 :: u112 :: u113 :: u114 :: u115 :: u116 :: u117 :: u118 :: u119 :: []), []⟩ → C) → C) (2 - 0) ?_ ?_
  · intro C hC
    exact hC _ _ _ _ _ _ _ _ _ _ _ _ _ _ _ _ _ _ _ _ _ _ _ _ _ _ _ _ _ _ _ _ _ _ _ _ _ _ _ _ _ _ _ _ _ _ _ _ _ _ _ _ _ _ _ _ _ _ _ _ _ _ _ _ _ _ _ _ _ _ _ _ _ _ _ _ _ _ (0) (H0) (M0) rfl hI rfl
  · intro gk a V hI'
    refine hI' _ ?_
    intro u12 u18 u19 u20 u21 u22 u23 u48 u49 u50 u51 u52 u53 u54 u55 u56 u57 u58 u59 u60 u61 u62 u63 u64 u65 u66 u67 u68 u69 u70 u71 u72 u73 u74 u75 u76 u77 u78 u79 u80 u81 u82 u83 u84 u85 u86 u87 u88 u89 u90 u91 u92 u93 u94 u95 u96 u97 u98 u99 u100 u101 u102 u103 u104 u105 u106 u107 u108 u109 u110 u111 u112 u113 u114 u115 u116 u117 u118 tn H M hk hinv ha
    subst ha
    subst hk
    refine saAb _ _ _ _ _ _ _ _ _ _ _ _ _ _ _ _ _ _ _ _ _ _ _ _ _ _ _ _ _ _ _ _ _ _ _ _ _ _ _ _ _ _ _ _ _ _ _ _ _ _ _ _ _ _ _ _ _ _ _ _ _ _ _ _ _ _ _ _ _ _ _ _ _ _ _ _ _ _ _ _ _ _ _ _ _ _ _ _ _ _ _ _ _ _ _ _ _ _ _ _ _ _ _ _ _ _ _ _ _ _ _ _ _ _ hmem hmt hml hor hq hk2 hD2 hD8 hs hGe hG h64 hle hf h32 hinv (fun v12 v18 v19 v20 v21 v22 v23 v48 v49 v50 v51 v52 v53 v54 v55 v56 v57 v58 v59 v60 v61 v62 v63 v64 v65 v66 v67 v68 v69 v70 v71 v72 v73 v74 v75 v76 v77 v78 v79 v80 v81 v82 v83 v84 v85 v86 v87 v88 v89 v90 v91 v92 v93 v94 v95 v96 v97 v98 v99 v100 v101 v102 v103 v104 v105 v106 v107 v108 v109 v110 v111 v112 v113 v114 v115 v116 v117 v118 H2 M2 V2 h2 hm => ?_) (fun v12 v18 v19 v20 v21 v22 v23 v48 v49 v50 v51 v52 v53 v54 v55 v56 v57 v58 v59 v60 v61 v62 v63 v64 v65 v66 v67 v68 v69 v70 v71 v72 v73 v74 v75 v76 v77 v78 v79 v80 v81 v82 v83 v84 v85 v86 v87 v88 v89 v90 v91 v92 v93 v94 v95 v96 v97 v98 v99 v100 v101 v102 v103 v104 v105 v106 v107 v108 v109 v110 v111 v112 v113 v114 v115 v116 v117 v118 hx => hX v12 v18 v19 v20 v21 v22 v23 v48 v49 v50 v51 v52 v53 v54 v55 v56 v57 v58 v59 v60 v61 v62 v63 v64 v65 v66 v67 v68 v69 v70 v71 v72 v73 v74 v75 v76 v77 v78 v79 v80 v81 v82 v83 v84 v85 v86 v87 v88 v89 v90 v91 v92 v93 v94 v95 v96 v97 v98 v99 v100 v101 v102 v103 v104 v105 v106 v107 v108 v109 v110 v111 v112 v113 v114 v115 v116 v117 v118 tn H M V hinv hx)
    refine ⟨_, hm, fun C hC => ?_⟩
    exact hC v12 v18 v19 v20 v21 v22 v23 v48 v49 v50 v51 v52 v53 v54 v55 v56 v57 v58 v59 v60 v61 v62 v63 v64 v65 v66 v67 v68 v69 v70 v71 v72 v73 v74 v75 v76 v77 v78 v79 v80 v81 v82 v83 v84 v85 v86 v87 v88 v89 v90 v91 v92 v93 v94 v95 v96 v97 v98 v99 v100 v101 v102 v103 v104 v105 v106 v107 v108 v109 v110 v111 v112 v113 v114 v115 v116 v117 v118 ((tn + 1)) (H2) (M2) rfl h2 rfl
end Go.Proofs.Ytadmofpipfdedaa
end
section
set_option linter.unusedVariables false
set_option linter.unusedSimpArgs false
namespace Go.Proofs.Ytadmofpipfdedaa
open Go.RowKit

set_option maxRecDepth 100000 in
set_option maxHeartbeats 3200000 in
theorem scruball (m n split : Int) (A : Option Addr) (zl : List Int) (cl : Nat) (d : Int) (cu : UInt8) (w : World) (hm : (-9223372036854775808 ≤ m ∧ m ≤ 9223372036854775807)) (hn : (-9223372036854775808 ≤ n ∧ n ≤ 9223372036854775807)) (hsp : (-9223372036854775808 ≤ split ∧ split ≤ 9223372036854775807)) (hcl : zl.length ≤ cl) (hzl : RdZ w w.heap.size A zl) (hd : (-9223372036854775808 ≤ d ∧ d ≤ 9223372036854775807)) :
    Calls Try.prog 9 #[.int .i64 m, .int .i64 n, .int .i64 split, .slice A zl.length cl, .int .i64 d, .int .u8 (cu.toNat : Int)] w fun e w' => e = .returned (.bool true) ∧ Below w.heap.size w w' := by
  have hpn := ptr_eq
  have CP := Lib.hid (fun V => playPair_can m n V hm hn)
  have bs := withinI_bd split 17 (by omega)
  have CS := Lib.hid (fun V => within_any split 17 V hsp (by omega))
  generalize withinI split 17 = s at bs CS
  have hs16 : 0 ≤ s ∧ s ≤ 16 := by omega
  have Hz := Lib.hid hzl
  clear hzl bs
  go_enter Try.func9, Try.ntmps9
  go_wp2_with fail
  (with_reducible refine (CP.out _).mono ?_); rintro e w1 ⟨l, dd, c, l', d', c', rfl, hc, hb⟩
  obtain ⟨hg1, hg2, _, hdd, hll, _⟩ := gCan_parts hc
  have hb1 := gOk_bd hg1
  have hb2 := gOk_bd hg2
  obtain ⟨D, rfl⟩ := Int.eq_ofNat_of_zero_le (show 0 ≤ dd by omega)
  obtain ⟨D', rfl⟩ := Int.eq_ofNat_of_zero_le (show 0 ≤ d' by omega)
  have hDD : D ≤ D' := by omega
  have B2 := below2 w1 (.cells #[.int .i64 l, .int .i64 (D : Int), .int .i64 c] 25) (.cells #[.int .i64 l', .int .i64 (D' : Int), .int .i64 c'] 25)
  have hB12 := hb.trans (B2.mono hb.size)
  have HB := Lib.hid hB12
  have O1 := Lib.hid (show ((w1.alloc (.cells #[.int .i64 l, .int .i64 (D : Int), .int .i64 c] 25)).alloc (.cells #[.int .i64 l', .int .i64 (D' : Int), .int .i64 c'] 25)).heap[w1.heap.size]? = some (Obj.cells #[.int .i64 l, .int .i64 (D : Int), .int .i64 c] 25 (0, 0)) from (hp_old _ _ _ (by simp)).trans (hp_new _ _ _ rfl))
  have O2 := Lib.hid (show ((w1.alloc (.cells #[.int .i64 l, .int .i64 (D : Int), .int .i64 c] 25)).alloc (.cells #[.int .i64 l', .int .i64 (D' : Int), .int .i64 c'] 25)).heap[w1.heap.size + 1]? = some (Obj.cells #[.int .i64 l', .int .i64 (D' : Int), .int .i64 c'] 25 (0, 0)) from hp_new _ _ _ (by simp))
  have hw1 := hb.size
  obtain ⟨G, hGd⟩ : ∃ G : RG, G = ⟨l, (D : Int), c, l', (D' : Int), c', s⟩ := ⟨_, rfl⟩
  have hG : G.ok = true := by rw [hGd]; exact RG.ok_mk hg1 hs16.1 hs16.2 (.inr hg2)
  have h64 : RG64 G := by rw [hGd]; exact rg64_3 ⟨⟨by omega, by omega, by omega⟩, ⟨by omega, by omega, by omega⟩, by omega⟩
  have hle : ∀ t, t < 16 → G.D t ≤ (D' : Int) := fun t _ => by
    rw [hGd]; unfold RG.D rg; dsimp only; split <;> omega
  have CB := both_any G hG h64 D' hle (by omega) (by omega) A zl zl.length cl ((w1.alloc (.cells #[.int .i64 l, .int .i64 (D : Int), .int .i64 c] 25)).alloc (.cells #[.int .i64 l', .int .i64 (D' : Int), .int .i64 c'] 25)) rfl hcl ((Hz.out.below HB.out (Nat.le_refl _)).keep HB.out.size fun _ _ => rfl)
  have HGe := Lib.hid (show (((G.l = l ∧ G.d = (D : Int)) ∧ G.c = c) ∧ (G.l' = l' ∧ G.d' = (D' : Int)) ∧ G.c' = c') ∧ G.s = s from by rw [hGd]; exact ⟨⟨⟨⟨rfl, rfl⟩, rfl⟩, ⟨rfl, rfl⟩, rfl⟩, rfl⟩)
  rw [HGe.out.1.1.1.1, HGe.out.1.1.1.2, HGe.out.1.1.2, HGe.out.1.2.1.1, HGe.out.1.2.1.2, HGe.out.1.2.2, HGe.out.2] at CB
  have CB := Lib.hid CB
  have HG := Lib.hid hG
  have H64 := Lib.hid h64
  have Hle := Lib.hid hle
  clear CP hc B2 hb hB12 hGd hG h64 hle
  go_wp2_with fail
  (with_reducible refine (CS.out _).mono ?_); rintro e w2 ⟨rfl, h2⟩
  have hw2 := h2.symm
  subst hw2
  clear h2 CS
  go_wp2_with fail
  (with_reducible refine CB.out.mono ?_); rintro e w2 ⟨b, H, N, rfl, kb, fb⟩
  have k0 := kb.open2 HB.out O1.out O2.out hw1 (by omega)
  have K0 := Lib.hid k0
  have Fb0 := Lib.hid fb
  have hNn := fb.gd.n
  obtain ⟨g1, g2, g3⟩ := k0.gat (g := w1.heap.size) (l := l) (d := (D : Int)) (c := c) (t := 25) (f := (0, 0)) (by simp)
  obtain ⟨g4, g5, g6⟩ := k0.gat (g := w1.heap.size + 1) (l := l') (d := (D' : Int)) (c := c') (t := 25) (f := (0, 0)) (by simp)
  clear kb fb k0 CB HB O1 O2 hw1
  have CL := Lib.hid (ks_live K0.out 0 D' (by omega) (by omega))
  clear K0
  go_wp2_with fail
  (with_reducible refine CL.out.mono ?_); rintro e w3 ⟨gl, rfl, k1⟩
  have K1 := Lib.hid k1
  clear g1 g2 g3 g4 g5 g6
  clear CL
  obtain ⟨g1, g2, g3⟩ := k1.gat (g := w1.heap.size) (l := l) (d := (D : Int)) (c := c) (t := 25) (f := (0, 0)) (by simp)
  obtain ⟨g4, g5, g6⟩ := k1.gat (g := w1.heap.size + 1) (l := l') (d := (D' : Int)) (c := c') (t := 25) (f := (0, 0)) (by simp)
  clear k1
  have bd1 := withinI_bd d (D' : Int) (by omega)
  have CD := Lib.hid (fun V => within_any d (D' : Int) V hd (by omega))
  obtain ⟨k, hk1⟩ := Int.eq_ofNat_of_zero_le bd1.1
  rw [hk1] at CD bd1
  clear hk1
  have hkD : k < D' := by omega
  go_wp2_with fail
  (with_reducible refine (CD.out _).mono ?_); rintro e w4 ⟨rfl, h4⟩
  have hw4 := h4.symm
  subst hw4
  clear h4 CD
  have HN32 := Lib.hid (fun r (hr : r < 16) => (show (secAt (N.D k).now (36 + r)).length = 32 from secAt_len (by rw [(Fb0.out.gd.ok k hkD).now]; omega)))
  have HGd := Lib.hid (show G = ⟨l, (D : Int), c, l', (D' : Int), c', s⟩ from by
    have h := HGe.out
    rcases G with ⟨a1, a2, a3, a4, a5, a6, a7⟩
    dsimp only at h
    obtain ⟨⟨⟨⟨h1, h2⟩, h3⟩, ⟨h4, h5⟩, h6⟩, h7⟩ := h
    rw [h1, h2, h3, h4, h5, h6, h7])
  clear g1 g2 g3 g4 g5 g6
  go_upto_block 0 with fail
  refine wp_block ?_
  refine saA _ _ _ _ _ _ _ _ _ _ _ _ _ _ _ _ _ _ _ _ _ _ _ _ _ _ _ _ _ _ _ _ _ _ _ _ _ _ _ _ _ _ _ _ _ _ _ _ _ _ _ _ _ _ _ _ _ _ _ _ _ _ _ _ _ _ _ _ _ _ _ _ _ _ _ _ _ _ _ _ _ _ _ _ _ _ _ _ _ _ _ _ _ _ _ _ _ _ _ _ _ _ _ _ _ _ _ _ _ _ _ _ _ (l := l) (D := D) (c := c) (l' := l') (c' := c') (ga := w1.heap.size) (gt := w1.heap.size + 1) (q := cu ||| 1) (G := G) (zl := zl) (N0 := N) (by simp) (by simp) (by simp) (or_u8 cu 1) (or_one_ne cu) hkD (by omega) hDD hs16 HGd.out HG.out H64.out Hle.out Fb0.out HN32.out ⟨Nat.zero_le _, K1.out, Tw.start Fb0.out.gd fun t _ => (show pT 0 0 t = false from (if_pos rfl).trans (decide_eq_false (by omega)))⟩ (fun v12 v18 v19 v20 v21 v22 v23 v48 v49 v50 v51 v52 v53 v54 v55 v56 v57 v58 v59 v60 v61 v62 v63 v64 v65 v66 v67 v68 v69 v70 v71 v72 v73 v74 v75 v76 v77 v78 v79 v80 v81 v82 v83 v84 v85 v86 v87 v88 v89 v90 v91 v92 v93 v94 v95 v96 v97 v98 v99 v100 v101 v102 v103 v104 v105 v106 v107 v108 v109 v110 v111 v112 v113 v114 v115 v116 v117 v118 tn H2 M2 V2 hI hx => ?_)
  have HF := Lib.hid hI.2.1.bp.bel
  have CW := Lib.hid (scrWakes_any V2)
  clear hI
  go_wp2_with fail
  (with_reducible refine CW.out.mono ?_); rintro e w12 ⟨rfl, hb12⟩
  have F12 := HF.out.trans (hb12.mono HF.out.size)
  clear hb12
  go_wp2_with fail
  go_ret
  exact ⟨rfl, F12⟩
end Go.Proofs.Ytadmofpipfdedaa
end
