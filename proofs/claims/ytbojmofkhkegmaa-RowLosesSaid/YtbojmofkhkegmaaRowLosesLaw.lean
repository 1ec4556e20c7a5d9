/- RowLoses walked. -/
import Derived.Test.YtbojmofkhkegmaaRowLosesA
import Derived.Test.YtbojmofkhkegmaaRowLosesB
import Derived.Test.YtbojmofkhkegmaaRowLosesC
import Derived.Test.YtbojmofkhkegmaaRowLosesEnd
set_option linter.unusedVariables false
set_option linter.unusedSimpArgs false
namespace Go.Proofs.Ytbojmofkhkegmaa
open Go.RowKit

theorem sameRowsE {A A' : Option Addr} {ra : List (List UInt8)} {n n' c c' : Nat} {w : World} (hn : ra.length = n) (hn' : ra.length = n') (hr : RdR w w.heap.size A ra) (hr' : RdR w w.heap.size A' ra) :
    Calls Try.prog 11 #[.slice A n c, .slice A' n' c'] w fun e w' => e = .returned (.bool true) ∧ Below w.heap.size w w' :=
  (sameRows_any A A' ra ra n n' c c' w hn hn' hr hr').mono fun _ _ ⟨he, hb⟩ => ⟨by rw [he, decide_eq_true rfl], hb⟩
set_option maxRecDepth 100000 in
set_option maxHeartbeats 3200000 in
theorem rowloses (n r0 : Int) (A : Option Addr) (zs : List Int) (cz : Nat) (a0 b0 c0 : Int) (w : World) (hn : -9223372036854775808 ≤ n ∧ n ≤ 9223372036854775807) (hr0 : -9223372036854775808 ≤ r0 ∧ r0 ≤ 9223372036854775807) (hcz : zs.length ≤ cz) (hz : RdZ w w.heap.size A zs)
    (ha0 : -9223372036854775808 ≤ a0 ∧ a0 ≤ 9223372036854775807) (hb0 : -9223372036854775808 ≤ b0 ∧ b0 ≤ 9223372036854775807) (hc0 : -9223372036854775808 ≤ c0 ∧ c0 ≤ 9223372036854775807) :
    Calls Try.prog 6 #[.int .i64 n, .int .i64 r0, .slice A zs.length cz, .int .i64 a0, .int .i64 b0, .int .i64 c0] w fun e w' => e = .returned (.bool true) ∧ Below w.heap.size w w' := by
  have HP := Lib.hid (fun W => playGood_any n W hn)
  have CW1 := Lib.hid (fun W => within_any r0 16 W hr0 (by omega))
  have hrb := withinI_bd r0 16 (by omega)
  generalize withinI r0 16 = r at CW1 hrb
  obtain ⟨D, F, W, hD, gr⟩ := gr_of n hrb.1 hrb.2
  rw [hD] at HP
  clear hD
  have hd8 := gr.d8; have hd3 := gr.d3; have hw7 := gr.w7; have hw1 := gr.w1; have hlv := gr.lv; have hWD := gr.hW
  have CW2 := Lib.hid (fun V => within_any c0 (D : Int) V hc0 (by omega))
  have hib := withinI_bd c0 (D : Int) (by omega)
  obtain ⟨k, hk⟩ := Int.eq_ofNat_of_zero_le hib.1
  rw [hk] at CW2 hib
  have hkD : k < D := by omega
  have hdl := sectorsB_len zs W
  have hdm := @sectorsB_mem zs W
  have HSS := Lib.hid (fun V (h : RdZ V V.heap.size A zs) => sectors_rd (cp := cz) rfl h (show W ≤ 8 by omega))
  generalize sectorsB zs W = data at HSS hdl hdm
  have CF := Lib.hid (fun (A' : Option Addr) cp V (h : RdR V V.heap.size A' data) => gr.fill (cp := cp) h hdl hdm)
  have Hfl := Lib.hid (fun i (hi : i < D) => gr.fills hdl hdm hi)
  have Hok := Lib.hid (gr.fok hdl hdm)
  have Hrt := Lib.hid (row_right Hok.out)
  have HLo := Lib.hid (fun xs h1 h2 h3 => @lose_ok (goL n) (D : Int) (goC n) r data xs Hok.out h1 h2 h3)
  rw [gr.eD, gr.eF] at Hrt HLo
  have hfl := fillL_len D F data
  generalize fillL D F data = fl at CF Hfl Hrt HLo hfl
  have CR := Lib.hid (fun (g : Nat) (xs : List (List UInt8)) V (hx : xs.length = D) (h : RdR V V.heap.size (some ⟨g, 0, none⟩) xs) => gr.right (cp := D) h hx)
  have CT := Lib.hid (fun (g : Nat) (xs : List (List UInt8)) V (hx : xs.length = D) (h : RdR V V.heap.size (some ⟨g, 0, none⟩) xs) => gr.take (cp := D) h hx)
  have HMs := Lib.hid (fun xs i h1 h2 => @row_missing (goL n) (D : Int) (goC n) r xs i h1 h2)
  rw [gr.eD] at HMs
  have HEn := Lib.hid (fun xs h1 h2 => @lose_end n (goL n) (goC n) r D F W gr xs h1 h2)
  have HPar := Lib.hid (fun V => refParity_any (goL n) (D : Int) (goC n) r V gr.l64 gr.d64 gr.c64 gr.r64)
  rw [gr.R.pP, gr.R.pQ, gr.eD, gr.eF, gr.eW] at HPar
  obtain ⟨qv, hqv⟩ : ∃ qv, (if goL n = 6 then ((roS D F (W + 1) : Nat) : Int) else -1) = qv := ⟨_, rfl⟩
  rw [hqv] at HPar HEn
  have Hqv := Lib.hid (show (goL n = 5 ∧ qv = -1) ∨ (goL n = 6 ∧ qv = ((roS D F (W + 1) : Nat) : Int) ∧ roS D F (W + 1) < D) from by
    rcases hlv with ⟨h5, hD⟩ | ⟨h6, hD⟩
    · exact .inl ⟨h5, by rw [← hqv, if_neg (by omega)]⟩
    · exact .inr ⟨h6, by rw [← hqv, if_pos h6], roS_lt gr.hF (by omega)⟩)
  clear hqv
  have hPD := roS_lt gr.hF gr.hW
  have hWk := Lib.hid (fun V => wakesRow_any V)
  have hmm := @run_makeMap Try.prog
  generalize goL n = l at *
  generalize goC n = c at *
  obtain ⟨bud, hbud⟩ : ∃ bud : Nat, l - 4 = (bud : Int) := ⟨(l - 4).toNat, by omega⟩
  have hWb : (D : Int) - (bud : Int) = (W : Int) := by omega
  have hl56 : 5 ≤ l ∧ l ≤ 6 := by omega
  have hb2 : bud ≤ 2 := by omega
  have Hlv := Lib.hid hlv
  have Hz := Lib.hid hz
  clear gr hk hn hr0 hc0 hlv hz
  go_enter Try.func6, Try.ntmps6
  go_wp2_with fail
  (with_reducible refine (HP.out _).mono ?_); rintro e w1 ⟨rfl, hb1⟩
  have G := gat_new w1 l D c 23 (0, 0)
  have F1 := hb1.alloc hb1.size (.cells #[.int .i64 l, .int .i64 (D : Int), .int .i64 c] 23 (0, 0))
  have hgb0 : w1.heap.size < (w1.alloc (.cells #[.int .i64 l, .int .i64 (D : Int), .int .i64 c] 23 (0, 0))).heap.size := by simp
  clear hb1
  go_wp2_with fail
  (with_reducible refine (CW1.out _).mono ?_); rintro e w2 ⟨rfl, rfl⟩
  generalize w1.alloc (.cells #[.int .i64 l, .int .i64 (D : Int), .int .i64 c] 23 (0, 0)) = wg at G F1 hgb0 ⊢
  generalize w1.heap.size = gb at G hgb0 ⊢
  obtain ⟨g1, g2, g3⟩ := G
  have HG := Lib.hid (show GAt wg gb l D c from ⟨g1, g2, g3⟩)
  have hrz := (Hz.out.below F1 (Nat.le_refl _)).keep F1.size (fun _ _ => rfl)
  go_wp2_with fail
  (with_reducible refine (HSS.out _ hrz).mono ?_); rintro e w4 ⟨Ad, cd, rfl, hov, hrd, hb4⟩
  have F4 := F1.trans (hb4.mono F1.size)
  have hgb4 : gb < w4.heap.size := by have := hb4.size; omega
  have G4 := HG.out.below hb4 hgb0
  clear g1 g2 g3 hrz HG F1 hgb0 hov hb4
  obtain ⟨g1, g2, g3⟩ := G4
  have HG := Lib.hid (show GAt w4 gb l D c from ⟨g1, g2, g3⟩)
  have Hrd := Lib.hid hrd
  go_wp2_with fail
  (with_reducible refine (CF.out _ _ _ hrd).mono ?_); rintro e w5 ⟨g, vs, rfl, hq, hb5⟩
  clear g1 g2 g3 hrd CF
  have hg4 : w4.heap.size ≤ g := hq.glt.1
  obtain ⟨g1, g2, g3⟩ := HG.out.below hb5 hgb4
  have e1 : ((D : Int) != (D : Int)) = false := bne_self_eq_false _
  have CR1 := Lib.hid (CR.out g _ _ hfl (hq.rdr (by omega)))
  rw [Hrt.out] at CR1
  go_wp2_with fail
  (with_reducible refine CR1.out.mono ?_); rintro e w6 ⟨rfl, hb6⟩
  have B6 := hb5.trans (hb6.mono hb5.size)
  have hq6 := hq.below hb6
  clear g1 g2 g3 CR1 hq hb5 hb6
  have hg6 := hq6.glt.2
  have hs46 := B6.size
  have G6 := HG.out.below B6 hgb4
  have S0 := (setN_new w6).below (below1 (w6.alloc (.map #[] 0)) (.cells #[.int .i64 a0, .int .i64 b0] 3))
  have hc2 : ∀ q : Nat, q < 2 → ((w6.alloc (.map #[] 0)).alloc (.cells #[.int .i64 a0, .int .i64 b0] 3)).cell? ⟨w6.heap.size + 1, q, none⟩ = some (.int .i64 (kv a0 b0 q)) := fun q hq => by
    rw [cell_of_row _ _ _ _ _ _ (hp_new (w6.alloc (.map #[] 0)) (.cells #[.int .i64 a0, .int .i64 b0] 3) (w6.heap.size + 1) (by simp))]
    match q, hq with
    | 0, _ => rfl
    | 1, _ => rfl
  have hbm0 := (below1 w6 (.map #[] 0)).alloc (by simp) (.cells #[.int .i64 a0, .int .i64 b0] 3)
  have hgn : w6.heap.size + 1 < ((w6.alloc (.map #[] 0)).alloc (.cells #[.int .i64 a0, .int .i64 b0] 3)).heap.size := by simp
  go_upto_block 0 with fail
  clear hmm
  generalize (w6.alloc (.map #[] 0)).alloc (.cells #[.int .i64 a0, .int .i64 b0] 3) = w7 at S0 hc2 hbm0 hgn ⊢
  refine wp_block ?_
  refine rlA _ _ _ _ _ _ _ _ _ _ _ _ _ _ _ _ _ _ _ _ _ _ _ _ _ _ _ _ _ _ _ _ _ _ _ _ _ _ _ _ _ _ _ _ _ _ _ _ _ _ _ _ _ _ _ _ _ _ _ _ _ _ _ _ _ _ _ _ _ _ _ _ _ _ _ _ _ _ _ _ _ _ _ _ _ _ _ _ _ _ _ _ _ _ _ _ _ _ _ _ _ _ _ _ _ _ _ _ _ _ _ _ _ _ _ _ _ _ _ _ _ _ _ _ _ _ _ _ _ _ _ _ _ _ _ _ _ _ _ _ _ _ _ _ _ _ _ _ _ _ _ _ _ _ _ _ _ _ _ _ _ _ _ _ _ _ _ _ _ _ _ _ _ _ _ _ _ _ _ _ _ _ _ _ _ _ _ _ _ _ _ _ _ _ _ _ G6 (show gb < w6.heap.size by omega) hd8 hd3 hb2 ha0 hb0 (show w6.heap.size + 1 ≠ w6.heap.size by omega) ⟨Nat.zero_le _, S0, Nat.zero_le _, List.nodup_nil, fun z hz => by simp at hz, hc2, hbm0, hgn⟩ (fun v20 v71 v72 v73 v74 v75 v76 v77 v78 v79 v80 v81 v82 v83 xs j V1 hI _ => ?_)
  obtain ⟨hj2, hS, hlen, hnd, hin, _, hbm, _⟩ := hI
  have B1 := B6.trans (hbm.mono B6.size)
  have hq1 := hq6.below hbm
  have hs61 := hbm.size
  have hg1 := hq1.glt.2
  obtain ⟨MD, ho, hsz, hDD⟩ := hS
  clear S0 hc2 hbm0 hgn G6 B6 hq6 hbm
  go_upto_block 2 with (at_range; refine wpList_range_own _ rfl _ 43 rfl 3 4 keyI Try.underlying43 _ w6.heap.size j MD rfl ho ?_; intro V3 hrg0 hg0 hs0)
  have hb3 := (Below.refl V1.heap.size V1).grown hg0 (Nat.le_refl _) (fun j hj => by cases hj)
  have B3 := B1.trans (hb3.mono B1.size)
  have hq3 := hq1.below hb3
  have hvr : ∀ (q : Nat) (v : Value), vs[q]? = some v → v.ownBlock ≠ some V1.heap.size := fun q v hv e => by
    have := ((hq1.own q v hv).lt _ e).2
    omega
  refine wp_block ?_
  refine rlB _ _ _ _ _ _ _ _ _ _ _ _ _ _ _ _ _ _ _ _ _ _ _ _ _ _ _ _ _ _ _ _ _ _ _ _ _ _ _ _ _ _ _ _ _ _ _ _ _ _ _ _ _ _ _ _ _ _ _ _ _ _ _ _ _ _ _ _ _ _ _ _ _ _ _ _ _ _ _ _ _ _ _ _ _ _ _ _ _ _ _ _ _ _ _ _ _ _ _ _ _ _ _ _ _ _ _ _ _ _ _ _ _ _ _ _ _ _ _ _ _ _ _ _ _ _ _ _ _ _ _ _ _ _ _ _ _ _ _ _ _ _ _ _ _ _ _ _ _ _ _ _ _ _ _ _ _ _ _ _ _ _ _ _ _ _ _ _ _ _ _ _ _ _ _ _ _ _ _ _ _ _ _ _ _ _ _ _ _ _ _ _ _ _ _ _ _ _ _ _ (fun x => (hDD x).1) hin (show w6.heap.size ≠ g by omega) (show V1.heap.size ≠ g by omega) hg4 (show w4.heap.size ≤ V1.heap.size by omega) ⟨hrg0, fun kl h => h, hq3, hvr, goneL_start (fun z => (hDD z).1), B3⟩ (fun v21 v86 v87 v88 v89 v90 v91 v92 left cnt vs2 rs2 V4 hI hx => ?_)
  obtain ⟨hr4, _, hq4, _, hgl, B4⟩ := hI
  have hS4 : SetN V4 w6.heap.size j xs := ⟨MD, hr4.owns, hsz, hDD⟩
  have hrs := fun i hi => goneL_end hgl hx (i := i) hi
  have hcnt := cnt_gone hrs Hfl.out
  have hrsl : rs2.length = D := hq4.nn
  have HTk := Lib.hid (HLo.out rs2 hrsl (fun i hi => by
    rw [hrs i hi]
    split
    · exact .inl rfl
    · exact .inr rfl) (by omega))
  have Hms := Lib.hid (show 0 < xs.length → roRight l (D : Int) c r rs2 = false from fun h0 => by
    obtain ⟨z, hz⟩ := List.exists_mem_of_length_pos h0
    obtain ⟨z0, z1⟩ := hin z hz
    obtain ⟨i, rfl⟩ := Int.eq_ofNat_of_zero_le z0
    have hi : i < D := by omega
    exact HMs.out rs2 i hi (by rw [hrs i hi, if_pos hz]; rfl))
  have CT1 := Lib.hid (CT.out g rs2 V4 hrsl (hq4.rdr (by omega)))
  rw [HTk.out] at CT1
  have Hrs := Lib.hid hrs
  clear hr4 hgl hrg0 hg0 hs0 hb3 B3 hq3 hvr ho hsz hDD B1 hq1 hs61 hg1 HLo HMs hrs hcnt hx hnd HTk
  obtain ⟨g1, g2, g3⟩ := HG.out.below B4 hgb4
  go_wp2_with fail
  (with_reducible refine CT1.out.mono ?_); rintro e w8 hS8
  obtain ⟨g8, c8, rfl, ho8, hb8⟩ := hS8
  rw [hdl] at ho8 ⊢
  have B8 := B4.trans (hb8.mono B4.size)
  have hq8 := hq4.below hb8
  have hS8 := hS4.below hb8
  clear g1 g2 g3 CT1 hq4 hS4 B4 hb8
  go_upto_region 20 with fail
  go_cut [118] (fun s W => s = .bool false ∧ Below w8.heap.size w8 W)
  case first =>
    have CS1 := Lib.hid (sameRowsE (c := c8) (c' := cd) hdl hdl (ho8.rdr (by omega)) ((Hrd.out.below B8 (Nat.le_refl _)).more B8.size))
    by_cases hx0 : 0 < xs.length
    · have e2 : (0 : Int) < (xs.length : Int) := by omega
      have Hm := Lib.hid (Hms.out hx0)
      clear ho8
      go_wp2_with fail
      (with_reducible refine CS1.out.mono ?_); rintro e w9 ⟨rfl, hb9⟩
      have hlenM := (hS8.below hb9).len 3
      have B9 := B8.trans (hb9.mono B8.size)
      obtain ⟨g1, g2, g3⟩ := HG.out.below B9 hgb4
      have CR1 := Lib.hid (CR.out g rs2 w9 hrsl ((hq8.below hb9).rdr (by omega)))
      rw [Hm.out] at CR1
      clear CS1 hS8 B8 B9 hq8
      go_wp2_with fail
      (with_reducible refine CR1.out.mono ?_); rintro e w10 ⟨rfl, hb10⟩
      go_wp2_with fail
      go_meet
      exact ⟨rfl, hb9.trans (hb10.mono hb9.size)⟩
    · have e2 : ¬ (0 : Int) < (xs.length : Int) := by omega
      clear ho8
      go_wp2_with fail
      (with_reducible refine CS1.out.mono ?_); rintro e w9 ⟨rfl, hb9⟩
      have hlenM := (hS8.below hb9).len 3
      clear CS1 hS8 B8 hq8
      go_wp2_with fail
      go_meet
      exact ⟨rfl, hb9⟩
  case rest =>
    obtain ⟨rfl, hb10⟩ := hcut
    have B10 := B8.trans (hb10.mono B8.size)
    have hq10 := hq8.below hb10
    have hS10 := hS8.below hb10
    have F10 := F4.trans (B10.mono F4.size)
    have hlook := hS10.look (k : Int) (by omega)
    have hlenM := hS10.len 3
    clear hq8 hS8 B8 hb10 ho8 Hms hS10
    obtain ⟨g1, g2, g3⟩ := HG.out.below B10 hgb4
    by_cases hm : (k : Int) ∈ xs
    · rw [decide_eq_true hm] at hlook
      clear hm
      go_wp2_with fail
      (with_reducible refine (CW2.out _).mono ?_); rintro e w11 ⟨rfl, hw11⟩
      subst hw11
      go_wp2_with fail
      (with_reducible refine (hWk.out _).mono ?_); rintro e w12 ⟨rfl, hb12⟩
      go_wp2
      go_ret
      exact ⟨rfl, F10.trans (hb12.mono F10.size)⟩
    · rw [decide_eq_false hm] at hlook
      by_cases hlt : xs.length < bud
      · have e3 : (xs.length : Int) < (bud : Int) := by omega
        clear hm
        go_wp2_with fail
        (with_reducible refine (CW2.out _).mono ?_); rintro e w11 ⟨rfl, hw11⟩
        subst hw11
        go_wp2_with fail
        (with_reducible refine (hWk.out _).mono ?_); rintro e w12 ⟨rfl, hb12⟩
        go_wp2
        go_ret
        exact ⟨rfl, F10.trans (hb12.mono F10.size)⟩
      · have e3 : ¬ (xs.length : Int) < (bud : Int) := by omega
        have k0 : (0 : Int) ≤ (k : Int) := by omega
        have k1 : (k : Int) < (D : Int) := by omega
        obtain ⟨Ak, ck, _, zk, _⟩ := hq10.at k hkD
        have fk := hq10.fz k
        obtain ⟨hq11, hgr⟩ := hq10.gone k hkD
        have hgg := hq10.glt
        have B11 := B10.setCell (p := ⟨g, k, none⟩) (by show w4.heap.size ≤ g; omega) (.slice none 0 0)
        have hl3 : (rs2.set k []).length = D := by rw [List.length_set]; exact hrsl
        have hs3 : ∀ i, i < D → ((rs2.set k []).getD i []).length = 0 ∨ ((rs2.set k []).getD i []).length = 32 := fun i hi => by
          by_cases e : k = i
          · subst e; left; rw [getD_set_same (by omega)]; rfl
          · rw [getD_set_other e, Hrs.out i hi]
            split
            · exact .inl rfl
            · exact .inr (Hfl.out i hi)
        have HE := Lib.hid (HEn.out _ hl3 hs3)
        generalize rs2.set k [] = rs3 at hq11 hl3 hs3 HE
        have Hg11 := Lib.hid (HG.out.below B11 hgb4)
        have F11 := F4.trans (B11.mono F4.size)
        generalize roS D F W = p at hPD HPar HE
        generalize roS D F (W + 1) = j2 at Hqv HE
        clear hm hq10 B10 F10 hgr hs3 Hrs HEn hlt
        go_wp2_with fail
        (with_reducible refine (CW2.out _).mono ?_); rintro e w11 ⟨rfl, hw11⟩
        subst hw11
        clear g1 g2 g3
        obtain ⟨g1, g2, g3⟩ := Hg11.out
        go_wp2_with fail
        generalize w11.setCell ⟨g, k, none⟩ (.slice none 0 0) = w12 at hq11 B11 Hg11 F11 g1 g2 g3 ⊢
        (with_reducible refine (HPar.out _).mono ?_); rintro e w13 ⟨rfl, hb13⟩
        have hq13 := hq11.below hb13
        have B13 := B11.trans (hb13.mono B11.size)
        have F13 := F11.trans (hb13.mono F11.size)
        clear g1 g2 g3 hq11 B11 F11 Hg11 hb13 zk fk hlook hlenM
        obtain ⟨g1, g2, g3⟩ := HG.out.below B13 hgb4
        go_upto_block 4 with fail
        refine wp_block ?_
        refine rlC _ _ _ _ _ _ _ _ _ _ _ _ _ _ _ _ _ _ _ _ _ _ _ _ _ _ _ _ _ _ _ _ _ _ _ _ _ _ _ _ _ _ _ _ _ _ _ _ _ _ _ _ _ _ _ _ _ _ _ _ _ _ _ _ _ _ _ _ _ _ _ _ _ _ _ _ _ _ _ _ _ _ _ _ _ _ _ _ _ _ _ _ _ _ _ _ _ _ _ _ _ _ _ _ _ _ _ _ _ _ _ _ _ _ _ _ _ _ _ _ _ _ _ _ _ _ _ _ _ _ _ _ _ _ _ _ _ _ _ _ _ _ _ _ _ _ _ _ _ _ _ _ _ _ _ _ _ _ _ _ _ _ _ _ _ _ _ _ _ _ _ _ _ _ _ _ _ _ _ _ _ _ _ _ _ _ _ _ _ _ _ _ _ _ _ hq13 hd8 ⟨Nat.zero_le _, rfl, rfl⟩ (fun v27 v145 v146 v147 v148 v149 v150 v151 v152 v153 v154 v155 v156 v157 v158 v159 v160 v161 v162 v163 v164 v165 cn i V hI hx => ?_)
        obtain ⟨_, hcn, hV⟩ := hI
        subst hx
        subst hV
        rw [← hcn] at HE
        have CT2 := Lib.hid (CT.out g rs3 _ hl3 (hq13.rdr (by omega)))
        obtain ⟨Ap, cp1, _, zp, _⟩ := hq13.at p hPD
        have p0 : (0 : Int) ≤ (p : Int) := by omega
        have p1 : (p : Int) < (i : Int) := by omega
        have hcl : cn ≤ i := by rw [hcn]; exact cntB_le _ _
        clear hcn
        generalize (rs3.getD p []).length = lp at zp HE
        by_cases h1 : 0 < lp
        · have e4 : (0 : Int) < (lp : Int) := by omega
          rcases Hqv.out with ⟨h5, rfl⟩ | ⟨h6, rfl, hj2⟩
          · have ht : thereN l lp (rs3.getD j2 []).length = 1 := by unfold thereN; rw [if_pos h1, if_neg (by omega)]
            rw [ht] at HE
            clear ht h1 h5
            rcases ho : roTake l (i : Int) c r rs3 with _ | L
            · rw [ho] at CT2 HE
              have e6 : ¬ (cn : Int) ≤ 1 := by
                have h := HE.out
                simp only [Option.isSome_none] at h
                have := of_decide_eq_false h.symm
                omega
              have E7 := Lib.hid (decide_eq_false e6)
              clear HE ho hq13 Hqv
              go_wp2_with fail
              (with_reducible refine CT2.out.mono ?_); rintro e w15 hS15
              obtain ⟨rfl, hb15⟩ := hS15
              have F15 := F13.trans (hb15.mono F13.size)
              clear CT2
              go_wp2_with fail
              (with_reducible refine (hWk.out _).mono ?_); rintro e w16 ⟨rfl, hb16⟩
              go_wp2
              go_ret
              refine ⟨?_, F15.trans (hb16.mono F15.size)⟩
              first | rfl | (show Ending.returned (.bool (!decide ((cn : Int) ≤ 1))) = _; rw [E7.out]; rfl)
            · rw [ho] at CT2 HE
              have e6 : (cn : Int) ≤ 1 := by
                have h := HE.out
                simp only [Option.isSome_some] at h
                have := of_decide_eq_true h.symm
                omega
              clear HE ho hq13 Hqv
              go_wp2_with fail
              (with_reducible refine CT2.out.mono ?_); rintro e w15 hS15
              obtain ⟨g15, c15, rfl, _, hb15⟩ := hS15
              have F15 := F13.trans (hb15.mono F13.size)
              clear CT2
              go_wp2_with fail
              (with_reducible refine (hWk.out _).mono ?_); rintro e w16 ⟨rfl, hb16⟩
              go_wp2
              go_ret
              exact ⟨rfl, F15.trans (hb16.mono F15.size)⟩
          · obtain ⟨Aq, cq1, _, zq, _⟩ := hq13.at j2 hj2
            have q0 : (0 : Int) ≤ (j2 : Int) := by omega
            have q1 : (j2 : Int) < (i : Int) := by omega
            generalize (rs3.getD j2 []).length = lq at zq HE
            by_cases h2 : 0 < lq
            · have e5 : (0 : Int) < (lq : Int) := by omega
              have ht : thereN l lp lq = 2 := by unfold thereN; rw [if_pos h1, if_pos ⟨h6, h2⟩]
              rw [ht] at HE
              clear ht h1 h2 h6
              rcases ho : roTake l (i : Int) c r rs3 with _ | L
              · rw [ho] at CT2 HE
                have e6 : ¬ (cn : Int) ≤ 2 := by
                  have h := HE.out
                  simp only [Option.isSome_none] at h
                  have := of_decide_eq_false h.symm
                  omega
                have E7 := Lib.hid (decide_eq_false e6)
                clear HE ho hq13 Hqv
                go_wp2_with fail
                (with_reducible refine CT2.out.mono ?_); rintro e w15 hS15
                obtain ⟨rfl, hb15⟩ := hS15
                have F15 := F13.trans (hb15.mono F13.size)
                clear CT2
                go_wp2_with fail
                (with_reducible refine (hWk.out _).mono ?_); rintro e w16 ⟨rfl, hb16⟩
                go_wp2
                go_ret
                refine ⟨?_, F15.trans (hb16.mono F15.size)⟩
                first | rfl | (show Ending.returned (.bool (!decide ((cn : Int) ≤ 2))) = _; rw [E7.out]; rfl)
              · rw [ho] at CT2 HE
                have e6 : (cn : Int) ≤ 2 := by
                  have h := HE.out
                  simp only [Option.isSome_some] at h
                  have := of_decide_eq_true h.symm
                  omega
                clear HE ho hq13 Hqv
                go_wp2_with fail
                (with_reducible refine CT2.out.mono ?_); rintro e w15 hS15
                obtain ⟨g15, c15, rfl, _, hb15⟩ := hS15
                have F15 := F13.trans (hb15.mono F13.size)
                clear CT2
                go_wp2_with fail
                (with_reducible refine (hWk.out _).mono ?_); rintro e w16 ⟨rfl, hb16⟩
                go_wp2
                go_ret
                exact ⟨rfl, F15.trans (hb16.mono F15.size)⟩
            · have e5 : ¬ (0 : Int) < (lq : Int) := by omega
              have ht : thereN l lp lq = 1 := by unfold thereN; rw [if_pos h1, if_neg fun e => h2 e.2]
              rw [ht] at HE
              clear ht h1 h2 h6
              rcases ho : roTake l (i : Int) c r rs3 with _ | L
              · rw [ho] at CT2 HE
                have e6 : ¬ (cn : Int) ≤ 1 := by
                  have h := HE.out
                  simp only [Option.isSome_none] at h
                  have := of_decide_eq_false h.symm
                  omega
                have E7 := Lib.hid (decide_eq_false e6)
                clear HE ho hq13 Hqv
                go_wp2_with fail
                (with_reducible refine CT2.out.mono ?_); rintro e w15 hS15
                obtain ⟨rfl, hb15⟩ := hS15
                have F15 := F13.trans (hb15.mono F13.size)
                clear CT2
                go_wp2_with fail
                (with_reducible refine (hWk.out _).mono ?_); rintro e w16 ⟨rfl, hb16⟩
                go_wp2
                go_ret
                refine ⟨?_, F15.trans (hb16.mono F15.size)⟩
                first | rfl | (show Ending.returned (.bool (!decide ((cn : Int) ≤ 1))) = _; rw [E7.out]; rfl)
              · rw [ho] at CT2 HE
                have e6 : (cn : Int) ≤ 1 := by
                  have h := HE.out
                  simp only [Option.isSome_some] at h
                  have := of_decide_eq_true h.symm
                  omega
                clear HE ho hq13 Hqv
                go_wp2_with fail
                (with_reducible refine CT2.out.mono ?_); rintro e w15 hS15
                obtain ⟨g15, c15, rfl, _, hb15⟩ := hS15
                have F15 := F13.trans (hb15.mono F13.size)
                clear CT2
                go_wp2_with fail
                (with_reducible refine (hWk.out _).mono ?_); rintro e w16 ⟨rfl, hb16⟩
                go_wp2
                go_ret
                exact ⟨rfl, F15.trans (hb16.mono F15.size)⟩
        · have e4 : ¬ (0 : Int) < (lp : Int) := by omega
          rcases Hqv.out with ⟨h5, rfl⟩ | ⟨h6, rfl, hj2⟩
          · have ht : thereN l lp (rs3.getD j2 []).length = 0 := by unfold thereN; rw [if_neg h1, if_neg (by omega)]
            rw [ht] at HE
            clear ht h1 h5
            rcases ho : roTake l (i : Int) c r rs3 with _ | L
            · rw [ho] at CT2 HE
              have e6 : ¬ (cn : Int) ≤ 0 := by
                have h := HE.out
                simp only [Option.isSome_none] at h
                have := of_decide_eq_false h.symm
                omega
              have E7 := Lib.hid (decide_eq_false e6)
              clear HE ho hq13 Hqv
              go_wp2_with fail
              (with_reducible refine CT2.out.mono ?_); rintro e w15 hS15
              obtain ⟨rfl, hb15⟩ := hS15
              have F15 := F13.trans (hb15.mono F13.size)
              clear CT2
              go_wp2_with fail
              (with_reducible refine (hWk.out _).mono ?_); rintro e w16 ⟨rfl, hb16⟩
              go_wp2
              go_ret
              refine ⟨?_, F15.trans (hb16.mono F15.size)⟩
              first | rfl | (show Ending.returned (.bool (!decide ((cn : Int) ≤ 0))) = _; rw [E7.out]; rfl)
            · rw [ho] at CT2 HE
              have e6 : (cn : Int) ≤ 0 := by
                have h := HE.out
                simp only [Option.isSome_some] at h
                have := of_decide_eq_true h.symm
                omega
              clear HE ho hq13 Hqv
              go_wp2_with fail
              (with_reducible refine CT2.out.mono ?_); rintro e w15 hS15
              obtain ⟨g15, c15, rfl, _, hb15⟩ := hS15
              have F15 := F13.trans (hb15.mono F13.size)
              clear CT2
              go_wp2_with fail
              (with_reducible refine (hWk.out _).mono ?_); rintro e w16 ⟨rfl, hb16⟩
              go_wp2
              go_ret
              exact ⟨rfl, F15.trans (hb16.mono F15.size)⟩
          · obtain ⟨Aq, cq1, _, zq, _⟩ := hq13.at j2 hj2
            have q0 : (0 : Int) ≤ (j2 : Int) := by omega
            have q1 : (j2 : Int) < (i : Int) := by omega
            generalize (rs3.getD j2 []).length = lq at zq HE
            by_cases h2 : 0 < lq
            · have e5 : (0 : Int) < (lq : Int) := by omega
              have ht : thereN l lp lq = 1 := by unfold thereN; rw [if_neg h1, if_pos ⟨h6, h2⟩]
              rw [ht] at HE
              clear ht h1 h2 h6
              rcases ho : roTake l (i : Int) c r rs3 with _ | L
              · rw [ho] at CT2 HE
                have e6 : ¬ (cn : Int) ≤ 1 := by
                  have h := HE.out
                  simp only [Option.isSome_none] at h
                  have := of_decide_eq_false h.symm
                  omega
                have E7 := Lib.hid (decide_eq_false e6)
                clear HE ho hq13 Hqv
                go_wp2_with fail
                (with_reducible refine CT2.out.mono ?_); rintro e w15 hS15
                obtain ⟨rfl, hb15⟩ := hS15
                have F15 := F13.trans (hb15.mono F13.size)
                clear CT2
                go_wp2_with fail
                (with_reducible refine (hWk.out _).mono ?_); rintro e w16 ⟨rfl, hb16⟩
                go_wp2
                go_ret
                refine ⟨?_, F15.trans (hb16.mono F15.size)⟩
                first | rfl | (show Ending.returned (.bool (!decide ((cn : Int) ≤ 1))) = _; rw [E7.out]; rfl)
              · rw [ho] at CT2 HE
                have e6 : (cn : Int) ≤ 1 := by
                  have h := HE.out
                  simp only [Option.isSome_some] at h
                  have := of_decide_eq_true h.symm
                  omega
                clear HE ho hq13 Hqv
                go_wp2_with fail
                (with_reducible refine CT2.out.mono ?_); rintro e w15 hS15
                obtain ⟨g15, c15, rfl, _, hb15⟩ := hS15
                have F15 := F13.trans (hb15.mono F13.size)
                clear CT2
                go_wp2_with fail
                (with_reducible refine (hWk.out _).mono ?_); rintro e w16 ⟨rfl, hb16⟩
                go_wp2
                go_ret
                exact ⟨rfl, F15.trans (hb16.mono F15.size)⟩
            · have e5 : ¬ (0 : Int) < (lq : Int) := by omega
              have ht : thereN l lp lq = 0 := by unfold thereN; rw [if_neg h1, if_neg fun e => h2 e.2]
              rw [ht] at HE
              clear ht h1 h2 h6
              rcases ho : roTake l (i : Int) c r rs3 with _ | L
              · rw [ho] at CT2 HE
                have e6 : ¬ (cn : Int) ≤ 0 := by
                  have h := HE.out
                  simp only [Option.isSome_none] at h
                  have := of_decide_eq_false h.symm
                  omega
                have E7 := Lib.hid (decide_eq_false e6)
                clear HE ho hq13 Hqv
                go_wp2_with fail
                (with_reducible refine CT2.out.mono ?_); rintro e w15 hS15
                obtain ⟨rfl, hb15⟩ := hS15
                have F15 := F13.trans (hb15.mono F13.size)
                clear CT2
                go_wp2_with fail
                (with_reducible refine (hWk.out _).mono ?_); rintro e w16 ⟨rfl, hb16⟩
                go_wp2
                go_ret
                refine ⟨?_, F15.trans (hb16.mono F15.size)⟩
                first | rfl | (show Ending.returned (.bool (!decide ((cn : Int) ≤ 0))) = _; rw [E7.out]; rfl)
              · rw [ho] at CT2 HE
                have e6 : (cn : Int) ≤ 0 := by
                  have h := HE.out
                  simp only [Option.isSome_some] at h
                  have := of_decide_eq_true h.symm
                  omega
                clear HE ho hq13 Hqv
                go_wp2_with fail
                (with_reducible refine CT2.out.mono ?_); rintro e w15 hS15
                obtain ⟨g15, c15, rfl, _, hb15⟩ := hS15
                have F15 := F13.trans (hb15.mono F13.size)
                clear CT2
                go_wp2_with fail
                (with_reducible refine (hWk.out _).mono ?_); rintro e w16 ⟨rfl, hb16⟩
                go_wp2
                go_ret
                exact ⟨rfl, F15.trans (hb16.mono F15.size)⟩
end Go.Proofs.Ytbojmofkhkegmaa
