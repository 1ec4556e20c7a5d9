/- LogQuiet walked. -/
import Derived.Test.YtkbhnbkjpnigkaaDoorLogQuietEnd
import Derived.Test.YtkbhnbkjpnigkaaDoorLcaj
set_option linter.unusedVariables false
set_option linter.unusedSimpArgs false
namespace Go.Proofs.YtkbhnbkjpnigkaaDoor
open Go.RowKit

theorem KR.old {W w : World} {b : Nat} {H : BH} {N : Bch} {K : List (Nat × Obj)} {R : List (Option Addr × List It)} {X : Nat → Prop} (h : KR W w b H N K R X) {g : Nat} {o : Obj} (hg : w.heap[g]? = some o) (off : ¬ BF b H N.n g) (hW : W.heap.size ≤ g) : KR W w b H N ((g, o) :: K) R X := ⟨h.kx.old hg off hW, h.it⟩
set_option maxRecDepth 100000 in
set_option maxHeartbeats 8000000 in
theorem logquiet (A : Option Addr) (zs : List Int) (cl : Nat) (m alive : Int) (bA : Option Addr) (back : List Int) (bc : Nat) (w : World) (_ : zs.length ≤ cl) (hz : RdZ w w.heap.size A zs) (hm : (-9223372036854775808 ≤ m ∧ m ≤ 9223372036854775807)) (hal : (-9223372036854775808 ≤ alive ∧ alive ≤ 9223372036854775807)) (_ : back.length ≤ bc) (hb : RdZ w w.heap.size bA back) (ht : TabOk w) :
    Calls Tryd.prog 4 #[.slice A zs.length cl, .int .i64 m, .int .i64 alive, .slice bA back.length bc] w fun e w' => e = .returned (.bool true) ∧ Below w.heap.size w w' := by
  have hpn := ptr_eq
  have Ht := Lib.hid ht
  have Hb := Lib.hid hb
  have CN := Lib.hid (bp_new 4 w w (Below.refl _ _) (by omega))
  have WM := Lib.hid (fun V => within_any m 4 V hm (by omega))
  have bm := withinI_bd m 4 (by omega)
  generalize withinI m 4 = q at WM bm
  have CO := Lib.hid (fun V (hV : Below w.heap.size w V) => recOf_any 9 q A zs cl V (by omega) (by omega) (hz.keep hV.size fun p hp => hV.cell hp))
  have CA := Lib.hid (fun V => live_any alive 4 V hal (by omega))
  have hlv4 := liveL_len alive 4
  generalize liveL alive 4 = lv at CA hlv4
  have Hlv4 := Lib.hid hlv4
  clear ht hz hm hal hb hlv4
  go_enter Tryd.func4, Tryd.ntmps4
  go_wp2_with fail
  refine CN.out.mono ?_
  rintro e w1 ⟨b, H, rfl, hp, _, _⟩
  unfold ptr
  have K1 : Hid (KR w w1 b H (Bch.new 4) [] [] (fun _ => False)) := KX.kr ⟨hp, fun p hp => by cases hp⟩ _
  have Hoff := Lib.hid (show ∀ k, w1.heap.size ≤ k → ¬ BF b H (Bch.new 4).n k from fun k hk e => by have := (hp.at'.flt e).2; omega)
  have Hz1 := Lib.hid hp.bel.size
  clear hp CN
  go_wp2_with (go_at_call 9; (with_reducible refine (WM.out _).mono ?_); rintro e w2 ⟨rfl, h2⟩; obtain rfl : w1 = w2 := h2.symm)
  refine (CO.out w1 K1.out.kx.bp.bel).mono ?_
  rintro e w2 ⟨s, l, B, c, rfl, hs, h64, hl6, how, hb2⟩
  have hcp := how.rdS.2.1
  have Hpp := Lib.hid (show ∀ g, B = some ⟨g, 0, none⟩ → g ≠ w2.heap.size from fun g e => by subst e; have := (how.lt g rfl).2; omega)
  have K3 := Lib.hid ((K1.out.below hb2).addAt (.cells #[.int .i64 s, .slice B l.length c] 29 (0, 0)) rfl)
  have O3 := Lib.hid (how.below (below1 w2 (.cells #[.int .i64 s, .slice B l.length c] 29 (0, 0))))
  have D3 := Lib.hid (K3.out.box2 (List.mem_cons_self ..))
  have hls : l.length ≤ 1000 := by omega
  obtain ⟨w3, hw3⟩ : ∃ w3, w2.alloc (.cells #[.int .i64 s, .slice B l.length c] 29 (0, 0)) = w3 := ⟨_, rfl⟩
  rw [hw3] at K3 O3 D3
  obtain ⟨d30, d31⟩ := D3.out
  clear how hb2 WM CO K1 D3
  go_wp2_with fail
  refine lqA (w0 := w) (b := b) (p := w2.heap.size) (n := l.length) (c := c) (B := w1.heap.size) (s := s) (A := B) (H := H) (N := Bch.new 4) _ _ _ _ _ _ _ _ _ _ _ _ _ _ _ _ _ _ _ _ _ _ _ _ _ _ _ _ _ _ _ _ _ _ _ _ _ _ _ _ _ _ _ _ _ _ _ _ _ _ _ _ _ _ _ _ _ _ _ _ _ _ _ _ _ _ _ _ _ _ _ _ _ _ _ _ _ _ _ _ _ _ _ _ _ _ _ _ _ _ _ _ _ _ _ _ _ _ _ _ _ _ _ _ _ _ _ _ _ _ _ _ _ _ _ _ _ _ _ _ _ _ _ _ _ _ _ _ _ _ _ _ _ _ _ _ _ _ _ _ _ _ _ _ _ _ _ _ _ _ _ _ _ _ Hoff.out Hz1.out Hpp.out hls ⟨Nat.zero_le _, rfl, K3.out, O3.out, h64, fun k hk => absurd hk (Nat.not_lt_zero _)⟩ (fun v12 v41 v42 v43 v44 v45 v46 v47 v48 v49 v50 v51 v52 v53 v54 v55 j l2 V hI hx => ?_)
  subst hx
  obtain ⟨_, hl2, hK4, hO4, h642, hd4⟩ := hI
  have K4 := Lib.hid (hK4.took hO4 hl2 (fun k hk e => e.elim (Hoff.out k hk) id))
  clear hK4 hO4 d30 d31 K3 O3 hw3 h64
  rw [← hl2] at hcp hd4
  have Hbx := Lib.hid (show (w2.heap.size, Obj.cells #[.int .i64 s, .slice B l.length c] 29 (0, 0)) = (w2.heap.size, Obj.cells #[.int .i64 s, .slice B l2.length c] 29 (0, 0)) by rw [hl2])
  rw [Hbx.out] at K4
  obtain ⟨d40, d41⟩ := K4.out.box2 (List.mem_cons_self ..)
  have R4 := Lib.hid (K4.out.rd (List.mem_cons_self ..))
  have Hl2 := Lib.hid hl2
  clear hl2
  cases hk : recOk s l2 with
  | false =>
    have CK := Lib.hid (recCheck_no B l2.length c s l2 V rfl hcp hs R4.out h642 (Lib.hid hk))
    clear hk
    go_wp2_with (go_at_call 10; refine CK.out.mono ?_; rintro e w4 ⟨rfl, hb4⟩; have B4 := Lib.hid ((K4.out.below hb4).kx.bp.bel); clear hb4)
    refine (wakesLg_any _ (Ht.out.below B4.out Ht.out.pos)).mono ?_
    rintro e w5 ⟨rfl, hb5⟩
    go_wp2_with fail
    go_ret
    exact ⟨rfl, B4.out.trans (hb5.mono B4.out.size)⟩
  | true =>
    have CK := Lib.hid (recCheck_yes B l2.length c s l2 V rfl hcp hs R4.out h642 (Lib.hid hk))
    have Hok := Lib.hid hk
    have H32 := Lib.hid (show ∀ x ∈ l2, x.b.length = 32 from fun x hx => (recOk_may hk x hx).2.2.2.2)
    have hl3 := ((recOk_iff s l2).1 hk).1.2.2
    clear hk
    go_wp2_with (go_at_call 10; refine CK.out.mono ?_; rintro e w4 ⟨rfl, hb4⟩; have K5 := Lib.hid (K4.out.below hb4); clear hb4 d40 d41 R4 CK K4)
    refine lqB (w0 := w) (b := b) (bc := bc) (bA := bA) (back := back) (K0 := [(w2.heap.size, .cells #[.int .i64 s, .slice B l2.length c] 29 (0, 0))]) (R0 := [(B, l2)]) _ _ _ _ _ _ _ _ _ _ _ _ _ _ _ _ _ _ _ _ _ _ _ _ _ _ _ _ _ _ _ _ _ _ _ _ _ _ _ _ _ _ _ _ _ _ _ _ _ _ _ _ _ _ _ _ _ _ _ _ _ _ _ _ _ _ _ _ _ _ _ _ _ _ _ _ _ _ _ _ _ _ _ _ _ _ _ _ _ _ _ _ _ _ _ _ _ _ _ _ _ _ _ _ _ _ _ _ _ _ _ _ _ _ _ _ _ _ _ _ _ _ _ _ _ _ _ _ _ _ _ _ _ _ _ _ _ _ _ _ _ _ _ _ _ _ _ _ _ _ _ _ _ _ _ _ Hb.out ⟨Nat.zero_le _, K5.out, dm_new back⟩ (fun v14 v60 v61 v62 v63 v64 v65 v66 v67 v68 v69 v70 v71 v72 v73 v74 v75 v76 v77 v78 v79 v80 v81 i H6 N6 V6 hI hx => ?_)
    subst hx
    obtain ⟨_, hK6, hG6⟩ := hI
    have K6 := Lib.hid hK6
    have G6 := Lib.hid hG6
    clear hK6 hG6 K5
    go_wp2_with (go_at_call 19; refine (CA.out _).mono ?_; rintro e w7 ⟨lg, rfl, hrow, hlg, hb7⟩
                 have K7 := Lib.hid ((K6.out.below hb7).old hrow (fun e => by have := (K6.out.kx.bp.at'.flt e).2; omega) (by have := K6.out.kx.bp.bel.size; omega))
                 obtain ⟨d70, d71⟩ := K7.out.box2 (List.mem_cons_of_mem _ (List.mem_cons_self ..))
                 have R7 := Lib.hid (K7.out.kx.rdo (List.mem_cons_self ..) (lv := lv) rfl (by rw [Hlv4.out]; omega))
                 have CP := Lib.hid (kr_app K7.out G6.out.good (by rw [G6.out.done]; omega) lv (some ⟨lg, 0, none⟩) 4 4 Hlv4.out.symm R7.out s l2 B l2.length c rfl hcp (K7.out.off (List.mem_cons_self ..)) Hok.out)
                 clear hrow hlg hb7 CA K6)
    refine CP.out.mono ?_
    rintro e w8 ⟨rfl, H8, M8, k8, g8⟩
    have K8 := Lib.hid k8
    have G8 := Lib.hid g8
    have CQ := bp_pending_eq w w8 b H8 M8 k8.kx.bp
    clear k8 g8 CP d70 d71 R7 K7
    have CQ2 := CQ (fun i hi => Nat.le_trans (G8.out.good.len i hi) (by omega))
    rw [pend_good G8.out.good] at CQ2
    have CQ := Lib.hid CQ2
    clear CQ2
    go_wp2_with (go_at_call 20; (with_reducible refine CQ.out.mono ?_); rintro e w9 ⟨rfl, h9⟩; obtain rfl : w8 = w9 := h9.symm)
    have hn8 : M8.n = 4 := G8.out.n.trans G6.out.n
    refine lqC (w0 := w) (b := b) (p := w2.heap.size) (c := c) (bc := bc) (lg := lg) (s := s) (lv := lv) (A := B) (bA := bA) (back := back) (l := l2) (H := H8) (M := M8) (KK := [(lg, .cells ((lv.map Value.bool).toArray) 4 (0, 0)), (w2.heap.size, .cells #[.int .i64 s, .slice B l2.length c] 29 (0, 0))]) _ _ _ _ _ _ _ _ _ _ _ _ _ _ _ _ _ _ _ _ _ _ _ _ _ _ _ _ _ _ _ _ _ _ _ _ _ _ _ _ _ _ _ _ _ _ _ _ _ _ _ _ _ _ _ _ _ _ _ _ _ _ _ _ _ _ _ _ _ _ _ _ _ _ _ _ _ _ _ _ _ _ _ _ _ _ _ _ _ _ _ _ _ _ _ _ _ _ _ _ _ _ _ _ _ _ _ _ _ _ _ _ _ _ _ _ _ _ _ _ _ _ _ _ _ _ _ _ _ _ _ _ _ _ _ _ _ _ _ _ _ _ _ _ _ _ _ _ _ _ _ _ _ _ Hb.out (List.mem_cons_self ..) (List.mem_cons_of_mem _ (List.mem_cons_self ..)) Hlv4.out hn8 G8.out.good.dn (fun j hj => (G8.out.f j (by rw [G6.out.n]; exact hj)).trans (G6.out.f j hj)) H32.out hl3 (fun i hi => by
      have hd4 : i % 4 < 4 := Nat.mod_lt _ (by omega)
      rw [G8.out.sec (i % 4) (by rw [G6.out.n]; exact hd4) (G6.out.f _ hd4) (36 + i / 4) (by omega), G6.out.sec i hi, wnt_all, G6.out.n]) ⟨Nat.zero_le _, K8.out⟩ (fun v8 v17 v18 v20 v21 v22 v94 v95 v96 v97 v98 v99 v100 v101 v102 v103 v104 v105 v106 v107 v108 v109 v110 v111 v112 v113 v114 v115 v116 v117 v118 v119 v120 v121 v122 v123 v124 v125 v126 v127 v128 v129 v130 v131 v132 v133 v134 v135 v136 v137 v138 v139 v140 v141 v142 v143 v144 v145 v146 v147 v148 v149 v150 v151 v152 v153 v154 v155 v156 i V9 hI hx => ?_)
    subst hx
    have B9 := Lib.hid hI.2.kx.bp.bel
    clear hI
    go_wp2_with (go_at_call 11; refine (wakesLg_any _ (Ht.out.below B9.out Ht.out.pos)).mono ?_; rintro e wA ⟨rfl, hbA⟩)
    go_ret
    exact ⟨rfl, B9.out.trans (hbA.mono B9.out.size)⟩
end Go.Proofs.YtkbhnbkjpnigkaaDoor
