/- RowChanges: its loop. -/
import Derived.Test.YtbojmofkhkegmaaRowChangesIn
import Derived.Test.YtbojmofkhkegmaaRefPlace
set_option linter.unusedVariables false
set_option linter.unusedSimpArgs false
namespace Go.Proofs.Ytbojmofkhkegmaa
open Go.RowKit

set_option maxRecDepth 100000 in
set_option maxHeartbeats 3200000 in
theorem rcAb {W5 : World} {D ga gb gc cc la lb lc own p f : Nat} {q : Int} {xa xb : List Value} {fa fb : List (List UInt8)} {ch : List UInt8} {j : Nat} {w : World} (u0 u1 u2 u3 u4 u5 u6 u7 u8 u9 u10 u11 u12 u14 u15 u17 u23 u24 u25 u26 u27 u28 u29 u30 u31 u32 u33 u34 u35 u36 u37 u38 u39 u40 u41 u42 u43 u44 u45 u46 u47 u48 u49 u50 u51 u52 u53 u54 u55 u56 u57 u58 u59 u60 u61 u62 u63 u64 u65 u66 u67 u68 u69 u70 u71 u72 u73 u74 u75 u76 u77 u78 u79 u80 u81 u82 u83 u84 u85 u86 u87 u88 u89 u90 u91 u92 u93 u94 u95 u96 u97 u98 u99 u100 u101 u105 u106 u107 u108 u109 u110 u111 u112 u113 u114 u115 u116 u117 u118 u119 u120 u121 u122 u123 u124 u125 u126 u127 u128 u129 u130 u131 u132 u133 u134 u135 u136 u137 u138 u139 u140 u141 u142 u143 u144 u145 u146 u147 u148 : Value) (K : Act → World → Prop) (Q0 : Exit → Act → World → Prop) (hqa : Rq la W5 ga D D xa fa) (hqb : Rq lb W5 gb D D xb fb) (hla : ∀ i, i < D → (fa.getD i []).length = 32) (hlb : ∀ i, i < D → (fb.getD i []).length = 32) (hch : ∀ i : Nat, i < D → pB [fa.getD i [], fb.getD i []] = if i = own ∨ i = p then ch else if (i : Int) = q then scaleL ch f else zeroL 32) (hc : OwB 5 W5 lc (.slice (some ⟨gc, 0, none⟩) 32 cc) ch) (hcl : ch.length = 32) (hf : f < 256) (hd8 : D ≤ 8) (hI : (j ≤ D ∧ Below W5.heap.size W5 w))
    (hK : ∀ (v10 v23 v24 v25 v26 v105 v106 v107 v108 v109 v110 v111 v112 v113 v114 v115 v116 v117 v118 v119 v120 v121 v122 v123 v124 v125 v126 v127 v128 v129 v130 v131 v132 v133 v134 v135 v136 v137 v138 v139 v140 v141 v142 v143 v144 v145 v146 v147 : Value)  (V : World), ((j + 1) ≤ D ∧ Below W5.heap.size W5 V) → D - (j + 1) < D - j → K ⟨List.toArray (u0 :: u1 :: u2 :: u3 :: u4 :: u5 :: u6 :: u7 :: u8 :: u9 :: v10 :: u11 :: u12 :: (.slice (some ⟨ga, 0, none⟩) D D) :: u14 :: u15 :: (.slice (some ⟨gb, 0, none⟩) D D) :: u17 :: (.int .i64 ((p : Nat) : Int)) :: (.int .i64 q) :: (.int .i64 ((own : Nat) : Int)) :: (.slice (some ⟨gc, 0, none⟩) 32 cc) :: (.int .u8 ((f : Nat) : Int)) :: v23 :: v24 :: v25 :: v26 :: u27 :: u28 :: u29 :: u30 :: u31 :: u32 :: u33 :: u34 :: u35 :: u36 :: u37 :: u38 :: u39 :: u40 :: u41 :: u42 :: u43 :: u44 :: u45 :: u46 :: u47 :: u48 :: u49 :: u50 :: u51 :: u52 :: u53 :: u54 :: u55 :: u56 :: u57 :: u58 :: u59 :: u60 :: u61 :: u62 :: u63 :: u64 :: u65 :: u66 :: u67 :: u68 :: u69 :: u70 :: u71 :: u72 :: u73 :: u74 :: u75 :: u76 :: u77 :: u78 :: u79 :: u80 :: u81 :: u82 :: u83 :: u84 :: u85 :: u86 :: u87 :: u88 :: u89 :: u90 :: u91 :: u92 :: u93 :: u94 :: u95 :: u96 :: u97 :: u98 :: u99 :: u100 :: u101 :: (.slice (some ⟨ga, 0, none⟩) D D) :: (.int .i64 (D : Int)) :: (.int .i64 (((j + 1) : Nat) : Int)) :: v105 :: v106 :: v107 :: v108 :: v109 :: v110 :: v111 :: v112 :: v113 :: v114 :: v115 :: v116 :: v117 :: v118 :: v119 :: v120 :: v121 :: v122 :: v123 :: v124 :: v125 :: v126 :: v127 :: v128 :: v129 :: v130 :: v131 :: v132 :: v133 :: v134 :: v135 :: v136 :: v137 :: v138 :: v139 :: v140 :: v141 :: v142 :: v143 :: v144 :: v145 :: v146 :: v147 :: u148 :: []), []⟩ V)
    (hX : ∀ (v10 v23 v24 v25 v26 v105 v106 v107 v108 v109 v110 v111 v112 v113 v114 v115 v116 v117 v118 v119 v120 v121 v122 v123 v124 v125 v126 v127 v128 v129 v130 v131 v132 v133 v134 v135 v136 v137 v138 v139 v140 v141 v142 v143 v144 v145 v146 v147 : Value), (True) → Q0 (.exit 0) ⟨List.toArray (u0 :: u1 :: u2 :: u3 :: u4 :: u5 :: u6 :: u7 :: u8 :: u9 :: v10 :: u11 :: u12 :: (.slice (some ⟨ga, 0, none⟩) D D) :: u14 :: u15 :: (.slice (some ⟨gb, 0, none⟩) D D) :: u17 :: (.int .i64 ((p : Nat) : Int)) :: (.int .i64 q) :: (.int .i64 ((own : Nat) : Int)) :: (.slice (some ⟨gc, 0, none⟩) 32 cc) :: (.int .u8 ((f : Nat) : Int)) :: v23 :: v24 :: v25 :: v26 :: u27 :: u28 :: u29 :: u30 :: u31 :: u32 :: u33 :: u34 :: u35 :: u36 :: u37 :: u38 :: u39 :: u40 :: u41 :: u42 :: u43 :: u44 :: u45 :: u46 :: u47 :: u48 :: u49 :: u50 :: u51 :: u52 :: u53 :: u54 :: u55 :: u56 :: u57 :: u58 :: u59 :: u60 :: u61 :: u62 :: u63 :: u64 :: u65 :: u66 :: u67 :: u68 :: u69 :: u70 :: u71 :: u72 :: u73 :: u74 :: u75 :: u76 :: u77 :: u78 :: u79 :: u80 :: u81 :: u82 :: u83 :: u84 :: u85 :: u86 :: u87 :: u88 :: u89 :: u90 :: u91 :: u92 :: u93 :: u94 :: u95 :: u96 :: u97 :: u98 :: u99 :: u100 :: u101 :: (.slice (some ⟨ga, 0, none⟩) D D) :: (.int .i64 (D : Int)) :: (.int .i64 ((j : Nat) : Int)) :: v105 :: v106 :: v107 :: v108 :: v109 :: v110 :: v111 :: v112 :: v113 :: v114 :: v115 :: v116 :: v117 :: v118 :: v119 :: v120 :: v121 :: v122 :: v123 :: v124 :: v125 :: v126 :: v127 :: v128 :: v129 :: v130 :: v131 :: v132 :: v133 :: v134 :: v135 :: v136 :: v137 :: v138 :: v139 :: v140 :: v141 :: v142 :: v143 :: v144 :: v145 :: v146 :: v147 :: u148 :: []), []⟩ w) :
    Code.wp Try.prog (sub [1, 1, 1, 1, 1, 1, 1, 1, 1, 1, 1, 1, 1, 1, 0, 1, 0, 0] codeRC) (Exit.then K Q0) ⟨List.toArray (u0 :: u1 :: u2 :: u3 :: u4 :: u5 :: u6 :: u7 :: u8 :: u9 :: u10 :: u11 :: u12 :: (.slice (some ⟨ga, 0, none⟩) D D) :: u14 :: u15 :: (.slice (some ⟨gb, 0, none⟩) D D) :: u17 :: (.int .i64 ((p : Nat) : Int)) :: (.int .i64 q) :: (.int .i64 ((own : Nat) : Int)) :: (.slice (some ⟨gc, 0, none⟩) 32 cc) :: (.int .u8 ((f : Nat) : Int)) :: u23 :: u24 :: u25 :: u26 :: u27 :: u28 :: u29 :: u30 :: u31 :: u32 :: u33 :: u34 :: u35 :: u36 :: u37 :: u38 :: u39 :: u40 :: u41 :: u42 :: u43 :: u44 :: u45 :: u46 :: u47 :: u48 :: u49 :: u50 :: u51 :: u52 :: u53 :: u54 :: u55 :: u56 :: u57 :: u58 :: u59 :: u60 :: u61 :: u62 :: u63 :: u64 :: u65 :: u66 :: u67 :: u68 :: u69 :: u70 :: u71 :: u72 :: u73 :: u74 :: u75 :: u76 :: u77 :: u78 :: u79 :: u80 :: u81 :: u82 :: u83 :: u84 :: u85 :: u86 :: u87 :: u88 :: u89 :: u90 :: u91 :: u92 :: u93 :: u94 :: u95 :: u96 :: u97 :: u98 :: u99 :: u100 :: u101 :: (.slice (some ⟨ga, 0, none⟩) D D) :: (.int .i64 (D : Int)) :: (.int .i64 ((j : Nat) : Int)) :: u105 :: u106 :: u107 :: u108 :: u109 :: u110 :: u111 :: u112 :: u113 :: u114 :: u115 :: u116 :: u117 :: u118 :: u119 :: u120 :: u121 :: u122 :: u123 :: u124 :: u125 :: u126 :: u127 :: u128 :: u129 :: u130 :: u131 :: u132 :: u133 :: u134 :: u135 :: u136 :: u137 :: u138 :: u139 :: u140 :: u141 :: u142 :: u143 :: u144 :: u145 :: u146 :: u147 :: u148 :: []), []⟩ w := by
  have HK := Lib.hid hK
  have HX := Lib.hid hX
  clear hK hX
  conv => arg 2; whnf
  obtain ⟨hj, hb⟩ := hI
  by_cases hlt : j < D
  · have i0 : (0 : Int) ≤ (j : Int) := by omega
    have i1 : (j : Int) < (D : Int) := by omega
    obtain ⟨Aa, ca2, _, za, hoa⟩ := hqa.at j hlt
    obtain ⟨Ab, cb2, _, zb, hob⟩ := hqb.at j hlt
    rw [← hb.cell (p := ⟨ga, j, none⟩) hqa.glt.2] at za
    rw [← hb.cell (p := ⟨gb, j, none⟩) hqb.glt.2] at zb
    have h32a := hla j hlt
    have h32b := hlb j hlt
    have Hy := hch j hlt
    have hra := (hoa.rdS.1.below hb (Nat.le_refl _)).more hb.size
    have hrb := (hob.rdS.1.below hb (Nat.le_refl _)).more hb.size
    have hyl : (pB [fa.getD j [], fb.getD j []]).length = 32 := by rw [pB_two (h32a.trans h32b.symm), xorL_len, h32a, h32b, Nat.min_self]
    generalize fa.getD j [] = ra at za h32a Hy hra hyl
    generalize fb.getD j [] = rb at zb h32b Hy hrb hyl
    rw [h32a] at za
    rw [h32b] at zb
    obtain ⟨y, hy⟩ : ∃ y, pB [ra, rb] = y := ⟨_, rfl⟩
    rw [hy] at Hy hyl
    have Hhy := Lib.hid hy
    have HY := Lib.hid Hy
    have Hc := Lib.hid hc
    have hrd2 := rdr_block2 (hp_new w.drew (.cells #[.slice Aa 32 ca2, .slice Ab 32 cb2] 24) _ rfl) h32a.symm h32b.symm ((hra.below ((Below.refl _ _).drew.trans (below1 w.drew (.cells #[.slice Aa 32 ca2, .slice Ab 32 cb2] 24))) (Nat.le_refl _)).more (by simp)) ((hrb.below ((Below.refl _ _).drew.trans (below1 w.drew (.cells #[.slice Aa 32 ca2, .slice Ab 32 cb2] 24))) (Nat.le_refl _)).more (by simp)) (Nat.le_refl _)
    have hb2 := hb.drew.alloc hb.size (.cells #[.slice Aa 32 ca2, .slice Ab 32 cb2] 24)
    have hmk : ∀ w, (Instr.makeSlice 24 (.int .i64 32) (.int .i64 32)).run Try.prog w = .ok (.slice (some ⟨w.heap.size, 0, none⟩) 32 32) (w.alloc (.cells (zcells 32) 5)) := make_bytes 32 (by omega)
    have CP := Lib.hid (refp_gives (n := 2) (cp := 2) hrd2 rfl hy)
    clear HX hqa hqb hla hlb hch hoa hob hra hrb hy hrd2 hc Hy
    go_wp2_with fail
    refine wp_region_still_tail 8 (by kernel_rfl) (by kernel_rfl) ?_
    simp only [List.take_succ_cons, List.take_zero, List.drop_succ_cons, List.drop_zero]
    change wpStill _ _ w.drew _ _ _
    have za' : w.drew.cell? ⟨ga, j, none⟩ = some (.slice Aa 32 ca2) := za
    have zb' : w.drew.cell? ⟨gb, j, none⟩ = some (.slice Ab 32 cb2) := zb
    generalize hwd : w.drew = wd at za' zb' CP hb2 ⊢
    have Hwd := Lib.hid hwd
    clear hwd
    repeat still_step
    refine wpStill_nil ?_
    change wpList _ _ _ _ _ w.drew
    rw [Hwd.out]
    go_wp2_with fail
    generalize wd.alloc (.cells #[.slice Aa 32 ca2, .slice Ab 32 cb2] 24) = w2 at CP hb2 ⊢
    (with_reducible refine CP.out.mono ?_); rintro e w3 ⟨Ay, cy, rfl, hoy, hb3⟩
    rw [hyl] at hoy ⊢
    have hb4 := hb2.trans (hb3.mono hb2.size)
    have hz := own_make 5 w3 32 (by omega)
    change OwB 5 _ _ _ (zeroL 32) at hz
    have hoy4 := hoy.below (below1 w3 (.cells (zcells 32) 5))
    have hb5 := hb4.alloc hb4.size (.cells (zcells 32) 5)
    have hs3 := hb4.size
    have Hh3 : w3.heap.size < (w3.alloc (.cells (zcells 32) 5)).heap.size := by simp
    clear za zb za' zb' CP hb2 hb3 hb
    by_cases h1 : j = own
    · have e1 : ((j : Int) == (own : Int)) = true := by rw [beq_iff_eq]; omega
      rw [if_pos (.inl h1)] at HY
      clear h1
      have hcr := ((Hc.out.rdS.1.below hb5 (Nat.le_refl _)).more hb5.size)
      rw [← HY.out] at hcr
      have CS := Lib.hid (sameT_any (c := cy) (c' := cc) hyl.symm hyl.symm hoy4.rdS.1 hcr)
      clear hz hoy hoy4 hb4 Hc HY Hh3 hcr
      go_wp2_with fail
      (with_reducible refine CS.out.mono ?_); rintro e wz ⟨rfl, m, rfl⟩
      go_wp2_with fail
      exact HK.out _ _ _ _ _ _ _ _ _ _ _ _ _ _ _ _ _ _ _ _ _ _ _ _ _ _ _ _ _ _ _ _ _ _ _ _ _ _ _ _ _ _ _ _ _ _ _ _ _ ⟨by omega, hb5.trans (belowN _ _ m)⟩ (by omega)
    · have e1 : ((j : Int) == (own : Int)) = false := ibeq_no (by omega)
      by_cases h2 : j = p
      · have e2 : ((j : Int) == (p : Int)) = true := by rw [beq_iff_eq]; omega
        rw [if_pos (.inr h2)] at HY
        clear h1 h2
        have hcr := ((Hc.out.rdS.1.below hb5 (Nat.le_refl _)).more hb5.size)
        rw [← HY.out] at hcr
        have CS := Lib.hid (sameT_any (c := cy) (c' := cc) hyl.symm hyl.symm hoy4.rdS.1 hcr)
        clear hz hoy hoy4 hb4 Hc HY Hh3 hcr
        go_wp2_with fail
        (with_reducible refine CS.out.mono ?_); rintro e wz ⟨rfl, m, rfl⟩
        go_wp2_with fail
        exact HK.out _ _ _ _ _ _ _ _ _ _ _ _ _ _ _ _ _ _ _ _ _ _ _ _ _ _ _ _ _ _ _ _ _ _ _ _ _ _ _ _ _ _ _ _ _ _ _ _ _ ⟨by omega, hb5.trans (belowN _ _ m)⟩ (by omega)
      · have e2 : ((j : Int) == (p : Int)) = false := ibeq_no (by omega)
        rw [if_neg (by omega)] at HY
        by_cases h3 : (j : Int) = q
        · have e3 : ((j : Int) == q) = true := by rw [beq_iff_eq]; exact h3
          rw [if_pos h3] at HY
          clear h1 h2 h3
          go_upto_block 3 with fail
          refine wp_block ?_
          rw [← wcTo_zero ch f] at hz
          generalize w3.alloc (.cells (zcells 32) 5) = w4 at hz hoy4 hb5 Hh3 ⊢
          have hgc := (Hc.out.lt gc rfl).2
          refine rcI _ _ _ _ _ _ _ _ _ _ _ _ _ _ _ _ _ _ _ _ _ _ _ _ _ _ _ _ _ _ _ _ _ _ _ _ _ _ _ _ _ _ _ _ _ _ _ _ _ _ _ _ _ _ _ _ _ _ _ _ _ _ _ _ _ _ _ _ _ _ _ _ _ _ _ _ _ _ _ _ _ _ _ _ _ _ _ _ _ _ _ _ _ _ _ _ _ _ _ _ _ _ _ _ _ _ _ _ _ _ _ _ _ _ _ _ _ _ _ _ _ _ _ _ _ _ _ _ _ _ _ _ _ _ _ _ _ _ _ _ _ _ _ _ (Hc.out.below hb5) hcl (show gc < w3.heap.size by omega) hf ⟨Nat.zero_le _, hz, World.grownBy.refl _ _⟩ (fun v26 v131 v132 v133 v134 v135 v136 v137 v138 v139 v140 v141 v142 i V hI hx => ?_)
          subst hx
          obtain ⟨_, hw, hg⟩ := hI
          rw [wcTo_all hcl, ← HY.out] at hw
          have hoy5 := hoy4.grown hg (by
            rcases hv : (Value.slice Ay 32 cy).ownBlock with _ | k
            · exact .inl rfl
            · refine .inr fun e => ?_
              injection e with e
              have := (hoy.lt k hv).2
              omega)
          have hb6 := hb5.grown hg (by have := hb5.size; omega) (fun k hk => by injection hk with hk; omega)
          have CS := Lib.hid (sameT_any (c := cy) (c' := 32) hyl.symm hyl.symm hoy5.rdS.1 hw.rdS.1)
          clear hz hoy hoy4 hoy5 hw hg hb4 hb5 Hc HY
          go_wp2_with fail
          (with_reducible refine CS.out.mono ?_); rintro e wz ⟨rfl, m, rfl⟩
          go_wp2_with fail
          exact HK.out _ _ _ _ _ _ _ _ _ _ _ _ _ _ _ _ _ _ _ _ _ _ _ _ _ _ _ _ _ _ _ _ _ _ _ _ _ _ _ _ _ _ _ _ _ _ _ _ _ ⟨by omega, hb6.trans (belowN _ _ m)⟩ (by omega)
        · have e3 : ((j : Int) == q) = false := ibeq_no h3
          rw [if_neg h3] at HY
          clear h1 h2 h3
          rw [← HY.out] at hz
          have CS := Lib.hid (sameT_any (c := cy) (c' := 32) hyl.symm hyl.symm hoy4.rdS.1 hz.rdS.1)
          clear hz hoy hoy4 hb4 Hc HY Hh3
          go_wp2_with fail
          (with_reducible refine CS.out.mono ?_); rintro e wz ⟨rfl, m, rfl⟩
          go_wp2_with fail
          exact HK.out _ _ _ _ _ _ _ _ _ _ _ _ _ _ _ _ _ _ _ _ _ _ _ _ _ _ _ _ _ _ _ _ _ _ _ _ _ _ _ _ _ _ _ _ _ _ _ _ _ ⟨by omega, hb5.trans (belowN _ _ m)⟩ (by omega)
  · have i1 : ¬ (j : Int) < (D : Int) := by omega
    clear HK hqa hqb hla hlb hch hc
    go_wp2_with fail
    exact HX.out _ _ _ _ _ _ _ _ _ _ _ _ _ _ _ _ _ _ _ _ _ _ _ _ _ _ _ _ _ _ _ _ _ _ _ _ _ _ _ _ _ _ _ _ _ _ _ _ (by trivial)
set_option maxRecDepth 100000 in
set_option maxHeartbeats 3200000 in
theorem rcA {W5 : World} {D ga gb gc cc la lb lc own p f : Nat} {q : Int} {xa xb : List Value} {fa fb : List (List UInt8)} {ch : List UInt8}  {w : World} (u0 u1 u2 u3 u4 u5 u6 u7 u8 u9 u10 u11 u12 u14 u15 u17 u23 u24 u25 u26 u27 u28 u29 u30 u31 u32 u33 u34 u35 u36 u37 u38 u39 u40 u41 u42 u43 u44 u45 u46 u47 u48 u49 u50 u51 u52 u53 u54 u55 u56 u57 u58 u59 u60 u61 u62 u63 u64 u65 u66 u67 u68 u69 u70 u71 u72 u73 u74 u75 u76 u77 u78 u79 u80 u81 u82 u83 u84 u85 u86 u87 u88 u89 u90 u91 u92 u93 u94 u95 u96 u97 u98 u99 u100 u101 u105 u106 u107 u108 u109 u110 u111 u112 u113 u114 u115 u116 u117 u118 u119 u120 u121 u122 u123 u124 u125 u126 u127 u128 u129 u130 u131 u132 u133 u134 u135 u136 u137 u138 u139 u140 u141 u142 u143 u144 u145 u146 u147 u148 : Value) (Q : Exit → Act → World → Prop) (hqa : Rq la W5 ga D D xa fa) (hqb : Rq lb W5 gb D D xb fb) (hla : ∀ i, i < D → (fa.getD i []).length = 32) (hlb : ∀ i, i < D → (fb.getD i []).length = 32) (hch : ∀ i : Nat, i < D → pB [fa.getD i [], fb.getD i []] = if i = own ∨ i = p then ch else if (i : Int) = q then scaleL ch f else zeroL 32) (hc : OwB 5 W5 lc (.slice (some ⟨gc, 0, none⟩) 32 cc) ch) (hcl : ch.length = 32) (hf : f < 256) (hd8 : D ≤ 8) (hI : (0 ≤ D ∧ Below W5.heap.size W5 w))
    (hX : ∀ (v10 v23 v24 v25 v26 v105 v106 v107 v108 v109 v110 v111 v112 v113 v114 v115 v116 v117 v118 v119 v120 v121 v122 v123 v124 v125 v126 v127 v128 v129 v130 v131 v132 v133 v134 v135 v136 v137 v138 v139 v140 v141 v142 v143 v144 v145 v146 v147 : Value) (j : Nat) (V : World), (j ≤ D ∧ Below W5.heap.size W5 V) → (True) → Q (.exit 0) ⟨List.toArray (u0 :: u1 :: u2 :: u3 :: u4 :: u5 :: u6 :: u7 :: u8 :: u9 :: v10 :: u11 :: u12 :: (.slice (some ⟨ga, 0, none⟩) D D) :: u14 :: u15 :: (.slice (some ⟨gb, 0, none⟩) D D) :: u17 :: (.int .i64 ((p : Nat) : Int)) :: (.int .i64 q) :: (.int .i64 ((own : Nat) : Int)) :: (.slice (some ⟨gc, 0, none⟩) 32 cc) :: (.int .u8 ((f : Nat) : Int)) :: v23 :: v24 :: v25 :: v26 :: u27 :: u28 :: u29 :: u30 :: u31 :: u32 :: u33 :: u34 :: u35 :: u36 :: u37 :: u38 :: u39 :: u40 :: u41 :: u42 :: u43 :: u44 :: u45 :: u46 :: u47 :: u48 :: u49 :: u50 :: u51 :: u52 :: u53 :: u54 :: u55 :: u56 :: u57 :: u58 :: u59 :: u60 :: u61 :: u62 :: u63 :: u64 :: u65 :: u66 :: u67 :: u68 :: u69 :: u70 :: u71 :: u72 :: u73 :: u74 :: u75 :: u76 :: u77 :: u78 :: u79 :: u80 :: u81 :: u82 :: u83 :: u84 :: u85 :: u86 :: u87 :: u88 :: u89 :: u90 :: u91 :: u92 :: u93 :: u94 :: u95 :: u96 :: u97 :: u98 :: u99 :: u100 :: u101 :: (.slice (some ⟨ga, 0, none⟩) D D) :: (.int .i64 (D : Int)) :: (.int .i64 ((j : Nat) : Int)) :: v105 :: v106 :: v107 :: v108 :: v109 :: v110 :: v111 :: v112 :: v113 :: v114 :: v115 :: v116 :: v117 :: v118 :: v119 :: v120 :: v121 :: v122 :: v123 :: v124 :: v125 :: v126 :: v127 :: v128 :: v129 :: v130 :: v131 :: v132 :: v133 :: v134 :: v135 :: v136 :: v137 :: v138 :: v139 :: v140 :: v141 :: v142 :: v143 :: v144 :: v145 :: v146 :: v147 :: u148 :: []), []⟩ V) :
    Code.wp Try.prog (.loop (sub [1, 1, 1, 1, 1, 1, 1, 1, 1, 1, 1, 1, 1, 1, 0, 1, 0, 0] codeRC)) Q ⟨List.toArray (u0 :: u1 :: u2 :: u3 :: u4 :: u5 :: u6 :: u7 :: u8 :: u9 :: u10 :: u11 :: u12 :: (.slice (some ⟨ga, 0, none⟩) D D) :: u14 :: u15 :: (.slice (some ⟨gb, 0, none⟩) D D) :: u17 :: (.int .i64 ((p : Nat) : Int)) :: (.int .i64 q) :: (.int .i64 ((own : Nat) : Int)) :: (.slice (some ⟨gc, 0, none⟩) 32 cc) :: (.int .u8 ((f : Nat) : Int)) :: u23 :: u24 :: u25 :: u26 :: u27 :: u28 :: u29 :: u30 :: u31 :: u32 :: u33 :: u34 :: u35 :: u36 :: u37 :: u38 :: u39 :: u40 :: u41 :: u42 :: u43 :: u44 :: u45 :: u46 :: u47 :: u48 :: u49 :: u50 :: u51 :: u52 :: u53 :: u54 :: u55 :: u56 :: u57 :: u58 :: u59 :: u60 :: u61 :: u62 :: u63 :: u64 :: u65 :: u66 :: u67 :: u68 :: u69 :: u70 :: u71 :: u72 :: u73 :: u74 :: u75 :: u76 :: u77 :: u78 :: u79 :: u80 :: u81 :: u82 :: u83 :: u84 :: u85 :: u86 :: u87 :: u88 :: u89 :: u90 :: u91 :: u92 :: u93 :: u94 :: u95 :: u96 :: u97 :: u98 :: u99 :: u100 :: u101 :: (.slice (some ⟨ga, 0, none⟩) D D) :: (.int .i64 (D : Int)) :: (.int .i64 ((0 : Nat) : Int)) :: u105 :: u106 :: u107 :: u108 :: u109 :: u110 :: u111 :: u112 :: u113 :: u114 :: u115 :: u116 :: u117 :: u118 :: u119 :: u120 :: u121 :: u122 :: u123 :: u124 :: u125 :: u126 :: u127 :: u128 :: u129 :: u130 :: u131 :: u132 :: u133 :: u134 :: u135 :: u136 :: u137 :: u138 :: u139 :: u140 :: u141 :: u142 :: u143 :: u144 :: u145 :: u146 :: u147 :: u148 :: []), []⟩ w := by
  refine wp_loop_ghost (fun gk a V => ∀ C : Prop, (∀ (u10 u23 u24 u25 u26 u105 u106 u107 u108 u109 u110 u111 u112 u113 u114 u115 u116 u117 u118 u119 u120 u121 u122 u123 u124 u125 u126 u127 u128 u129 u130 u131 u132 u133 u134 u135 u136 u137 u138 u139 u140 u141 u142 u143 u144 u145 u146 u147 : Value) (j : Nat), gk = D - j → (j ≤ D ∧ Below W5.heap.size W5 V) → a = ⟨List.toArray (u0 :: u1 :: u2 :: u3 :: u4 :: u5 :: u6 :: u7 :: u8 :: u9 :: u10 :: u11 :: u12 :: (.slice (some ⟨ga, 0, none⟩) D D) :: u14 :: u15 :: (.slice (some ⟨gb, 0, none⟩) D D) :: u17 :: (.int .i64 ((p : Nat) : Int)) :: (.int .i64 q) :: (.int .i64 ((own : Nat) : Int)) :: (.slice (some ⟨gc, 0, none⟩) 32 cc) :: (.int .u8 ((f : Nat) : Int)) :: u23 :: u24 :: u25 :: u26 :: u27 :: u28 :: u29 :: u30 :: u31 :: u32 :: u33 :: u34 :: u35 :: u36 :: u37 :: u38 :: u39 :: u40 :: u41 :: u42 :: u43 :: u44 :: u45 :: u46 :: u47 :: u48 :: u49 :: u50 :: u51 :: u52 :: u53 :: u54 :: u55 :: u56 :: u57 :: u58 :: u59 :: u60 :: u61 :: u62 :: u63 :: u64 :: u65 :: u66 :: u67 :: u68 :: u69 :: u70 :: u71 :: u72 :: u73 :: u74 :: u75 :: u76 :: u77 :: u78 :: u79 :: u80 :: u81 :: u82 :: u83 :: u84 :: u85 :: u86 :: u87 :: u88 :: u89 :: u90 :: u91 :: u92 :: u93 :: u94 :: u95 :: u96 :: u97 :: u98 :: u99 :: u100 :: u101 :: (.slice (some ⟨ga, 0, none⟩) D D) :: (.int .i64 (D : Int)) :: (.int .i64 ((j : Nat) : Int)) :: u105 :: u106 :: u107 :: u108 :: u109 :: u110 :: u111 :: u112 :: u113 :: u114 :: u115 :: u116 :: u117 :: u118 :: u119 :: u120 :: u121 :: u122 :: u123 :: u124 :: u125 :: u126 :: u127 :: u128 :: u129 :: u130 :: u131 :: u132 :: u133 :: u134 :: u135 :: u136 :: u137 :: u138 :: u139 :: u140 :: u141 :: u142 :: u143 :: u144 :: u145 :: u146 :: u147 :: u148 :: []), []⟩ → C) → C) (D - 0) ?_ ?_
  · intro C hC
    exact hC _ _ _ _ _ _ _ _ _ _ _ _ _ _ _ _ _ _ _ _ _ _ _ _ _ _ _ _ _ _ _ _ _ _ _ _ _ _ _ _ _ _ _ _ _ _ _ _ (0) rfl hI rfl
  · intro gk a V hI'
    refine hI' _ ?_
    intro u10 u23 u24 u25 u26 u105 u106 u107 u108 u109 u110 u111 u112 u113 u114 u115 u116 u117 u118 u119 u120 u121 u122 u123 u124 u125 u126 u127 u128 u129 u130 u131 u132 u133 u134 u135 u136 u137 u138 u139 u140 u141 u142 u143 u144 u145 u146 u147 j hk hinv ha
    subst ha
    subst hk
    refine rcAb _ _ _ _ _ _ _ _ _ _ _ _ _ _ _ _ _ _ _ _ _ _ _ _ _ _ _ _ _ _ _ _ _ _ _ _ _ _ _ _ _ _ _ _ _ _ _ _ _ _ _ _ _ _ _ _ _ _ _ _ _ _ _ _ _ _ _ _ _ _ _ _ _ _ _ _ _ _ _ _ _ _ _ _ _ _ _ _ _ _ _ _ _ _ _ _ _ _ _ _ _ _ _ _ _ _ _ _ _ _ _ _ _ _ _ _ _ _ _ _ _ _ _ _ _ _ _ _ _ _ _ _ _ _ _ _ _ _ _ _ _ hqa hqb hla hlb hch hc hcl hf hd8 hinv (fun v10 v23 v24 v25 v26 v105 v106 v107 v108 v109 v110 v111 v112 v113 v114 v115 v116 v117 v118 v119 v120 v121 v122 v123 v124 v125 v126 v127 v128 v129 v130 v131 v132 v133 v134 v135 v136 v137 v138 v139 v140 v141 v142 v143 v144 v145 v146 v147  V2 h2 hm => ?_) (fun v10 v23 v24 v25 v26 v105 v106 v107 v108 v109 v110 v111 v112 v113 v114 v115 v116 v117 v118 v119 v120 v121 v122 v123 v124 v125 v126 v127 v128 v129 v130 v131 v132 v133 v134 v135 v136 v137 v138 v139 v140 v141 v142 v143 v144 v145 v146 v147 hx => hX v10 v23 v24 v25 v26 v105 v106 v107 v108 v109 v110 v111 v112 v113 v114 v115 v116 v117 v118 v119 v120 v121 v122 v123 v124 v125 v126 v127 v128 v129 v130 v131 v132 v133 v134 v135 v136 v137 v138 v139 v140 v141 v142 v143 v144 v145 v146 v147 j V hinv hx)
    refine ⟨_, hm, fun C hC => ?_⟩
    exact hC v10 v23 v24 v25 v26 v105 v106 v107 v108 v109 v110 v111 v112 v113 v114 v115 v116 v117 v118 v119 v120 v121 v122 v123 v124 v125 v126 v127 v128 v129 v130 v131 v132 v133 v134 v135 v136 v137 v138 v139 v140 v141 v142 v143 v144 v145 v146 v147 ((j + 1)) rfl h2 rfl
end Go.Proofs.Ytbojmofkhkegmaa
