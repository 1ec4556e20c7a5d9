/- SlotsBest walked. -/
import Derived.Test.YtiipdhmfdgbmiaaDoorSlotsBestRounds
import Derived.Test.YtiipdhmfdgbmiaaDoorSlotsBestEnd
import Derived.Test.YtiipdhmfdgbmiaaDoorTbak
import Derived.Test.YtiipdhmfdgbmiaaDoorSupEqR
set_option linter.unusedVariables false
set_option linter.unusedSimpArgs false
namespace Go.Proofs.YtiipdhmfdgbmiaaDoor
open Go.RowKit

theorem wpList_store_sz {P : Program} {ops : Array Oper} {rest : List Oper} {op : Oper} {a : Act} {w : World} {Q : Exit → Act → World → Prop} (hgd : op.guard = none) (ty : TypeId) (x y : Operand) (ho : op.op = .store ty x y)
    (b o : Nat) (v : Value) (hx : a.eval x = .pointer (some ⟨b, o, none⟩)) (hy : a.eval y = v) (cur : List Value) (t : TypeId) (hb : w.heap[b]? = some (.cells cur.toArray t (0, 0)))
    (vs : List Value) (hvs : v.cells = vs.toArray) (n : Nat) (hn : vs.length = n) (hi : (P.info? ty).map (·.size) = some n) (hl : o + n ≤ cur.length) (h1 : ∀ u ∈ vs, u.oneCell' = true)
    (new : List Value) (hnew : spl cur o vs = new)
    (h : ∀ w', w'.heap[b]? = some (.cells new.toArray t (0, 0)) → w.grownBy w' (some b) → w'.heap.size = w.heap.size → wpList P ops Q rest (a.put op.dst undef) w') : wpList P ops Q (op :: rest) a w := by
  subst hn hnew
  refine wpList_plain hgd fun K hK => ?_
  have hr := run_storeVar_blk (P := P) w b o ty v cur t hb (by rw [hi, hvs]; rfl) (by rw [hvs]; exact hl) (by rw [hvs]; exact h1)
  unfold Oper.wp execOp
  simp only [ho, hx, hy, Instr.storeAt, Instr.sureAddr, Sem.run_bind, Sem.run_pure, Result.andThen_ok, hr]
  refine hK _ _ (h _ ?_ ?_ (by simp))
  · rw [hvs]; exact setRow_heap w b _ _ t (0, 0) hb
  · exact ⟨rfl, rfl, rfl, by simp, fun k _ hk => setRow_other w b k _ (fun e => hk (by rw [e]))⟩
attribute [local go_sem ↓] su_eql su_neq rsu_eql rsu_neq
theorem rst_new {wS w : World} {N : Bch} (hb : Below wS.heap.size wS w) (h1 : w.heap[wS.heap.size]? = some (.cells (suL suZ).toArray 54 (0, 0))) (h2 : w.heap[wS.heap.size + 1]? = some (.cells (rowOf (fun _ => .slice none 0 0) 4).toArray 60 (0, 0))) : RSt wS w N (fun _ => .slice none 0 0) 0 0 (bestTo N 0) :=
  ⟨hb, h1, h2, fun k _ => by rw [cnts_zero]; exact ⟨rfl, .inl ⟨rfl, rfl⟩⟩, fun _ _ _ _ _ q h => by cases h⟩
set_option maxRecDepth 100000 in
set_option maxHeartbeats 8000000 in
theorem slotsbest (A : Option Addr) (l : List Int) (cl : Nat) (w : World) (_ : l.length ≤ cl) (hr : RdZ w w.heap.size A l) (ht : TabOk w) :
    Calls Tryd.prog 5 #[.slice A l.length cl] w fun e w' => e = .returned (.bool true) ∧ Below w.heap.size w w' := by
  have hpn := ptr_eq
  have Ht := Lib.hid ht
  have Hr := Lib.hid hr
  have CN := Lib.hid (bp_new 4 w w (Below.refl _ _) (by omega))
  clear ht hr
  go_enter Tryd.func5, Tryd.ntmps5
  go_wp2_with fail
  refine CN.out.mono ?_
  rintro e w1 ⟨b, H, rfl, hp, _, _⟩
  unfold ptr
  have K1 : Hid (KX w w1 b H (Bch.new 4) []) := ⟨hp, fun p hp => by cases hp⟩
  have Q1 := Lib.hid rg_new
  clear hp CN
  go_wp2_with fail
  refine sxR (w0 := w) (b := b) (cl := cl) (A := A) (l := l) _ _ _ _ _ _ _ _ _ _ _ _ _ _ _ _ _ _ _ _ _ _ _ _ _ _ _ _ _ _ _ _ _ _ _ _ _ _ _ _ _ _ _ _ _ _ _ _ _ _ _ _ _ _ _ _ _ _ _ _ _ _ _ _ _ _ _ _ _ _ _ _ _ _ _ _ _ _ _ _ _ _ _ _ _ _ _ _ _ _ _ _ _ _ _ _ _ _ _ _ _ _ _ _ _ _ _ _ _ _ _ _ _ _ _ _ _ _ _ _ _ _ _ _ _ _ _ _ _ _ _ _ _ _ _ _ _ _ _ _ _ _ _ _ _ _ _ _ _ _ _ _ _ _ _ _ _ _ _ _ _ _ _ _ _ _ _ _ _ _ _ _ _ _ _ _ _ _ _ _ _ _ _ _ _ _ _ _ _ _ _ _ _ _ _ _ _ _ _ _ _ _ _ _ _ _ _ _ _ _ _ _ _ _ _ _ _ _ _ _ _ _ _ _ _ _ _ _ _ _ _ _ _ _ _ _ _ _ _ _ _ _ _ _ _ _ _ _ _ _ _ _ _ _ _ _ _ _ _ _ _ _ _ _ _ _ _ _ _ _ _ _ _ _ _ _ _ Hr.out Ht.out ⟨Nat.zero_le _, K1.out, Q1.out⟩ (fun v2 v6 v7 v8 v9 v10 v11 v12 v13 v14 v41 v42 v43 v44 v45 v46 v47 v48 v49 v50 v51 v52 v53 v54 v55 v56 v57 v58 v59 v60 v61 v62 v63 v64 v65 v66 v67 v68 v69 v70 v71 v72 v73 v74 v75 v76 v77 v78 v79 v80 v81 v82 v83 v84 v85 v86 v87 v88 v89 v90 v91 v92 v93 v94 v95 v96 v97 v98 v99 v100 v101 v102 v103 v104 v105 v106 v107 v108 v109 v110 v111 v112 v113 v114 v115 v116 v117 v118 v119 v120 v121 v122 v123 v124 v125 v126 v127 v128 v129 v130 v131 v132 v133 v134 v135 v136 v137 v138 v139 v140 v141 v142 v143 v144 v145 v146 v147 v148 v149 v150 v151 v152 v153 v154 v155 v156 v157 v158 v159 v160 v161 v162 v163 v164 v165 v166 v167 v168 i H3 N3 V hI hx => ?_)
  obtain ⟨_, hK, hQ⟩ := hI
  have K2 := Lib.hid hK
  have Q2 := Lib.hid hQ
  clear hK hQ K1 Q1 hx
  go_wp2_with (first
    | ((with_reducible refine (id ?_ : wpList _ _ _ (⟨none, _, _, _, _, _⟩ :: _) _ _)); refine wpList_store_sz rfl 54 _ _ (by rfl) V.heap.size 0 (.agg (suL suZ).toArray) (by rfl) (by rfl) (suL suZ) 54 (heap_alloc_new _ _) (suL suZ) rfl 11 rfl (by kernel_rfl) (Nat.le_refl 11) (suL_one _) (suL suZ) (by rfl) ?_; intro w4 h4 g4 s4
       have B4 := Lib.hid (show Below V.heap.size V w4 from (below1 V _).grown g4 (by simp) (fun j e => by injection e with e; omega))
       have Hb4 := Lib.hid h4
       have hz4 : w4.heap.size = V.heap.size + 1 := s4.trans (by simp)
       clear h4 g4 s4))
  have RS := Lib.hid (rst_new (wS := V) (w := w4.alloc (.cells (rowOf (fun _ => .slice none 0 0) 4).toArray 60)) (N := N3) (B4.out.alloc (by omega) _) ((heap_alloc_old w4 _ (by omega)).trans Hb4.out) (by rw [← hz4]; exact heap_alloc_new w4 _))
  refine sxD (wS := V) (B := w.heap.size) (b := b) (H := H3) (N := N3) _ _ _ _ _ _ _ _ _ _ _ _ _ _ _ _ _ _ _ _ _ _ _ _ _ _ _ _ _ _ _ _ _ _ _ _ _ _ _ _ _ _ _ _ _ _ _ _ _ _ _ _ _ _ _ _ _ _ _ _ _ _ _ _ _ _ _ _ _ _ _ _ _ _ _ _ _ _ _ _ _ _ _ _ _ _ _ _ _ _ _ _ _ _ _ _ _ _ _ _ _ _ _ _ _ _ _ _ _ _ _ _ _ _ _ _ _ _ _ _ _ _ _ _ _ _ _ _ _ _ _ _ _ _ _ _ _ _ _ _ _ _ _ _ _ _ _ _ _ _ _ _ _ _ _ _ _ _ _ _ _ _ _ _ _ _ _ _ _ _ _ _ _ _ _ _ _ _ _ _ _ _ _ _ _ _ _ _ _ _ _ _ _ _ _ _ _ _ _ _ _ _ _ _ _ _ _ _ _ _ _ _ _ _ _ _ _ _ _ _ _ _ _ _ _ _ _ _ _ _ _ _ _ _ _ _ _ _ _ _ _ _ _ _ _ _ _ _ _ _ _ _ _ _ _ _ _ _ _ _ _ _ _ _ _ _ _ _ _ _ _ _ _ _ _ K2.out.bp.at' Q2.out.dn Q2.out.n Q2.out.ok ⟨Nat.zero_le _, RS.out, rfl⟩ (fun v19 v20 v21 v22 v23 v170 v171 v172 v173 v174 v175 v176 v177 v178 v179 v180 v181 v182 v183 v184 v185 v186 v187 v188 v189 v190 v191 v192 v193 v194 v195 v196 v197 v198 v199 v200 v201 v202 v203 v204 v205 v206 v207 v208 v209 v210 d fo F V2 hI hx => ?_)
  subst hx
  have R2 := Lib.hid hI.2.1
  have hfo := hI.2.2
  have K5 := Lib.hid (K2.out.below R2.out.bel)
  have HE := Lib.hid (show bestE N3 = if (bestTo N3 4).g = 0 then 3 else 0 by unfold bestE; rw [if_neg (by rw [Q2.out.dn]; decide), Q2.out.n])
  have CB := Lib.hid (kx_best K5.out Ht.out)
  clear hI RS B4 Hb4 hz4
  by_cases hg : (bestTo N3 4).g = 0
  · have he : bestE N3 = 3 := HE.out.trans (if_pos hg)
    have hfo2 : fo = false := by rw [hfo]; exact decide_eq_false (by simp [hg])
    have hs := bestS_none (N := N3) (by rw [he]; decide)
    have CB := CB.out
    rw [he, hs] at CB
    have CB := Lib.hid CB
    subst hfo2
    clear hfo he hs hg
    go_wp2_with fail
    refine CB.out.mono ?_
    rintro e w5 ⟨v5, s5, hs5, rfl, _, k5, _⟩
    have Hs5 := Lib.hid hs5
    have K6 := Lib.hid k5
    clear hs5 k5 CB
    go_wp2_with (first
      | ((with_reducible refine (id ?_ : wpList _ _ _ (⟨none, _, _, _, _, _⟩ :: _) _ _)); refine wpList_store_blk rfl 32 _ _ (by rfl) w5.heap.size 0 (.agg (suL s5).toArray) (by rfl) (by rfl) (suL suZ) 32 (heap_alloc_new _ _) (suL s5) rfl 11 rfl (by kernel_rfl) (Nat.le_refl 11) (suL_one _) (suL s5) (by rfl) ?_; intro w6 h6 g6
         have F6 := Lib.hid (K6.out.box _ g6 h6).bp.bel
         rw [Hs5.out] at h6
         obtain ⟨t0, t1, t2, t3, t4, t5, t6, t7, t8, t9, t10⟩ : w6.cell? ⟨w5.heap.size, 0, none⟩ = some (.int .i64 0) ∧ w6.cell? ⟨w5.heap.size, 1, none⟩ = some (.int .i64 0) ∧ w6.cell? ⟨w5.heap.size, 2, none⟩ = some (.int .i64 0) ∧ w6.cell? ⟨w5.heap.size, 3, none⟩ = some (.int .i64 0) ∧ w6.cell? ⟨w5.heap.size, 4, none⟩ = some (.int .i64 0) ∧ w6.cell? ⟨w5.heap.size, 5, none⟩ = some (.int .i64 0) ∧ w6.cell? ⟨w5.heap.size, 6, none⟩ = some (.int .i64 0) ∧ w6.cell? ⟨w5.heap.size, 7, none⟩ = some (.bool false) ∧ w6.cell? ⟨w5.heap.size, 8, none⟩ = some (.int .i64 0) ∧ w6.cell? ⟨w5.heap.size, 9, none⟩ = some (.int .i64 0) ∧ w6.cell? ⟨w5.heap.size, 10, none⟩ = some (.int .i64 0) := sat_block h6
         clear h6 g6)
      | (go_at_call 14; refine (wakesSl_any _ (Ht.out.below F6.out Ht.out.pos)).mono ?_; rintro e w7 ⟨rfl, hb7⟩))
    go_ret
    exact ⟨rfl, F6.out.trans (hb7.mono F6.out.size)⟩
  · have he : bestE N3 = 0 := HE.out.trans (if_neg hg)
    have hfo2 : fo = true := by rw [hfo]; exact decide_eq_true hg
    have hs := (bestS_some (N := N3) he).trans (by rw [Q2.out.n])
    have Hl4 := Lib.hid ((has_len he).trans Q2.out.n)
    have Hhb := Lib.hid (show ∀ k, k < 4 → (hasL N3).getD k false = hasB N3 (bestTo N3 4) k from fun k hk => by rw [has_get he (by rw [Q2.out.n]; exact hk), Q2.out.n])
    have CB := CB.out
    rw [he, hs] at CB
    have CB := Lib.hid CB
    subst hfo2
    clear hfo he hs hg
    go_wp2_with fail
    refine CB.out.mono ?_
    rintro e w5 ⟨v5, s5, hs5, rfl, ho5, k5, hb5⟩
    obtain ⟨gh, cap, rfl, hcap, _, hghl, hch⟩ := ho5.form (by rw [Hl4.out]; decide)
    rw [Hl4.out] at hcap hch ⊢
    have Hhas := Lib.hid (show ∀ k, k < 4 → w5.cell? ⟨gh, k, none⟩ = some (.bool (hasB N3 (bestTo N3 4) k)) from fun k hk => (hch k hk).trans (by rw [Hhb.out k hk]))
    have R5 := Lib.hid (R2.out.below hb5)
    have Hs5 := Lib.hid hs5
    have K6 := Lib.hid k5
    have hq := suEq_refl s5
    have c4 : (4 : Int) ≤ (cap : Int) := by omega
    clear hs5 k5 CB ho5 hch hb5
    go_wp2_with (first
      | ((with_reducible refine (id ?_ : wpList _ _ _ (⟨none, _, _, _, _, _⟩ :: _) _ _)); refine wpList_store_blk rfl 32 _ _ (by rfl) w5.heap.size 0 (.agg (suL s5).toArray) (by rfl) (by rfl) (suL suZ) 32 (heap_alloc_new _ _) (suL s5) rfl 11 rfl (by kernel_rfl) (Nat.le_refl 11) (suL_one _) (suL s5) (by rfl) ?_; intro w6 h6 g6
         have F6 := Lib.hid (K6.out.box _ g6 h6).bp.bel
         have b6 : Below w5.heap.size w5 w6 := (below1 w5 _).grown g6 (by simp) (fun j e => by injection e with e; omega)
         have R6 := Lib.hid (show RH V w6 N3 F gh from ⟨R5.out.below b6, fun k hk => (b6.cell (p := ⟨gh, k, none⟩) hghl).trans (Hhas.out k hk)⟩)
         have hbst := R6.out.st.bst
         rw [← Hs5.out] at hbst
         obtain ⟨t0, t1, t2, t3, t4, t5, t6, t7, t8, t9, t10⟩ := sat_block h6
         obtain ⟨r0, r1, r2, r3, r4, r5, r6, r7, r8, r9, r10⟩ := sat_block hbst
         clear h6 g6 b6 hbst))
    refine sxE (wS := V) (N := N3) (F := F) (gh := gh) (cap := cap) _ _ _ _ _ _ _ _ _ _ _ _ _ _ _ _ _ _ _ _ _ _ _ _ _ _ _ _ _ _ _ _ _ _ _ _ _ _ _ _ _ _ _ _ _ _ _ _ _ _ _ _ _ _ _ _ _ _ _ _ _ _ _ _ _ _ _ _ _ _ _ _ _ _ _ _ _ _ _ _ _ _ _ _ _ _ _ _ _ _ _ _ _ _ _ _ _ _ _ _ _ _ _ _ _ _ _ _ _ _ _ _ _ _ _ _ _ _ _ _ _ _ _ _ _ _ _ _ _ _ _ _ _ _ _ _ _ _ _ _ _ _ _ _ _ _ _ _ _ _ _ _ _ _ _ _ _ _ _ _ _ _ _ _ _ _ _ _ _ _ _ _ _ _ _ _ _ _ _ _ _ _ _ _ _ _ _ _ _ _ _ _ _ _ _ _ _ _ _ _ _ _ _ _ _ _ _ _ _ _ _ _ _ _ _ _ _ _ _ _ _ _ _ _ _ _ _ _ _ _ _ _ _ _ _ _ _ _ _ _ _ _ _ _ _ _ _ _ _ _ _ _ _ _ _ _ _ _ _ _ _ _ _ _ _ _ _ _ _ _ _ _ _ _ _ hcap ⟨Nat.zero_le _, R6.out⟩ (fun v2 v27 v28 v30 v244 v245 v246 v247 v248 v249 v250 v251 v252 v253 v254 v255 v256 v257 v258 v259 v260 v261 v262 v263 v264 v265 v266 v267 v268 v269 v270 v271 v272 v273 v274 v275 v276 v277 d V3 hI hx => ?_)
    have F7 := Lib.hid (K2.out.bp.bel.trans (hI.2.st.bel.mono K2.out.bp.bel.size))
    clear hI hx
    go_wp2_with fail
    refine (wakesSl_any _ (Ht.out.below F7.out Ht.out.pos)).mono ?_
    rintro e w7 ⟨rfl, hb7⟩
    have F8 := Lib.hid (F7.out.trans (hb7.mono F7.out.size))
    clear hb7
    go_wp2_with fail
    go_ret
    exact ⟨rfl, F8.out⟩
end Go.Proofs.YtiipdhmfdgbmiaaDoor
