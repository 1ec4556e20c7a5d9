/- RecordTells walked. -/
import Derived.Test.YtfgiomidlfoonaaDoorRecKit
import Derived.Test.YtfgiomidlfoonaaDoorRefRecEnc
set_option linter.unusedVariables false
set_option linter.unusedSimpArgs false
namespace Go.Proofs.YtfgiomidlfoonaaDoor
open Go.RowKit

noncomputable def codeRT : Code := Tryd.f4.body.getD .skip
set_option maxRecDepth 100000 in
set_option maxHeartbeats 3200000 in
theorem rtRb {V0 : World} {A1 A2 : Option Addr} {n c1 c2 : Nat} {rs : List (List UInt8)} {j : Nat} {w : World} (u0 u1 u2 u3 u4 u5 u7 u9 u11 u12 u13 u14 u15 u16 u17 u18 u19 u20 u21 u22 u23 u24 u25 u26 u27 u28 u29 u30 u31 u32 u33 u34 u35 u36 u37 u38 u39 u40 u41 u42 u43 u44 u45 u46 u47 u48 u49 u50 u53 u54 u55 u56 u57 u58 u59 u60 u61 u62 u63 u64 u65 u66 : Value) (K : Act → World → Prop) (Q0 : Exit → Act → World → Prop) (h1 : RdR V0 V0.heap.size A1 rs) (h2 : RdR V0 V0.heap.size A2 rs) (hn : rs.length = n) (hI : (j ≤ n ∧ Below V0.heap.size V0 w))
    (hK : ∀ (v13 v53 v54 v55 v56 v57 v58 v59 v60 v61 v62 v63 v64 v65 : Value)  (V : World), ((j + 1) ≤ n ∧ Below V0.heap.size V0 V) → n - (j + 1) < n - j → K ⟨List.toArray (u0 :: u1 :: u2 :: u3 :: u4 :: u5 :: (.bool false) :: u7 :: (.slice A1 n c1) :: u9 :: (.slice A2 n c2) :: u11 :: u12 :: v13 :: u14 :: u15 :: u16 :: u17 :: u18 :: u19 :: u20 :: u21 :: u22 :: u23 :: u24 :: u25 :: u26 :: u27 :: u28 :: u29 :: u30 :: u31 :: u32 :: u33 :: u34 :: u35 :: u36 :: u37 :: u38 :: u39 :: u40 :: u41 :: u42 :: u43 :: u44 :: u45 :: u46 :: u47 :: u48 :: u49 :: u50 :: (.int .i64 (n : Int)) :: (.int .i64 (((j + 1) : Nat) : Int)) :: v53 :: v54 :: v55 :: v56 :: v57 :: v58 :: v59 :: v60 :: v61 :: v62 :: v63 :: v64 :: v65 :: u66 :: []), []⟩ V)
    (hX : ∀ (v13 v53 v54 v55 v56 v57 v58 v59 v60 v61 v62 v63 v64 v65 : Value), (True) → Q0 (.exit 0) ⟨List.toArray (u0 :: u1 :: u2 :: u3 :: u4 :: u5 :: (.bool false) :: u7 :: (.slice A1 n c1) :: u9 :: (.slice A2 n c2) :: u11 :: u12 :: v13 :: u14 :: u15 :: u16 :: u17 :: u18 :: u19 :: u20 :: u21 :: u22 :: u23 :: u24 :: u25 :: u26 :: u27 :: u28 :: u29 :: u30 :: u31 :: u32 :: u33 :: u34 :: u35 :: u36 :: u37 :: u38 :: u39 :: u40 :: u41 :: u42 :: u43 :: u44 :: u45 :: u46 :: u47 :: u48 :: u49 :: u50 :: (.int .i64 (n : Int)) :: (.int .i64 ((j : Nat) : Int)) :: v53 :: v54 :: v55 :: v56 :: v57 :: v58 :: v59 :: v60 :: v61 :: v62 :: v63 :: v64 :: v65 :: u66 :: []), []⟩ w) :
    Code.wp Tryd.prog (sub [1, 1, 1, 1, 1, 1, 1, 0, 1, 0, 0] codeRT) (Exit.then K Q0) ⟨List.toArray (u0 :: u1 :: u2 :: u3 :: u4 :: u5 :: (.bool false) :: u7 :: (.slice A1 n c1) :: u9 :: (.slice A2 n c2) :: u11 :: u12 :: u13 :: u14 :: u15 :: u16 :: u17 :: u18 :: u19 :: u20 :: u21 :: u22 :: u23 :: u24 :: u25 :: u26 :: u27 :: u28 :: u29 :: u30 :: u31 :: u32 :: u33 :: u34 :: u35 :: u36 :: u37 :: u38 :: u39 :: u40 :: u41 :: u42 :: u43 :: u44 :: u45 :: u46 :: u47 :: u48 :: u49 :: u50 :: (.int .i64 (n : Int)) :: (.int .i64 ((j : Nat) : Int)) :: u53 :: u54 :: u55 :: u56 :: u57 :: u58 :: u59 :: u60 :: u61 :: u62 :: u63 :: u64 :: u65 :: u66 :: []), []⟩ w := by
  have HK := Lib.hid hK
  have HX := Lib.hid hX
  clear hK hX
  conv => arg 2; whnf
  obtain ⟨hj, hB⟩ := hI
  by_cases hlt : j < n
  · obtain ⟨g, off, rfl, hg, hc⟩ := (h1.below hB (Nat.le_refl _)).2 (by omega)
    obtain ⟨D, cd, e1, hrd⟩ := hc j (by omega)
    obtain ⟨g2, off2, rfl, hg2, hc2⟩ := (h2.below hB (Nat.le_refl _)).2 (by omega)
    obtain ⟨D2, cd2, e2, hrd2⟩ := hc2 j (by omega)
    have CS := Lib.hid (fun k => Calls.quiet_of (same_any D D2 (rs.getD j []).length (rs.getD j []).length cd cd2 V0.heap.size (rs.getD j []) (rs.getD j []) (w.drewN k) rfl rfl ((hrd.below (belowN _ _ k) (Nat.le_refl _))) ((hrd2.below (belowN _ _ k) (Nat.le_refl _)))))
    rw [decide_eq_true (rfl : rs.getD j [] = rs.getD j [])] at CS
    generalize (rs.getD j []).length = m at e1 e2 CS
    generalize rs.getD j [] = y at CS
    have HB := Lib.hid hB
    have k0 : (0 : Int) ≤ (j : Int) := by omega
    have k1 : (j : Int) < (n : Int) := by omega
    have k2 : (n : Int) ≤ 140737488355328 := by have := h1.1; omega
    clear h1 h2 hn hB hc hc2 hrd hrd2 HX
    go_wp2_with fail
    go_quiet ((go_at_call 10; exact CS.out _))
    go_wp2_with fail
    exact HK.out _ _ _ _ _ _ _ _ _ _ _ _ _ _ _ ⟨by omega, HB.out.trans (belowN _ _ nq)⟩ (by omega)
  · have k1 : ¬ (j : Int) < (n : Int) := by omega
    clear HK h1 h2 hn hB
    go_wp2_with fail
    exact HX.out _ _ _ _ _ _ _ _ _ _ _ _ _ _ (by trivial)
set_option maxRecDepth 100000 in
set_option maxHeartbeats 3200000 in
theorem rtR {V0 : World} {A1 A2 : Option Addr} {n c1 c2 : Nat} {rs : List (List UInt8)}  {w : World} (u0 u1 u2 u3 u4 u5 u7 u9 u11 u12 u13 u14 u15 u16 u17 u18 u19 u20 u21 u22 u23 u24 u25 u26 u27 u28 u29 u30 u31 u32 u33 u34 u35 u36 u37 u38 u39 u40 u41 u42 u43 u44 u45 u46 u47 u48 u49 u50 u53 u54 u55 u56 u57 u58 u59 u60 u61 u62 u63 u64 u65 u66 : Value) (Q : Exit → Act → World → Prop) (h1 : RdR V0 V0.heap.size A1 rs) (h2 : RdR V0 V0.heap.size A2 rs) (hn : rs.length = n) (hI : (0 ≤ n ∧ Below V0.heap.size V0 w))
    (hX : ∀ (v13 v53 v54 v55 v56 v57 v58 v59 v60 v61 v62 v63 v64 v65 : Value) (j : Nat) (V : World), (j ≤ n ∧ Below V0.heap.size V0 V) → (True) → Q (.exit 0) ⟨List.toArray (u0 :: u1 :: u2 :: u3 :: u4 :: u5 :: (.bool false) :: u7 :: (.slice A1 n c1) :: u9 :: (.slice A2 n c2) :: u11 :: u12 :: v13 :: u14 :: u15 :: u16 :: u17 :: u18 :: u19 :: u20 :: u21 :: u22 :: u23 :: u24 :: u25 :: u26 :: u27 :: u28 :: u29 :: u30 :: u31 :: u32 :: u33 :: u34 :: u35 :: u36 :: u37 :: u38 :: u39 :: u40 :: u41 :: u42 :: u43 :: u44 :: u45 :: u46 :: u47 :: u48 :: u49 :: u50 :: (.int .i64 (n : Int)) :: (.int .i64 ((j : Nat) : Int)) :: v53 :: v54 :: v55 :: v56 :: v57 :: v58 :: v59 :: v60 :: v61 :: v62 :: v63 :: v64 :: v65 :: u66 :: []), []⟩ V) :
    Code.wp Tryd.prog (.loop (sub [1, 1, 1, 1, 1, 1, 1, 0, 1, 0, 0] codeRT)) Q ⟨List.toArray (u0 :: u1 :: u2 :: u3 :: u4 :: u5 :: (.bool false) :: u7 :: (.slice A1 n c1) :: u9 :: (.slice A2 n c2) :: u11 :: u12 :: u13 :: u14 :: u15 :: u16 :: u17 :: u18 :: u19 :: u20 :: u21 :: u22 :: u23 :: u24 :: u25 :: u26 :: u27 :: u28 :: u29 :: u30 :: u31 :: u32 :: u33 :: u34 :: u35 :: u36 :: u37 :: u38 :: u39 :: u40 :: u41 :: u42 :: u43 :: u44 :: u45 :: u46 :: u47 :: u48 :: u49 :: u50 :: (.int .i64 (n : Int)) :: (.int .i64 ((0 : Nat) : Int)) :: u53 :: u54 :: u55 :: u56 :: u57 :: u58 :: u59 :: u60 :: u61 :: u62 :: u63 :: u64 :: u65 :: u66 :: []), []⟩ w := by
  refine wp_loop_ghost (fun gk a V => ∀ C : Prop, (∀ (u13 u53 u54 u55 u56 u57 u58 u59 u60 u61 u62 u63 u64 u65 : Value) (j : Nat), gk = n - j → (j ≤ n ∧ Below V0.heap.size V0 V) → a = ⟨List.toArray (u0 :: u1 :: u2 :: u3 :: u4 :: u5 :: (.bool false) :: u7 :: (.slice A1 n c1) :: u9 :: (.slice A2 n c2) :: u11 :: u12 :: u13 :: u14 :: u15 :: u16 :: u17 :: u18 :: u19 :: u20 :: u21 :: u22 :: u23 :: u24 :: u25 :: u26 :: u27 :: u28 :: u29 :: u30 :: u31 :: u32 :: u33 :: u34 :: u35 :: u36 :: u37 :: u38 :: u39 :: u40 :: u41 :: u42 :: u43 :: u44 :: u45 :: u46 :: u47 :: u48 :: u49 :: u50 :: (.int .i64 (n : Int)) :: (.int .i64 ((j : Nat) : Int)) :: u53 :: u54 :: u55 :: u56 :: u57 :: u58 :: u59 :: u60 :: u61 :: u62 :: u63 :: u64 :: u65 :: u66 :: []), []⟩ → C) → C) (n - 0) ?_ ?_
  · intro C hC
    exact hC _ _ _ _ _ _ _ _ _ _ _ _ _ _ (0) rfl hI rfl
  · intro gk a V hI'
    refine hI' _ ?_
    intro u13 u53 u54 u55 u56 u57 u58 u59 u60 u61 u62 u63 u64 u65 j hk hinv ha
    subst ha
    subst hk
    refine rtRb _ _ _ _ _ _ _ _ _ _ _ _ _ _ _ _ _ _ _ _ _ _ _ _ _ _ _ _ _ _ _ _ _ _ _ _ _ _ _ _ _ _ _ _ _ _ _ _ _ _ _ _ _ _ _ _ _ _ _ _ _ _ _ _ h1 h2 hn hinv (fun v13 v53 v54 v55 v56 v57 v58 v59 v60 v61 v62 v63 v64 v65  V2 h2 hm => ?_) (fun v13 v53 v54 v55 v56 v57 v58 v59 v60 v61 v62 v63 v64 v65 hx => hX v13 v53 v54 v55 v56 v57 v58 v59 v60 v61 v62 v63 v64 v65 j V hinv hx)
    refine ⟨_, hm, fun C hC => ?_⟩
    exact hC v13 v53 v54 v55 v56 v57 v58 v59 v60 v61 v62 v63 v64 v65 ((j + 1)) rfl h2 rfl
set_option maxRecDepth 100000 in
set_option maxHeartbeats 8000000 in
theorem recordtells (seq : Int) (A : Option Addr) (l : List Int) (cl : Nat) (how : Int) (w : World) (hseq : (-9223372036854775808 ≤ seq ∧ seq ≤ 9223372036854775807)) (_ : l.length ≤ cl) (hz : RdZ w w.heap.size A l) (hhow : (-9223372036854775808 ≤ how ∧ how ≤ 9223372036854775807)) (ht : TabOk w) :
    Calls Tryd.prog 4 #[.int .i64 seq, .slice A l.length cl, .int .i64 how] w fun e w' => e = .returned (.bool true) ∧ Below w.heap.size w w' := by
  have CO := Lib.hid (of_any seq how A l cl w hseq hhow hz)
  have Ht := Lib.hid ht
  have hw0 : 0 < w.heap.size := ht.pos
  have Wk := Lib.hid (fun W (hW : Below w.heap.size w W) => wakesRec_any W (Ht.out.below hW hw0))
  clear hseq hz hhow ht
  go_enter Tryd.func4, Tryd.ntmps4
  go_wp2_with fail
  (with_reducible refine CO.out.mono ?_); rintro e w1 ⟨s, L, B, cb, rfl, hs64, h64, hl6, ho1, hb1⟩
  obtain ⟨_, hlc, hr1⟩ := ho1.rdc
  have HR2 := Lib.hid (hr1.later (below1 w1 (.cells #[.int .i64 s, .slice B L.length cb] 32)))
  have HB2 := Lib.hid (rxb_new w1 s B L.length cb 32)
  have F2 := Lib.hid (hb1.trans ((below1 w1 (.cells #[.int .i64 s, .slice B L.length cb] 32)).mono hb1.size))
  have H64 := Lib.hid h64
  obtain ⟨W2, hW2⟩ : ∃ W, w1.alloc (.cells #[.int .i64 s, .slice B L.length cb] 32) = W := ⟨_, rfl⟩
  rw [hW2] at HR2 HB2 F2
  clear CO hb1 ho1 hr1 h64
  obtain ⟨q0, q1⟩ := HB2.out
  cases hok : recOk s L
  · have CN := Lib.hid (encode_no B L.length cb s L W2 rfl hlc hs64 HR2.out.rdi H64.out (Lib.hid hok))
    go_wp2_with fail
    (with_reducible refine CN.out.mono ?_); rintro e w3 ⟨rfl, hb3⟩
    have F3 := Lib.hid (F2.out.trans (hb3.mono F2.out.size))
    have HB3 := Lib.hid (HB2.out.below hb3)
    have HR3 := Lib.hid (HR2.out.later hb3)
    clear hb3 CN HR2 HB2 q0 q1
    have CR := Lib.hid (fun V (hV : Below w3.heap.size w3 V) => refRecs_any B L.length cb L V rfl (by omega) (HR3.out.later hV))
    go_wp2_with fail
    refine wp_region_noPanic (region_ord 11 [] (fun V => Below w3.heap.size w3 V) (by kernel_rfl) (by kernel_rfl) (fun _ _ _ _ _ h => h) fun R => ?_)
    change anyI _ _ _ _ _ _ 11 _ _ w3.drew
    have HS0 := Lib.hid (show (fun V => Below w3.heap.size w3 V) w3.drew from (Below.refl _ _).drew)
    refine' anyI_take R 0 rfl (v := ?_) (by kernel_rfl) (by rfl) (fun V hV => ?hy) HS0.out ?_
    case hy => ((try dsimp only at hV);  have q := HB3.out.below hV; have p0 := q.1; have p1 := q.2; clear q; go_simp; try with_reducible rfl)
    try simp only [Act.put, List.getElem_toArray, List.getElem_cons_succ, List.getElem_cons_zero, List.setIfInBounds_toArray, List.set_cons_zero, List.set_cons_succ]
    refine' anyI_take R 1 rfl (v := ?_) (by kernel_rfl) (by rfl) (fun V hV => ?hy) HS0.out ?_
    case hy => ((try dsimp only at hV);  have q := HB3.out.below hV; have p0 := q.1; have p1 := q.2; clear q; go_simp; try with_reducible rfl)
    try simp only [Act.put, List.getElem_toArray, List.getElem_cons_succ, List.getElem_cons_zero, List.setIfInBounds_toArray, List.set_cons_zero, List.set_cons_succ]
    refine' anyI_take R 2 rfl (v := ?_) (by kernel_rfl) (by rfl) (fun V hV => ?hy) HS0.out ?_
    case hy => ((try dsimp only at hV);  have q := HB3.out.below hV; have p0 := q.1; have p1 := q.2; clear q; go_simp; try with_reducible rfl)
    try simp only [Act.put, List.getElem_toArray, List.getElem_cons_succ, List.getElem_cons_zero, List.setIfInBounds_toArray, List.set_cons_zero, List.set_cons_succ]
    refine' anyI_take R 3 rfl (v := ?_) (by kernel_rfl) (by rfl) (fun V hV => ?hy) HS0.out ?_
    case hy => ((try dsimp only at hV);  have q := HB3.out.below hV; have p0 := q.1; have p1 := q.2; clear q; go_simp; try with_reducible rfl)
    try simp only [Act.put, List.getElem_toArray, List.getElem_cons_succ, List.getElem_cons_zero, List.setIfInBounds_toArray, List.set_cons_zero, List.set_cons_succ]
    refine anyI_one 4 (by kernel_rfl) rfl ?_
    try simp only [List.getElem_toArray, List.getElem_cons_succ, List.getElem_cons_zero]
    refine opE_step ?_
    rw [if_pos (by rfl)]
    go_simp
    go_at_call 17
    refine (CR.out _ HS0.out).mono ?_
    rintro e wr ⟨vr, rfl, Or, hbr⟩
    obtain ⟨Ar, cr, rfl, hcr, rdr⟩ := Or.rd
    have HRr := Lib.hid rdr
    replace HS0 := Lib.hid (HS0.out.trans (hbr.mono HS0.out.size))
    clear hbr Or rdr
    try dsimp only
    refine ⟨HS0.out, ?_⟩
    try simp only [Act.put, List.getElem_toArray, List.getElem_cons_succ, List.getElem_cons_zero, List.setIfInBounds_toArray, List.set_cons_zero, List.set_cons_succ]
    refine anyI_one 5 (by kernel_rfl) rfl ?_
    try simp only [List.getElem_toArray, List.getElem_cons_succ, List.getElem_cons_zero]
    refine opE_step ?_
    rw [if_pos (by rfl)]
    go_simp
    go_at_call 16
    refine (refEncRec_no Ar L.length cr s L wr rfl hcr hs64 HRr.out (Lib.hid hok)).mono ?_
    rintro e we ⟨rfl, hbe⟩
    replace HS0 := Lib.hid (HS0.out.trans (hbe.mono HS0.out.size))
    clear hbe HRr
    try dsimp only
    refine ⟨HS0.out, ?_⟩
    try simp only [Act.put, List.getElem_toArray, List.getElem_cons_succ, List.getElem_cons_zero, List.setIfInBounds_toArray, List.set_cons_zero, List.set_cons_succ]
    refine' anyI_take R 6 rfl (v := ?_) (by kernel_rfl) (by rfl) (fun V hV => ?hy) HS0.out ?_
    case hy => ((try dsimp only at hV);  have q := HB3.out.below hV; have p0 := q.1; have p1 := q.2; clear q; go_simp; try with_reducible rfl)
    try simp only [Act.put, List.getElem_toArray, List.getElem_cons_succ, List.getElem_cons_zero, List.setIfInBounds_toArray, List.set_cons_zero, List.set_cons_succ]
    refine' anyI_take R 7 rfl (v := ?_) (by kernel_rfl) (by rfl) (fun V hV => ?hy) HS0.out ?_
    case hy => ((try dsimp only at hV);  have q := HB3.out.below hV; have p0 := q.1; have p1 := q.2; clear q; go_simp; try with_reducible rfl)
    try simp only [Act.put, List.getElem_toArray, List.getElem_cons_succ, List.getElem_cons_zero, List.setIfInBounds_toArray, List.set_cons_zero, List.set_cons_succ]
    refine' anyI_take R 8 rfl (v := ?_) (by kernel_rfl) (by rfl) (fun V hV => ?hy) HS0.out ?_
    case hy => ((try dsimp only at hV);  have q := HB3.out.below hV; have p0 := q.1; have p1 := q.2; clear q; go_simp; try with_reducible rfl)
    try simp only [Act.put, List.getElem_toArray, List.getElem_cons_succ, List.getElem_cons_zero, List.setIfInBounds_toArray, List.set_cons_zero, List.set_cons_succ]
    refine' anyI_take R 9 rfl (v := ?_) (by kernel_rfl) (by rfl) (fun V hV => ?hy) HS0.out ?_
    case hy => ((try dsimp only at hV);  have q := HB3.out.below hV; have p0 := q.1; have p1 := q.2; clear q; go_simp; try with_reducible rfl)
    try simp only [Act.put, List.getElem_toArray, List.getElem_cons_succ, List.getElem_cons_zero, List.setIfInBounds_toArray, List.set_cons_zero, List.set_cons_succ]
    refine' anyI_take R 10 rfl (v := ?_) (by kernel_rfl) (by rfl) (fun V hV => ?hy) HS0.out ?_
    case hy => ((try dsimp only at hV);  have q := HB3.out.below hV; have p0 := q.1; have p1 := q.2; clear q; go_simp; try with_reducible rfl)
    try simp only [Act.put, List.getElem_toArray, List.getElem_cons_succ, List.getElem_cons_zero, List.setIfInBounds_toArray, List.set_cons_zero, List.set_cons_succ]
    refine anyI_tail (by kernel_rfl) ?_
    try simp only [List.drop_succ_cons, List.drop_zero]
    clear R
    go_wp2_with fail
    refine NoPanic.normal ?_
    have F5 := Lib.hid (F3.out.trans (HS0.out.mono F3.out.size))
    have HB5 := Lib.hid (HB3.out.below HS0.out)
    have CC := Lib.hid (check_no B L.length cb s L we rfl hlc hs64 (HR3.out.later HS0.out).rdi H64.out (Lib.hid hok))
    obtain ⟨q0, q1⟩ := HB5.out
    clear hok HS0 HR3 HB3 CR
    go_wp2_with fail
    (with_reducible refine CC.out.mono ?_); rintro e w6 ⟨rfl, hb6⟩
    have F6 := Lib.hid (F5.out.trans (hb6.mono F5.out.size))
    clear hb6 CC q0 q1
    go_upto_block 0 with fail
    refine wp_block ?_
    refine rtR _ _ _ _ _ _ _ _ _ _ _ _ _ _ _ _ _ _ _ _ _ _ _ _ _ _ _ _ _ _ _ _ _ _ _ _ _ _ _ _ _ _ _ _ _ _ _ _ _ _ _ _ _ _ _ _ _ _ _ _ _ _ _ (rs := []) (n := 0) (c1 := 0) (c2 := 0) (A1 := none) (A2 := none) ⟨by simp, fun h => by simp at h⟩ ⟨by simp, fun h => by simp at h⟩ rfl ⟨Nat.le_refl _, Below.refl _ _⟩ (fun v13 v53 v54 v55 v56 v57 v58 v59 v60 v61 v62 v63 v64 v65 j V hI hx => ?_)
    have F7 := Lib.hid (F6.out.trans (hI.2.mono F6.out.size))
    clear hI hx
    go_wp2_with fail
    (with_reducible refine (Wk.out _ F7.out).mono ?_); rintro e w8 ⟨rfl, hb8⟩
    go_wp2_with fail
    go_ret
    exact ⟨rfl, F7.out.trans (hb8.mono F7.out.size)⟩
  · have CY := Lib.hid (encode_yes B L.length cb s L W2 rfl hlc hs64 HR2.out.rdi H64.out (Lib.hid hok) (Ht.out.below F2.out hw0))
    have HOK := Lib.hid hok
    have HLn := Lib.hid (recB_len (s := s) ((recOk_iff s L).1 hok).1.2.2)
    clear hok
    have HOK : Hid (Hid (recOk s L = true)) := Lib.hid HOK
    go_wp2_with fail
    (with_reducible refine CY.out.mono ?_); rintro e w3 ⟨g, bk, rfl, hp3, hb3⟩
    have F3 := Lib.hid (F2.out.trans (hb3.mono F2.out.size))
    have HB3 := Lib.hid (HB2.out.below hb3)
    have HR3 := Lib.hid (HR2.out.later hb3)
    have HP3 := Lib.hid hp3
    clear hb3 CY HR2 HB2 q0 q1 hp3
    have CR := Lib.hid (fun V (hV : Below w3.heap.size w3 V) => refRecs_any B L.length cb L V rfl (by omega) (HR3.out.later hV))
    go_wp2_with fail
    refine wp_region_noPanic (region_ord 11 [] (fun V => Below w3.heap.size w3 V) (by kernel_rfl) (by kernel_rfl) (fun _ _ _ _ _ h => h) fun R => ?_)
    change anyI _ _ _ _ _ _ 11 _ _ w3.drew
    have HS0 := Lib.hid (show (fun V => Below w3.heap.size w3 V) w3.drew from (Below.refl _ _).drew)
    refine' anyI_take R 0 rfl (v := ?_) (by kernel_rfl) (by rfl) (fun V hV => ?hy) HS0.out ?_
    case hy => ((try dsimp only at hV);  have q := HB3.out.below hV; have p0 := q.1; have p1 := q.2; clear q; go_simp; try with_reducible rfl)
    try simp only [Act.put, List.getElem_toArray, List.getElem_cons_succ, List.getElem_cons_zero, List.setIfInBounds_toArray, List.set_cons_zero, List.set_cons_succ]
    refine' anyI_take R 1 rfl (v := ?_) (by kernel_rfl) (by rfl) (fun V hV => ?hy) HS0.out ?_
    case hy => ((try dsimp only at hV);  have q := HB3.out.below hV; have p0 := q.1; have p1 := q.2; clear q; go_simp; try with_reducible rfl)
    try simp only [Act.put, List.getElem_toArray, List.getElem_cons_succ, List.getElem_cons_zero, List.setIfInBounds_toArray, List.set_cons_zero, List.set_cons_succ]
    refine' anyI_take R 2 rfl (v := ?_) (by kernel_rfl) (by rfl) (fun V hV => ?hy) HS0.out ?_
    case hy => ((try dsimp only at hV);  have q := HB3.out.below hV; have p0 := q.1; have p1 := q.2; clear q; go_simp; try with_reducible rfl)
    try simp only [Act.put, List.getElem_toArray, List.getElem_cons_succ, List.getElem_cons_zero, List.setIfInBounds_toArray, List.set_cons_zero, List.set_cons_succ]
    refine' anyI_take R 3 rfl (v := ?_) (by kernel_rfl) (by rfl) (fun V hV => ?hy) HS0.out ?_
    case hy => ((try dsimp only at hV);  have q := HB3.out.below hV; have p0 := q.1; have p1 := q.2; clear q; go_simp; try with_reducible rfl)
    try simp only [Act.put, List.getElem_toArray, List.getElem_cons_succ, List.getElem_cons_zero, List.setIfInBounds_toArray, List.set_cons_zero, List.set_cons_succ]
    refine anyI_one 4 (by kernel_rfl) rfl ?_
    try simp only [List.getElem_toArray, List.getElem_cons_succ, List.getElem_cons_zero]
    refine opE_step ?_
    rw [if_pos (by rfl)]
    go_simp
    go_at_call 17
    refine (CR.out _ HS0.out).mono ?_
    rintro e wr ⟨vr, rfl, Or, hbr⟩
    obtain ⟨Ar, cr, rfl, hcr, rdr⟩ := Or.rd
    have HRr := Lib.hid rdr
    replace HS0 := Lib.hid (HS0.out.trans (hbr.mono HS0.out.size))
    clear hbr Or rdr
    try dsimp only
    refine ⟨HS0.out, ?_⟩
    try simp only [Act.put, List.getElem_toArray, List.getElem_cons_succ, List.getElem_cons_zero, List.setIfInBounds_toArray, List.set_cons_zero, List.set_cons_succ]
    refine anyI_one 5 (by kernel_rfl) rfl ?_
    try simp only [List.getElem_toArray, List.getElem_cons_succ, List.getElem_cons_zero]
    refine opE_step ?_
    rw [if_pos (by rfl)]
    go_simp
    go_at_call 16
    refine (refEncRec_yes Ar L.length cr s L wr rfl hcr hs64 HRr.out HOK.out).mono ?_
    rintro e we ⟨gr, capr, bkr, cpr, rfl, Rr, hbe⟩
    have HRw := Lib.hid Rr
    replace HS0 := Lib.hid (HS0.out.trans (hbe.mono HS0.out.size))
    clear hbe HRr Rr
    try dsimp only
    refine ⟨HS0.out, ?_⟩
    try simp only [Act.put, List.getElem_toArray, List.getElem_cons_succ, List.getElem_cons_zero, List.setIfInBounds_toArray, List.set_cons_zero, List.set_cons_succ]
    refine' anyI_take R 6 rfl (v := ?_) (by kernel_rfl) (by rfl) (fun V hV => ?hy) HS0.out ?_
    case hy => ((try dsimp only at hV);  have q := HB3.out.below hV; have p0 := q.1; have p1 := q.2; clear q; go_simp; try with_reducible rfl)
    try simp only [Act.put, List.getElem_toArray, List.getElem_cons_succ, List.getElem_cons_zero, List.setIfInBounds_toArray, List.set_cons_zero, List.set_cons_succ]
    refine' anyI_take R 7 rfl (v := ?_) (by kernel_rfl) (by rfl) (fun V hV => ?hy) HS0.out ?_
    case hy => ((try dsimp only at hV);  have q := HB3.out.below hV; have p0 := q.1; have p1 := q.2; clear q; go_simp; try with_reducible rfl)
    try simp only [Act.put, List.getElem_toArray, List.getElem_cons_succ, List.getElem_cons_zero, List.setIfInBounds_toArray, List.set_cons_zero, List.set_cons_succ]
    refine' anyI_take R 8 rfl (v := ?_) (by kernel_rfl) (by rfl) (fun V hV => ?hy) HS0.out ?_
    case hy => ((try dsimp only at hV);  have q := HB3.out.below hV; have p0 := q.1; have p1 := q.2; clear q; go_simp; try with_reducible rfl)
    try simp only [Act.put, List.getElem_toArray, List.getElem_cons_succ, List.getElem_cons_zero, List.setIfInBounds_toArray, List.set_cons_zero, List.set_cons_succ]
    refine' anyI_take R 9 rfl (v := ?_) (by kernel_rfl) (by rfl) (fun V hV => ?hy) HS0.out ?_
    case hy => ((try dsimp only at hV);  have q := HB3.out.below hV; have p0 := q.1; have p1 := q.2; clear q; go_simp; try with_reducible rfl)
    try simp only [Act.put, List.getElem_toArray, List.getElem_cons_succ, List.getElem_cons_zero, List.setIfInBounds_toArray, List.set_cons_zero, List.set_cons_succ]
    refine' anyI_take R 10 rfl (v := ?_) (by kernel_rfl) (by rfl) (fun V hV => ?hy) HS0.out ?_
    case hy => ((try dsimp only at hV);  have q := HB3.out.below hV; have p0 := q.1; have p1 := q.2; clear q; go_simp; try with_reducible rfl)
    try simp only [Act.put, List.getElem_toArray, List.getElem_cons_succ, List.getElem_cons_zero, List.setIfInBounds_toArray, List.set_cons_zero, List.set_cons_succ]
    refine anyI_tail (by kernel_rfl) ?_
    try simp only [List.drop_succ_cons, List.drop_zero]
    clear R
    go_wp2_with fail
    refine NoPanic.normal ?_
    have F5 := Lib.hid (F3.out.trans (HS0.out.mono F3.out.size))
    have HB5 := Lib.hid (HB3.out.below HS0.out)
    have HP5 := Lib.hid (HP3.out.below HS0.out)
    have CC := Lib.hid (check_yes B L.length cb s L we rfl hlc hs64 (HR3.out.later HS0.out).rdi H64.out HOK.out)
    obtain ⟨q0, q1⟩ := HB5.out
    clear HS0 HR3 HB3 CR HP3
    go_wp2_with fail
    (with_reducible refine CC.out.mono ?_); rintro e w6 ⟨rfl, hb6⟩
    have F6 := Lib.hid (F5.out.trans (hb6.mono F5.out.size))
    have HP6 := Lib.hid (HP5.out.below hb6)
    have HW6 := Lib.hid (HRw.out.below hb6)
    clear hb6 CC q0 q1 HP5 HRw
    go_upto_block 0 with fail
    refine wp_block ?_
    refine rtR _ _ _ _ _ _ _ _ _ _ _ _ _ _ _ _ _ _ _ _ _ _ _ _ _ _ _ _ _ _ _ _ _ _ _ _ _ _ _ _ _ _ _ _ _ _ _ _ _ _ _ _ _ _ _ _ _ _ _ _ _ _ _ (n := 4) HP6.out.rdr HW6.out.rdc.rdr HLn.out ⟨Nat.zero_le _, Below.refl _ _⟩ (fun v13 v53 v54 v55 v56 v57 v58 v59 v60 v61 v62 v63 v64 v65 j V hI hx => ?_)
    have F7 := Lib.hid (F6.out.trans (hI.2.mono F6.out.size))
    clear hI hx HP6 HW6
    go_wp2_with fail
    (with_reducible refine (Wk.out _ F7.out).mono ?_); rintro e w8 ⟨rfl, hb8⟩
    go_wp2_with fail
    go_ret
    exact ⟨rfl, F7.out.trans (hb8.mono F7.out.size)⟩
end Go.Proofs.YtfgiomidlfoonaaDoor
