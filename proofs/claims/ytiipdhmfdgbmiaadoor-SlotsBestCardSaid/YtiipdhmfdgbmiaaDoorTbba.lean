/- Texts put together: SlotBestLoops, SlotBest. -/
import Derived.Test.YtiipdhmfdgbmiaaDoorTbaz
section
set_option linter.unusedVariables false
set_option linter.unusedSimpArgs false
namespace Go.Proofs.YtiipdhmfdgbmiaaDoor
open Go.RowKit

noncomputable def codeSB : Code := Tryd.f11.body.getD .skip
set_option maxRecDepth 100000 in
set_option maxHeartbeats 3200000 in
theorem sbJb {w0 : World} {N : Bch} {F : Nat → Value} {i : Nat} {s0 : Su} {P : Option Addr} {pc : Nat} {l : List Su} {j : Nat} {w : World} (u0 u1 u2 u3 u4 u5 u7 u8 u9 u10 u11 u12 u13 u14 u15 u16 u17 u18 u19 u20 u21 u22 u23 u24 u25 u26 u27 u28 u29 u30 u31 u32 u33 u34 u35 u39 u40 u41 u42 u43 u44 u45 u46 u47 u48 u49 u50 u51 u52 u53 u54 u55 u56 u57 u58 u59 u60 u61 u62 u63 u64 u65 u66 u67 u68 u69 u70 u71 u72 : Value) (K : Act → World → Prop) (Q0 : Exit → Act → World → Prop) (hF : F i = .slice P l.length pc) (hl : dskSu (N.D i) = l) (hl2 : l.length ≤ 2000000) (hI : (j ≤ l.length ∧ BSt w0 w N F (i + 1) ((l.take j).foldl pickS s0)))
    (hK : ∀ (v9 v39 v40 v41 v42 v43 v44 v45 v46 v47 v48 : Value)  (V : World), ((j + 1) ≤ l.length ∧ BSt w0 V N F (i + 1) ((l.take (j + 1)).foldl pickS s0)) → l.length - (j + 1) < l.length - j → K ⟨List.toArray (u0 :: u1 :: u2 :: u3 :: u4 :: u5 :: (.pointer (some ⟨w0.heap.size + 2, 0, none⟩)) :: u7 :: u8 :: v9 :: u10 :: u11 :: u12 :: u13 :: u14 :: u15 :: u16 :: u17 :: u18 :: u19 :: u20 :: u21 :: u22 :: u23 :: u24 :: u25 :: u26 :: u27 :: u28 :: u29 :: u30 :: u31 :: u32 :: u33 :: u34 :: u35 :: (.slice P l.length pc) :: (.int .i64 ((l.length : Nat) : Int)) :: (.int .i64 (((j + 1) : Nat) : Int)) :: v39 :: v40 :: v41 :: v42 :: v43 :: v44 :: v45 :: v46 :: v47 :: v48 :: u49 :: u50 :: u51 :: u52 :: u53 :: u54 :: u55 :: u56 :: u57 :: u58 :: u59 :: u60 :: u61 :: u62 :: u63 :: u64 :: u65 :: u66 :: u67 :: u68 :: u69 :: u70 :: u71 :: u72 :: []), []⟩ V)
    (hX : ∀ (v9 v39 v40 v41 v42 v43 v44 v45 v46 v47 v48 : Value), (j = l.length) → Q0 (.exit 2) ⟨List.toArray (u0 :: u1 :: u2 :: u3 :: u4 :: u5 :: (.pointer (some ⟨w0.heap.size + 2, 0, none⟩)) :: u7 :: u8 :: v9 :: u10 :: u11 :: u12 :: u13 :: u14 :: u15 :: u16 :: u17 :: u18 :: u19 :: u20 :: u21 :: u22 :: u23 :: u24 :: u25 :: u26 :: u27 :: u28 :: u29 :: u30 :: u31 :: u32 :: u33 :: u34 :: u35 :: (.slice P l.length pc) :: (.int .i64 ((l.length : Nat) : Int)) :: (.int .i64 ((j : Nat) : Int)) :: v39 :: v40 :: v41 :: v42 :: v43 :: v44 :: v45 :: v46 :: v47 :: v48 :: u49 :: u50 :: u51 :: u52 :: u53 :: u54 :: u55 :: u56 :: u57 :: u58 :: u59 :: u60 :: u61 :: u62 :: u63 :: u64 :: u65 :: u66 :: u67 :: u68 :: u69 :: u70 :: u71 :: u72 :: []), []⟩ w) :
    Code.wp Tryd.prog (sub [1, 1, 1, 0, 1, 0, 0, 1, 1, 0, 0, 1, 1, 1, 0, 0] codeSB) (Exit.then K Q0) ⟨List.toArray (u0 :: u1 :: u2 :: u3 :: u4 :: u5 :: (.pointer (some ⟨w0.heap.size + 2, 0, none⟩)) :: u7 :: u8 :: u9 :: u10 :: u11 :: u12 :: u13 :: u14 :: u15 :: u16 :: u17 :: u18 :: u19 :: u20 :: u21 :: u22 :: u23 :: u24 :: u25 :: u26 :: u27 :: u28 :: u29 :: u30 :: u31 :: u32 :: u33 :: u34 :: u35 :: (.slice P l.length pc) :: (.int .i64 ((l.length : Nat) : Int)) :: (.int .i64 ((j : Nat) : Int)) :: u39 :: u40 :: u41 :: u42 :: u43 :: u44 :: u45 :: u46 :: u47 :: u48 :: u49 :: u50 :: u51 :: u52 :: u53 :: u54 :: u55 :: u56 :: u57 :: u58 :: u59 :: u60 :: u61 :: u62 :: u63 :: u64 :: u65 :: u66 :: u67 :: u68 :: u69 :: u70 :: u71 :: u72 :: []), []⟩ w := by
  have HK := Lib.hid hK
  have HX := Lib.hid hX
  clear hK hX
  conv => arg 2; whnf
  obtain ⟨hj, hS⟩ := hI
  by_cases hlt : j < l.length
  · have ho := hS.own i (Nat.lt_succ_self i)
    rw [hl, hF] at ho
    obtain ⟨g, cp, hv, _, hgl⟩ := ho.form (by omega)
    injection hv with hv _ hcp
    subst hcp
    subst hv
    have hrp := range_su ho hlt
    have Hts := Lib.hid (getD_take hlt)
    have Hfo : Hid ((l.take (j + 1)).foldl pickS s0 = pickS ((l.take j).foldl pickS s0) (l.getD j suZ)) := Lib.hid (by rw [Hts.out, List.foldl_append]; rfl)
    generalize l.getD j suZ = x at hrp Hfo
    generalize (l.take j).foldl pickS s0 = s at hS Hfo
    have Hrp := Lib.hid hrp
    have HS := Lib.hid hS
    have hl2' := Lib.hid hl
    have hF' := Lib.hid hF
    have j0 : (0 : Int) ≤ (j : Int) := by omega
    have j1 : (j : Int) < ((l.length : Nat) : Int) := by omega
    have hz := hS.size
    have hw3 : w0.heap.size + 2 < w.heap.size := by omega
    clear hrp hS ho hl hF HX Hts
    by_cases hgt : s.g < x.g
    · have Hp := Lib.hid (Hfo.out.trans (show pickS s x = x from if_pos hgt))
      go_wp2_with (first
        | (refine wpList_load_mid rfl 32 _ (by rfl) g (j * 11) (by rfl) (suL x) _ Hrp.out Tryd.underlying32 rfl (by kernel_rfl) ?_)
        | (refine wpList_store_blk rfl 32 _ _ (by rfl) w.heap.size 0 (.agg (suL x).toArray) (by rfl) (by rfl) (suL suZ) 32 (heap_alloc_new _ _) (suL x) rfl 11 rfl (by kernel_rfl) (by decide) (suL_one x) (suL x) (by rfl) ?_
           intro w1 h1 g1
           obtain ⟨t0, t1, t2, t3, t4, t5, t6, t7, t8, t9, t10⟩ := sat_block h1
           have b1 : Below w.heap.size w w1 := (below1 w _).grown g1 (by simp) (fun j e => by injection e with e; omega)
           have HS1 := Lib.hid (HS.out.below b1)
           have s0' : w1.cell? ⟨w0.heap.size + 2, 0, none⟩ = some (.int .i64 s.g) := (cell_of_row _ _ 0 _ _ _ HS1.out.bst).trans rfl
           clear h1 g1 b1)
        | (refine wpList_store_blk rfl 32 _ _ (by rfl) (w0.heap.size + 2) 0 (.agg (suL x).toArray) (by rfl) (by rfl) (suL s) 32 HS1.out.bst (suL x) rfl 11 rfl (by kernel_rfl) (Nat.le_refl 11) (suL_one x) (suL x) (by rfl) ?_; intro w2 h2 g2))
      exact HK.out _ _ _ _ _ _ _ _ _ _ _ _ ⟨by omega, by rw [Hp.out]; exact HS1.out.setB g2 h2⟩ (by omega)
    · have Hp := Lib.hid (Hfo.out.trans (show pickS s x = s from if_neg hgt))
      go_wp2_with (first
        | (refine wpList_load_mid rfl 32 _ (by rfl) g (j * 11) (by rfl) (suL x) _ Hrp.out Tryd.underlying32 rfl (by kernel_rfl) ?_)
        | (refine wpList_store_blk rfl 32 _ _ (by rfl) w.heap.size 0 (.agg (suL x).toArray) (by rfl) (by rfl) (suL suZ) 32 (heap_alloc_new _ _) (suL x) rfl 11 rfl (by kernel_rfl) (by decide) (suL_one x) (suL x) (by rfl) ?_
           intro w1 h1 g1
           obtain ⟨t0, t1, t2, t3, t4, t5, t6, t7, t8, t9, t10⟩ := sat_block h1
           have b1 : Below w.heap.size w w1 := (below1 w _).grown g1 (by simp) (fun j e => by injection e with e; omega)
           have HS1 := Lib.hid (HS.out.below b1)
           have s0' : w1.cell? ⟨w0.heap.size + 2, 0, none⟩ = some (.int .i64 s.g) := (cell_of_row _ _ 0 _ _ _ HS1.out.bst).trans rfl
           clear h1 g1 b1))
      exact HK.out _ _ _ _ _ _ _ _ _ _ _ _ ⟨by omega, by rw [Hp.out]; exact HS1.out⟩ (by omega)
  · have i1 : ¬ (j : Int) < ((l.length : Nat) : Int) := by omega
    have hjl : j = l.length := by omega
    have Hjl := Lib.hid hjl
    clear HK hjl hF hl
    go_wp2_with fail
    exact HX.out _ _ _ _ _ _ _ _ _ _ _ Hjl.out
set_option maxRecDepth 100000 in
set_option maxHeartbeats 3200000 in
theorem sbJ {w0 : World} {N : Bch} {F : Nat → Value} {i : Nat} {s0 : Su} {P : Option Addr} {pc : Nat} {l : List Su}  {w : World} (u0 u1 u2 u3 u4 u5 u7 u8 u9 u10 u11 u12 u13 u14 u15 u16 u17 u18 u19 u20 u21 u22 u23 u24 u25 u26 u27 u28 u29 u30 u31 u32 u33 u34 u35 u39 u40 u41 u42 u43 u44 u45 u46 u47 u48 u49 u50 u51 u52 u53 u54 u55 u56 u57 u58 u59 u60 u61 u62 u63 u64 u65 u66 u67 u68 u69 u70 u71 u72 : Value) (Q : Exit → Act → World → Prop) (hF : F i = .slice P l.length pc) (hl : dskSu (N.D i) = l) (hl2 : l.length ≤ 2000000) (hI : (0 ≤ l.length ∧ BSt w0 w N F (i + 1) ((l.take 0).foldl pickS s0)))
    (hX : ∀ (v9 v39 v40 v41 v42 v43 v44 v45 v46 v47 v48 : Value) (j : Nat) (V : World), (j ≤ l.length ∧ BSt w0 V N F (i + 1) ((l.take j).foldl pickS s0)) → (j = l.length) → Q (.exit 2) ⟨List.toArray (u0 :: u1 :: u2 :: u3 :: u4 :: u5 :: (.pointer (some ⟨w0.heap.size + 2, 0, none⟩)) :: u7 :: u8 :: v9 :: u10 :: u11 :: u12 :: u13 :: u14 :: u15 :: u16 :: u17 :: u18 :: u19 :: u20 :: u21 :: u22 :: u23 :: u24 :: u25 :: u26 :: u27 :: u28 :: u29 :: u30 :: u31 :: u32 :: u33 :: u34 :: u35 :: (.slice P l.length pc) :: (.int .i64 ((l.length : Nat) : Int)) :: (.int .i64 ((j : Nat) : Int)) :: v39 :: v40 :: v41 :: v42 :: v43 :: v44 :: v45 :: v46 :: v47 :: v48 :: u49 :: u50 :: u51 :: u52 :: u53 :: u54 :: u55 :: u56 :: u57 :: u58 :: u59 :: u60 :: u61 :: u62 :: u63 :: u64 :: u65 :: u66 :: u67 :: u68 :: u69 :: u70 :: u71 :: u72 :: []), []⟩ V) :
    Code.wp Tryd.prog (.loop (sub [1, 1, 1, 0, 1, 0, 0, 1, 1, 0, 0, 1, 1, 1, 0, 0] codeSB)) Q ⟨List.toArray (u0 :: u1 :: u2 :: u3 :: u4 :: u5 :: (.pointer (some ⟨w0.heap.size + 2, 0, none⟩)) :: u7 :: u8 :: u9 :: u10 :: u11 :: u12 :: u13 :: u14 :: u15 :: u16 :: u17 :: u18 :: u19 :: u20 :: u21 :: u22 :: u23 :: u24 :: u25 :: u26 :: u27 :: u28 :: u29 :: u30 :: u31 :: u32 :: u33 :: u34 :: u35 :: (.slice P l.length pc) :: (.int .i64 ((l.length : Nat) : Int)) :: (.int .i64 ((0 : Nat) : Int)) :: u39 :: u40 :: u41 :: u42 :: u43 :: u44 :: u45 :: u46 :: u47 :: u48 :: u49 :: u50 :: u51 :: u52 :: u53 :: u54 :: u55 :: u56 :: u57 :: u58 :: u59 :: u60 :: u61 :: u62 :: u63 :: u64 :: u65 :: u66 :: u67 :: u68 :: u69 :: u70 :: u71 :: u72 :: []), []⟩ w := by
  refine wp_loop_ghost (fun gk a V => ∀ C : Prop, (∀ (u9 u39 u40 u41 u42 u43 u44 u45 u46 u47 u48 : Value) (j : Nat), gk = l.length - j → (j ≤ l.length ∧ BSt w0 V N F (i + 1) ((l.take j).foldl pickS s0)) → a = ⟨List.toArray (u0 :: u1 :: u2 :: u3 :: u4 :: u5 :: (.pointer (some ⟨w0.heap.size + 2, 0, none⟩)) :: u7 :: u8 :: u9 :: u10 :: u11 :: u12 :: u13 :: u14 :: u15 :: u16 :: u17 :: u18 :: u19 :: u20 :: u21 :: u22 :: u23 :: u24 :: u25 :: u26 :: u27 :: u28 :: u29 :: u30 :: u31 :: u32 :: u33 :: u34 :: u35 :: (.slice P l.length pc) :: (.int .i64 ((l.length : Nat) : Int)) :: (.int .i64 ((j : Nat) : Int)) :: u39 :: u40 :: u41 :: u42 :: u43 :: u44 :: u45 :: u46 :: u47 :: u48 :: u49 :: u50 :: u51 :: u52 :: u53 :: u54 :: u55 :: u56 :: u57 :: u58 :: u59 :: u60 :: u61 :: u62 :: u63 :: u64 :: u65 :: u66 :: u67 :: u68 :: u69 :: u70 :: u71 :: u72 :: []), []⟩ → C) → C) (l.length - 0) ?_ ?_
  · intro C hC
    exact hC _ _ _ _ _ _ _ _ _ _ _ (0) rfl hI rfl
  · intro gk a V hI'
    refine hI' _ ?_
    intro u9 u39 u40 u41 u42 u43 u44 u45 u46 u47 u48 j hk hinv ha
    subst ha
    subst hk
    refine sbJb _ _ _ _ _ _ _ _ _ _ _ _ _ _ _ _ _ _ _ _ _ _ _ _ _ _ _ _ _ _ _ _ _ _ _ _ _ _ _ _ _ _ _ _ _ _ _ _ _ _ _ _ _ _ _ _ _ _ _ _ _ _ _ _ _ _ _ _ _ _ _ hF hl hl2 hinv (fun v9 v39 v40 v41 v42 v43 v44 v45 v46 v47 v48  V2 h2 hm => ?_) (fun v9 v39 v40 v41 v42 v43 v44 v45 v46 v47 v48 hx => hX v9 v39 v40 v41 v42 v43 v44 v45 v46 v47 v48 j V hinv hx)
    refine ⟨_, hm, fun C hC => ?_⟩
    exact hC v9 v39 v40 v41 v42 v43 v44 v45 v46 v47 v48 ((j + 1)) rfl h2 rfl
set_option maxRecDepth 100000 in
set_option maxHeartbeats 3200000 in
theorem sbIb {w0 : World} {B b : Nat} {H : BH} {N : Bch} {i : Nat} {F : Nat → Value} {w : World} (u1 u2 u3 u7 u8 u9 u10 u11 u12 u13 u14 u15 u18 u19 u20 u21 u22 u23 u24 u25 u26 u27 u28 u29 u30 u31 u32 u33 u34 u35 u36 u37 u38 u39 u40 u41 u42 u43 u44 u45 u46 u47 u48 u49 u50 u51 u52 u53 u54 u55 u56 u57 u58 u59 u60 u61 u62 u63 u64 u65 u66 u67 u68 u69 u70 u71 u72 : Value) (K : Act → World → Prop) (Q0 : Exit → Act → World → Prop) (ha : BAt w0 B b H N) (hdn : N.down = false) (ht : TabOk w0) (hI : (i ≤ N.n ∧ BSt w0 w N F i (bestTo N i)))
    (hK : ∀ (v3 v7 v9 v18 v19 v20 v21 v22 v23 v24 v25 v26 v27 v28 v29 v30 v31 v32 v33 v34 v35 v36 v37 v38 v39 v40 v41 v42 v43 v44 v45 v46 v47 v48 v49 : Value) (F2 : Nat → Value) (V : World), ((i + 1) ≤ N.n ∧ BSt w0 V N F2 (i + 1) (bestTo N (i + 1))) → N.n - (i + 1) < N.n - i → K ⟨List.toArray ((.pointer (some ⟨b, 0, none⟩)) :: u1 :: u2 :: v3 :: (.int .i64 0) :: (.slice (some ⟨w0.heap.size + 1, 0, none⟩) N.n N.n) :: (.pointer (some ⟨w0.heap.size + 2, 0, none⟩)) :: v7 :: u8 :: v9 :: u10 :: u11 :: u12 :: u13 :: u14 :: u15 :: (.int .i64 ((N.n : Nat) : Int)) :: (.int .i64 (((i + 1) : Nat) : Int)) :: v18 :: v19 :: v20 :: v21 :: v22 :: v23 :: v24 :: v25 :: v26 :: v27 :: v28 :: v29 :: v30 :: v31 :: v32 :: v33 :: v34 :: v35 :: v36 :: v37 :: v38 :: v39 :: v40 :: v41 :: v42 :: v43 :: v44 :: v45 :: v46 :: v47 :: v48 :: v49 :: u50 :: u51 :: u52 :: u53 :: u54 :: u55 :: u56 :: u57 :: u58 :: u59 :: u60 :: u61 :: u62 :: u63 :: u64 :: u65 :: u66 :: u67 :: u68 :: u69 :: u70 :: u71 :: u72 :: []), []⟩ V)
    (hX : ∀ (v3 v7 v9 v18 v19 v20 v21 v22 v23 v24 v25 v26 v27 v28 v29 v30 v31 v32 v33 v34 v35 v36 v37 v38 v39 v40 v41 v42 v43 v44 v45 v46 v47 v48 v49 : Value), (i = N.n) → Q0 (.exit 0) ⟨List.toArray ((.pointer (some ⟨b, 0, none⟩)) :: u1 :: u2 :: v3 :: (.int .i64 0) :: (.slice (some ⟨w0.heap.size + 1, 0, none⟩) N.n N.n) :: (.pointer (some ⟨w0.heap.size + 2, 0, none⟩)) :: v7 :: u8 :: v9 :: u10 :: u11 :: u12 :: u13 :: u14 :: u15 :: (.int .i64 ((N.n : Nat) : Int)) :: (.int .i64 ((i : Nat) : Int)) :: v18 :: v19 :: v20 :: v21 :: v22 :: v23 :: v24 :: v25 :: v26 :: v27 :: v28 :: v29 :: v30 :: v31 :: v32 :: v33 :: v34 :: v35 :: v36 :: v37 :: v38 :: v39 :: v40 :: v41 :: v42 :: v43 :: v44 :: v45 :: v46 :: v47 :: v48 :: v49 :: u50 :: u51 :: u52 :: u53 :: u54 :: u55 :: u56 :: u57 :: u58 :: u59 :: u60 :: u61 :: u62 :: u63 :: u64 :: u65 :: u66 :: u67 :: u68 :: u69 :: u70 :: u71 :: u72 :: []), []⟩ w) :
    Code.wp Tryd.prog (sub [1, 1, 1, 0, 1, 0, 0] codeSB) (Exit.then K Q0) ⟨List.toArray ((.pointer (some ⟨b, 0, none⟩)) :: u1 :: u2 :: u3 :: (.int .i64 0) :: (.slice (some ⟨w0.heap.size + 1, 0, none⟩) N.n N.n) :: (.pointer (some ⟨w0.heap.size + 2, 0, none⟩)) :: u7 :: u8 :: u9 :: u10 :: u11 :: u12 :: u13 :: u14 :: u15 :: (.int .i64 ((N.n : Nat) : Int)) :: (.int .i64 ((i : Nat) : Int)) :: u18 :: u19 :: u20 :: u21 :: u22 :: u23 :: u24 :: u25 :: u26 :: u27 :: u28 :: u29 :: u30 :: u31 :: u32 :: u33 :: u34 :: u35 :: u36 :: u37 :: u38 :: u39 :: u40 :: u41 :: u42 :: u43 :: u44 :: u45 :: u46 :: u47 :: u48 :: u49 :: u50 :: u51 :: u52 :: u53 :: u54 :: u55 :: u56 :: u57 :: u58 :: u59 :: u60 :: u61 :: u62 :: u63 :: u64 :: u65 :: u66 :: u67 :: u68 :: u69 :: u70 :: u71 :: u72 :: []), []⟩ w := by
  have HK := Lib.hid hK
  have HX := Lib.hid hX
  clear hK hX
  conv => arg 2; whnf
  obtain ⟨hi, hS⟩ := hI
  by_cases hlt : i < N.n
  · have hn8 := ha.ok.n
    have hz := hS.size
    have CD := Lib.hid (onDisk_any B b H N w (ha.below hS.bel) i hlt (ht.below hS.bel ht.pos))
    have HE := Lib.hid (show dnE N = 0 by unfold dnE; rw [if_neg (by simp [hdn])])
    have HL := Lib.hid (show dnL N i = dskSu (N.D i) by unfold dnL; rw [if_neg (by simp [hdn])])
    rw [HE.out, HL.out] at CD
    have Hlen := Lib.hid (dskSu_len (N.D i))
    have Hbt : Hid (bestTo N (i + 1) = (dskSu (N.D i)).foldl pickS (bestTo N i)) := rfl
    have HS := Lib.hid hS
    have i0 : (0 : Int) ≤ (i : Int) := by omega
    have i1 : (i : Int) < ((N.n : Nat) : Int) := by omega
    clear hS HE HL HX ha ht hdn
    go_wp2_with fail
    unfold ptr at CD
    refine CD.out.mono ?_
    rintro e w1 ⟨v, rfl, hov, hb1⟩
    have HS1 := Lib.hid (HS.out.below hb1)
    have HO := Lib.hid (own_le hov (show w0.heap.size + 3 ≤ w.heap.size from HS.out.size))
    obtain ⟨P, pc, rfl, hpc, _⟩ := own_form hov
    have Hw1 := Lib.hid (show w0.heap.size + 1 < w1.heap.size by have := HS1.out.size; omega)
    clear hov hb1 CD
    generalize hL : dskSu (N.D i) = l at HO Hlen hpc Hbt
    have HL := Lib.hid hL
    clear hL
    go_wp2_with (refine wpList_store_blk rfl 73 _ _ (by rfl) (w0.heap.size + 1) i (.slice P l.length pc) (by rfl) (by rfl) (rowOf F N.n) 73 HS1.out.fnd [.slice P l.length pc] (by rfl) 1 rfl size_sus (by rw [rowOf_len]; omega) (by intro u hu; rw [List.mem_singleton.1 hu]; rfl) (rowOf (upd F i (.slice P l.length pc)) N.n) (rowOf_set F _ hlt) ?_; intro w2 h2 g2; have HS2 := Lib.hid (HS1.out.push g2 h2 (by rw [HL.out]; exact HO.out)); have hc2 : w2.cell? ⟨w0.heap.size + 1, i, none⟩ = some (.slice P l.length pc) := (cell_of_row _ _ i _ _ _ HS2.out.fnd).trans (by rw [List.getElem?_toArray, rowOf_get _ hlt, upd_same]); clear h2 g2)
    refine sbJ _ _ _ _ _ _ _ _ _ _ _ _ _ _ _ _ _ _ _ _ _ _ _ _ _ _ _ _ _ _ _ _ _ _ _ _ _ _ _ _ _ _ _ _ _ _ _ _ _ _ _ _ _ _ _ _ _ _ _ _ _ _ _ _ _ _ _ _ _ _ (F := upd F i (.slice P l.length pc)) (N := N) (i := i) (upd_same _ _ _) HL.out (by have := Hlen.out; omega) ⟨Nat.zero_le _, HS2.out⟩ (fun v9 v39 v40 v41 v42 v43 v44 v45 v46 v47 v48 j V2 hI hx => ?_)
    obtain ⟨_, hS3⟩ := hI
    rw [hx, List.take_length, ← Hbt.out] at hS3
    have HS3 := Lib.hid hS3
    clear hS3 hx HS1 HS2 HO HS
    go_wp2_with fail
    exact HK.out _ _ _ _ _ _ _ _ _ _ _ _ _ _ _ _ _ _ _ _ _ _ _ _ _ _ _ _ _ _ _ _ _ _ _ (upd F i (.slice P l.length pc)) _ ⟨by omega, HS3.out⟩ (by omega)
  · have i1 : ¬ (i : Int) < ((N.n : Nat) : Int) := by omega
    have hin : i = N.n := by omega
    have Hin := Lib.hid hin
    clear HK hin
    go_wp2_with fail
    exact HX.out _ _ _ _ _ _ _ _ _ _ _ _ _ _ _ _ _ _ _ _ _ _ _ _ _ _ _ _ _ _ _ _ _ _ _ Hin.out
set_option maxRecDepth 100000 in
set_option maxHeartbeats 3200000 in
theorem sbI {w0 : World} {B b : Nat} {H : BH} {N : Bch} {F0 : Nat → Value} {w : World} (u1 u2 u3 u7 u8 u9 u10 u11 u12 u13 u14 u15 u18 u19 u20 u21 u22 u23 u24 u25 u26 u27 u28 u29 u30 u31 u32 u33 u34 u35 u36 u37 u38 u39 u40 u41 u42 u43 u44 u45 u46 u47 u48 u49 u50 u51 u52 u53 u54 u55 u56 u57 u58 u59 u60 u61 u62 u63 u64 u65 u66 u67 u68 u69 u70 u71 u72 : Value) (Q : Exit → Act → World → Prop) (ha : BAt w0 B b H N) (hdn : N.down = false) (ht : TabOk w0) (hI : (0 ≤ N.n ∧ BSt w0 w N F0 0 (bestTo N 0)))
    (hX : ∀ (v3 v7 v9 v18 v19 v20 v21 v22 v23 v24 v25 v26 v27 v28 v29 v30 v31 v32 v33 v34 v35 v36 v37 v38 v39 v40 v41 v42 v43 v44 v45 v46 v47 v48 v49 : Value) (i : Nat) (F : Nat → Value) (V : World), (i ≤ N.n ∧ BSt w0 V N F i (bestTo N i)) → (i = N.n) → Q (.exit 0) ⟨List.toArray ((.pointer (some ⟨b, 0, none⟩)) :: u1 :: u2 :: v3 :: (.int .i64 0) :: (.slice (some ⟨w0.heap.size + 1, 0, none⟩) N.n N.n) :: (.pointer (some ⟨w0.heap.size + 2, 0, none⟩)) :: v7 :: u8 :: v9 :: u10 :: u11 :: u12 :: u13 :: u14 :: u15 :: (.int .i64 ((N.n : Nat) : Int)) :: (.int .i64 ((i : Nat) : Int)) :: v18 :: v19 :: v20 :: v21 :: v22 :: v23 :: v24 :: v25 :: v26 :: v27 :: v28 :: v29 :: v30 :: v31 :: v32 :: v33 :: v34 :: v35 :: v36 :: v37 :: v38 :: v39 :: v40 :: v41 :: v42 :: v43 :: v44 :: v45 :: v46 :: v47 :: v48 :: v49 :: u50 :: u51 :: u52 :: u53 :: u54 :: u55 :: u56 :: u57 :: u58 :: u59 :: u60 :: u61 :: u62 :: u63 :: u64 :: u65 :: u66 :: u67 :: u68 :: u69 :: u70 :: u71 :: u72 :: []), []⟩ V) :
    Code.wp Tryd.prog (.loop (sub [1, 1, 1, 0, 1, 0, 0] codeSB)) Q ⟨List.toArray ((.pointer (some ⟨b, 0, none⟩)) :: u1 :: u2 :: u3 :: (.int .i64 0) :: (.slice (some ⟨w0.heap.size + 1, 0, none⟩) N.n N.n) :: (.pointer (some ⟨w0.heap.size + 2, 0, none⟩)) :: u7 :: u8 :: u9 :: u10 :: u11 :: u12 :: u13 :: u14 :: u15 :: (.int .i64 ((N.n : Nat) : Int)) :: (.int .i64 ((0 : Nat) : Int)) :: u18 :: u19 :: u20 :: u21 :: u22 :: u23 :: u24 :: u25 :: u26 :: u27 :: u28 :: u29 :: u30 :: u31 :: u32 :: u33 :: u34 :: u35 :: u36 :: u37 :: u38 :: u39 :: u40 :: u41 :: u42 :: u43 :: u44 :: u45 :: u46 :: u47 :: u48 :: u49 :: u50 :: u51 :: u52 :: u53 :: u54 :: u55 :: u56 :: u57 :: u58 :: u59 :: u60 :: u61 :: u62 :: u63 :: u64 :: u65 :: u66 :: u67 :: u68 :: u69 :: u70 :: u71 :: u72 :: []), []⟩ w := by
  refine wp_loop_ghost (fun gk a V => ∀ C : Prop, (∀ (u3 u7 u9 u18 u19 u20 u21 u22 u23 u24 u25 u26 u27 u28 u29 u30 u31 u32 u33 u34 u35 u36 u37 u38 u39 u40 u41 u42 u43 u44 u45 u46 u47 u48 u49 : Value) (i : Nat) (F : Nat → Value), gk = N.n - i → (i ≤ N.n ∧ BSt w0 V N F i (bestTo N i)) → a = ⟨List.toArray ((.pointer (some ⟨b, 0, none⟩)) :: u1 :: u2 :: u3 :: (.int .i64 0) :: (.slice (some ⟨w0.heap.size + 1, 0, none⟩) N.n N.n) :: (.pointer (some ⟨w0.heap.size + 2, 0, none⟩)) :: u7 :: u8 :: u9 :: u10 :: u11 :: u12 :: u13 :: u14 :: u15 :: (.int .i64 ((N.n : Nat) : Int)) :: (.int .i64 ((i : Nat) : Int)) :: u18 :: u19 :: u20 :: u21 :: u22 :: u23 :: u24 :: u25 :: u26 :: u27 :: u28 :: u29 :: u30 :: u31 :: u32 :: u33 :: u34 :: u35 :: u36 :: u37 :: u38 :: u39 :: u40 :: u41 :: u42 :: u43 :: u44 :: u45 :: u46 :: u47 :: u48 :: u49 :: u50 :: u51 :: u52 :: u53 :: u54 :: u55 :: u56 :: u57 :: u58 :: u59 :: u60 :: u61 :: u62 :: u63 :: u64 :: u65 :: u66 :: u67 :: u68 :: u69 :: u70 :: u71 :: u72 :: []), []⟩ → C) → C) (N.n - 0) ?_ ?_
  · intro C hC
    exact hC _ _ _ _ _ _ _ _ _ _ _ _ _ _ _ _ _ _ _ _ _ _ _ _ _ _ _ _ _ _ _ _ _ _ _ (0) (F0) rfl hI rfl
  · intro gk a V hI'
    refine hI' _ ?_
    intro u3 u7 u9 u18 u19 u20 u21 u22 u23 u24 u25 u26 u27 u28 u29 u30 u31 u32 u33 u34 u35 u36 u37 u38 u39 u40 u41 u42 u43 u44 u45 u46 u47 u48 u49 i F hk hinv ha
    subst ha
    subst hk
    refine sbIb _ _ _ _ _ _ _ _ _ _ _ _ _ _ _ _ _ _ _ _ _ _ _ _ _ _ _ _ _ _ _ _ _ _ _ _ _ _ _ _ _ _ _ _ _ _ _ _ _ _ _ _ _ _ _ _ _ _ _ _ _ _ _ _ _ _ _ _ _ ha hdn ht hinv (fun v3 v7 v9 v18 v19 v20 v21 v22 v23 v24 v25 v26 v27 v28 v29 v30 v31 v32 v33 v34 v35 v36 v37 v38 v39 v40 v41 v42 v43 v44 v45 v46 v47 v48 v49 F2 V2 h2 hm => ?_) (fun v3 v7 v9 v18 v19 v20 v21 v22 v23 v24 v25 v26 v27 v28 v29 v30 v31 v32 v33 v34 v35 v36 v37 v38 v39 v40 v41 v42 v43 v44 v45 v46 v47 v48 v49 hx => hX v3 v7 v9 v18 v19 v20 v21 v22 v23 v24 v25 v26 v27 v28 v29 v30 v31 v32 v33 v34 v35 v36 v37 v38 v39 v40 v41 v42 v43 v44 v45 v46 v47 v48 v49 i F V hinv hx)
    refine ⟨_, hm, fun C hC => ?_⟩
    exact hC v3 v7 v9 v18 v19 v20 v21 v22 v23 v24 v25 v26 v27 v28 v29 v30 v31 v32 v33 v34 v35 v36 v37 v38 v39 v40 v41 v42 v43 v44 v45 v46 v47 v48 v49 ((i + 1)) (F2) rfl h2 rfl
set_option maxRecDepth 100000 in
set_option maxHeartbeats 3200000 in
theorem sbKb {w0 : World} {q : Nat} {N : Bch} {F : Nat → Value} {s : Su} {k : Nat} {G : Nat → Value} {w : World} (u0 u1 u2 u4 u5 u7 u8 u9 u10 u11 u12 u13 u14 u15 u16 u17 u18 u19 u20 u21 u22 u23 u24 u25 u26 u27 u28 u29 u30 u31 u32 u33 u34 u35 u36 u37 u38 u39 u40 u41 u42 u43 u44 u45 u46 u47 u48 u49 u50 u51 u52 u53 u54 u55 u56 u60 u61 u62 u63 u64 u65 u66 u67 u68 u69 u70 u71 u72 : Value) (K : Act → World → Prop) (Q0 : Exit → Act → World → Prop) (hs : 0 ≤ s.g ∧ s.g ≤ 2147483647) (hq : w0.heap.size + 3 ≤ q) (hoq : ∀ k, k < N.n → (F k).ownBlock ≠ some q) (hn8 : N.n ≤ 8) (hI : (k ≤ N.n ∧ BSt w0 w N F N.n s ∧ w.heap[q]? = some (.cells (rowOf G N.n).toArray 4 (0, 0)) ∧ (∀ j, j < k → G j = .bool (hasB N s j))))
    (hK : ∀ (v10 v11 v60 v61 v62 v63 v64 v65 v66 v67 v68 v69 v70 : Value) (G2 : Nat → Value) (V : World), ((k + 1) ≤ N.n ∧ BSt w0 V N F N.n s ∧ V.heap[q]? = some (.cells (rowOf G2 N.n).toArray 4 (0, 0)) ∧ (∀ j, j < (k + 1) → G2 j = .bool (hasB N s j))) → N.n - (k + 1) < N.n - k → K ⟨List.toArray (u0 :: u1 :: u2 :: (.slice (some ⟨q, 0, none⟩) N.n N.n) :: u4 :: u5 :: (.pointer (some ⟨w0.heap.size + 2, 0, none⟩)) :: u7 :: u8 :: u9 :: v10 :: v11 :: u12 :: u13 :: u14 :: u15 :: u16 :: u17 :: u18 :: u19 :: u20 :: u21 :: u22 :: u23 :: u24 :: u25 :: u26 :: u27 :: u28 :: u29 :: u30 :: u31 :: u32 :: u33 :: u34 :: u35 :: u36 :: u37 :: u38 :: u39 :: u40 :: u41 :: u42 :: u43 :: u44 :: u45 :: u46 :: u47 :: u48 :: u49 :: u50 :: u51 :: u52 :: u53 :: u54 :: u55 :: u56 :: (.slice (some ⟨w0.heap.size + 1, 0, none⟩) N.n N.n) :: (.int .i64 ((N.n : Nat) : Int)) :: (.int .i64 (((k + 1) : Nat) : Int)) :: v60 :: v61 :: v62 :: v63 :: v64 :: v65 :: v66 :: v67 :: v68 :: v69 :: v70 :: u71 :: u72 :: []), []⟩ V)
    (hX : ∀ (v10 v11 v60 v61 v62 v63 v64 v65 v66 v67 v68 v69 v70 : Value), (k = N.n) → Q0 (.exit 4) ⟨List.toArray (u0 :: u1 :: u2 :: (.slice (some ⟨q, 0, none⟩) N.n N.n) :: u4 :: u5 :: (.pointer (some ⟨w0.heap.size + 2, 0, none⟩)) :: u7 :: u8 :: u9 :: v10 :: v11 :: u12 :: u13 :: u14 :: u15 :: u16 :: u17 :: u18 :: u19 :: u20 :: u21 :: u22 :: u23 :: u24 :: u25 :: u26 :: u27 :: u28 :: u29 :: u30 :: u31 :: u32 :: u33 :: u34 :: u35 :: u36 :: u37 :: u38 :: u39 :: u40 :: u41 :: u42 :: u43 :: u44 :: u45 :: u46 :: u47 :: u48 :: u49 :: u50 :: u51 :: u52 :: u53 :: u54 :: u55 :: u56 :: (.slice (some ⟨w0.heap.size + 1, 0, none⟩) N.n N.n) :: (.int .i64 ((N.n : Nat) : Int)) :: (.int .i64 ((k : Nat) : Int)) :: v60 :: v61 :: v62 :: v63 :: v64 :: v65 :: v66 :: v67 :: v68 :: v69 :: v70 :: u71 :: u72 :: []), []⟩ w) :
    Code.wp Tryd.prog (sub [1, 1, 1, 1, 1, 1, 0, 1, 0, 0] codeSB) (Exit.then K Q0) ⟨List.toArray (u0 :: u1 :: u2 :: (.slice (some ⟨q, 0, none⟩) N.n N.n) :: u4 :: u5 :: (.pointer (some ⟨w0.heap.size + 2, 0, none⟩)) :: u7 :: u8 :: u9 :: u10 :: u11 :: u12 :: u13 :: u14 :: u15 :: u16 :: u17 :: u18 :: u19 :: u20 :: u21 :: u22 :: u23 :: u24 :: u25 :: u26 :: u27 :: u28 :: u29 :: u30 :: u31 :: u32 :: u33 :: u34 :: u35 :: u36 :: u37 :: u38 :: u39 :: u40 :: u41 :: u42 :: u43 :: u44 :: u45 :: u46 :: u47 :: u48 :: u49 :: u50 :: u51 :: u52 :: u53 :: u54 :: u55 :: u56 :: (.slice (some ⟨w0.heap.size + 1, 0, none⟩) N.n N.n) :: (.int .i64 ((N.n : Nat) : Int)) :: (.int .i64 ((k : Nat) : Int)) :: u60 :: u61 :: u62 :: u63 :: u64 :: u65 :: u66 :: u67 :: u68 :: u69 :: u70 :: u71 :: u72 :: []), []⟩ w := by
  have HK := Lib.hid hK
  have HX := Lib.hid hX
  clear hK hX
  conv => arg 2; whnf
  obtain ⟨hk, hS, hG, hall⟩ := hI
  by_cases hlt : k < N.n
  · have hz := hS.size
    have hql := (Array.getElem?_eq_some_iff.1 hG).1
    have hc := (cell_of_row _ _ k _ _ _ hS.fnd).trans (show (rowOf F N.n).toArray[k]? = some (F k) by rw [List.getElem?_toArray, rowOf_get _ hlt])
    have ho := hS.own k hlt
    have CC := Lib.hid (anyS_any (F k) _ (dskSu (N.D k)) (w0.heap.size + 2) s.g w ho (by have := dskSu_len (N.D k); omega) ((cell_of_row _ _ 0 _ _ _ hS.bst).trans rfl) hs)
    have Hany : Hid ((dskSu (N.D k)).any (fun x => decide (s.g - 1 ≤ x.g)) = hasB N s k) := rfl
    rw [Hany.out] at CC
    generalize hhb : hasB N s k = hb at CC
    have Hhb := Lib.hid hhb
    clear hhb Hany
    obtain ⟨P, pc, hFk, hpc, _⟩ := own_form ho
    rw [hFk] at hc CC
    have HS := Lib.hid hS
    have HG := Lib.hid hG
    have Hall := Lib.hid hall
    have Hoq := Lib.hid hoq
    have k0 : (0 : Int) ≤ (k : Int) := by omega
    have k1 : (k : Int) < ((N.n : Nat) : Int) := by omega
    clear hS hG hall hoq ho HX hFk
    go_wp2_with (first
      | (go_at_call 38; refine CC.out.mono ?_; rintro e w1 ⟨rfl, hb1⟩; have HS1 := Lib.hid (HS.out.below hb1); have HG1 := Lib.hid ((hb1.block q hql).trans HG.out); have Hql1 := Lib.hid (Nat.lt_of_lt_of_le hql hb1.size); clear hb1)
      | (refine wpList_store_blk rfl 4 _ _ (by rfl) q k (.bool hb) (by rfl) (by rfl) (rowOf G N.n) 4 HG1.out [.bool hb] (by rfl) 1 rfl size_bool1 (by rw [rowOf_len]; omega) (by intro u hu; rw [List.mem_singleton.1 hu]; rfl) (rowOf (upd G k (.bool hb)) N.n) (rowOf_set G _ hlt) ?_; intro w2 h2 g2))
    exact HK.out _ _ _ _ _ _ _ _ _ _ _ _ _ (upd G k (.bool hb)) _ ⟨by omega, HS1.out.other g2 hq Hoq.out, h2, fun j hj => by
      by_cases e : j = k
      · subst e; rw [upd_same, Hhb.out]
      · rw [upd_other _ _ e]; exact Hall.out j (by omega)⟩ (by omega)
  · have i1 : ¬ (k : Int) < ((N.n : Nat) : Int) := by omega
    have hkn : k = N.n := by omega
    have Hkn := Lib.hid hkn
    clear HK hkn
    go_wp2_with fail
    exact HX.out _ _ _ _ _ _ _ _ _ _ _ _ _ Hkn.out
set_option maxRecDepth 100000 in
set_option maxHeartbeats 3200000 in
theorem sbK {w0 : World} {q : Nat} {N : Bch} {F : Nat → Value} {s : Su} {G0 : Nat → Value} {w : World} (u0 u1 u2 u4 u5 u7 u8 u9 u10 u11 u12 u13 u14 u15 u16 u17 u18 u19 u20 u21 u22 u23 u24 u25 u26 u27 u28 u29 u30 u31 u32 u33 u34 u35 u36 u37 u38 u39 u40 u41 u42 u43 u44 u45 u46 u47 u48 u49 u50 u51 u52 u53 u54 u55 u56 u60 u61 u62 u63 u64 u65 u66 u67 u68 u69 u70 u71 u72 : Value) (Q : Exit → Act → World → Prop) (hs : 0 ≤ s.g ∧ s.g ≤ 2147483647) (hq : w0.heap.size + 3 ≤ q) (hoq : ∀ k, k < N.n → (F k).ownBlock ≠ some q) (hn8 : N.n ≤ 8) (hI : (0 ≤ N.n ∧ BSt w0 w N F N.n s ∧ w.heap[q]? = some (.cells (rowOf G0 N.n).toArray 4 (0, 0)) ∧ (∀ j, j < 0 → G0 j = .bool (hasB N s j))))
    (hX : ∀ (v10 v11 v60 v61 v62 v63 v64 v65 v66 v67 v68 v69 v70 : Value) (k : Nat) (G : Nat → Value) (V : World), (k ≤ N.n ∧ BSt w0 V N F N.n s ∧ V.heap[q]? = some (.cells (rowOf G N.n).toArray 4 (0, 0)) ∧ (∀ j, j < k → G j = .bool (hasB N s j))) → (k = N.n) → Q (.exit 4) ⟨List.toArray (u0 :: u1 :: u2 :: (.slice (some ⟨q, 0, none⟩) N.n N.n) :: u4 :: u5 :: (.pointer (some ⟨w0.heap.size + 2, 0, none⟩)) :: u7 :: u8 :: u9 :: v10 :: v11 :: u12 :: u13 :: u14 :: u15 :: u16 :: u17 :: u18 :: u19 :: u20 :: u21 :: u22 :: u23 :: u24 :: u25 :: u26 :: u27 :: u28 :: u29 :: u30 :: u31 :: u32 :: u33 :: u34 :: u35 :: u36 :: u37 :: u38 :: u39 :: u40 :: u41 :: u42 :: u43 :: u44 :: u45 :: u46 :: u47 :: u48 :: u49 :: u50 :: u51 :: u52 :: u53 :: u54 :: u55 :: u56 :: (.slice (some ⟨w0.heap.size + 1, 0, none⟩) N.n N.n) :: (.int .i64 ((N.n : Nat) : Int)) :: (.int .i64 ((k : Nat) : Int)) :: v60 :: v61 :: v62 :: v63 :: v64 :: v65 :: v66 :: v67 :: v68 :: v69 :: v70 :: u71 :: u72 :: []), []⟩ V) :
    Code.wp Tryd.prog (.loop (sub [1, 1, 1, 1, 1, 1, 0, 1, 0, 0] codeSB)) Q ⟨List.toArray (u0 :: u1 :: u2 :: (.slice (some ⟨q, 0, none⟩) N.n N.n) :: u4 :: u5 :: (.pointer (some ⟨w0.heap.size + 2, 0, none⟩)) :: u7 :: u8 :: u9 :: u10 :: u11 :: u12 :: u13 :: u14 :: u15 :: u16 :: u17 :: u18 :: u19 :: u20 :: u21 :: u22 :: u23 :: u24 :: u25 :: u26 :: u27 :: u28 :: u29 :: u30 :: u31 :: u32 :: u33 :: u34 :: u35 :: u36 :: u37 :: u38 :: u39 :: u40 :: u41 :: u42 :: u43 :: u44 :: u45 :: u46 :: u47 :: u48 :: u49 :: u50 :: u51 :: u52 :: u53 :: u54 :: u55 :: u56 :: (.slice (some ⟨w0.heap.size + 1, 0, none⟩) N.n N.n) :: (.int .i64 ((N.n : Nat) : Int)) :: (.int .i64 ((0 : Nat) : Int)) :: u60 :: u61 :: u62 :: u63 :: u64 :: u65 :: u66 :: u67 :: u68 :: u69 :: u70 :: u71 :: u72 :: []), []⟩ w := by
  refine wp_loop_ghost (fun gk a V => ∀ C : Prop, (∀ (u10 u11 u60 u61 u62 u63 u64 u65 u66 u67 u68 u69 u70 : Value) (k : Nat) (G : Nat → Value), gk = N.n - k → (k ≤ N.n ∧ BSt w0 V N F N.n s ∧ V.heap[q]? = some (.cells (rowOf G N.n).toArray 4 (0, 0)) ∧ (∀ j, j < k → G j = .bool (hasB N s j))) → a = ⟨List.toArray (u0 :: u1 :: u2 :: (.slice (some ⟨q, 0, none⟩) N.n N.n) :: u4 :: u5 :: (.pointer (some ⟨w0.heap.size + 2, 0, none⟩)) :: u7 :: u8 :: u9 :: u10 :: u11 :: u12 :: u13 :: u14 :: u15 :: u16 :: u17 :: u18 :: u19 :: u20 :: u21 :: u22 :: u23 :: u24 :: u25 :: u26 :: u27 :: u28 :: u29 :: u30 :: u31 :: u32 :: u33 :: u34 :: u35 :: u36 :: u37 :: u38 :: u39 :: u40 :: u41 :: u42 :: u43 :: u44 :: u45 :: u46 :: u47 :: u48 :: u49 :: u50 :: u51 :: u52 :: u53 :: u54 :: u55 :: u56 :: (.slice (some ⟨w0.heap.size + 1, 0, none⟩) N.n N.n) :: (.int .i64 ((N.n : Nat) : Int)) :: (.int .i64 ((k : Nat) : Int)) :: u60 :: u61 :: u62 :: u63 :: u64 :: u65 :: u66 :: u67 :: u68 :: u69 :: u70 :: u71 :: u72 :: []), []⟩ → C) → C) (N.n - 0) ?_ ?_
  · intro C hC
    exact hC _ _ _ _ _ _ _ _ _ _ _ _ _ (0) (G0) rfl hI rfl
  · intro gk a V hI'
    refine hI' _ ?_
    intro u10 u11 u60 u61 u62 u63 u64 u65 u66 u67 u68 u69 u70 k G hk hinv ha
    subst ha
    subst hk
    refine sbKb _ _ _ _ _ _ _ _ _ _ _ _ _ _ _ _ _ _ _ _ _ _ _ _ _ _ _ _ _ _ _ _ _ _ _ _ _ _ _ _ _ _ _ _ _ _ _ _ _ _ _ _ _ _ _ _ _ _ _ _ _ _ _ _ _ _ _ _ _ _ hs hq hoq hn8 hinv (fun v10 v11 v60 v61 v62 v63 v64 v65 v66 v67 v68 v69 v70 G2 V2 h2 hm => ?_) (fun v10 v11 v60 v61 v62 v63 v64 v65 v66 v67 v68 v69 v70 hx => hX v10 v11 v60 v61 v62 v63 v64 v65 v66 v67 v68 v69 v70 k G V hinv hx)
    refine ⟨_, hm, fun C hC => ?_⟩
    exact hC v10 v11 v60 v61 v62 v63 v64 v65 v66 v67 v68 v69 v70 ((k + 1)) (G2) rfl h2 rfl
end Go.Proofs.YtiipdhmfdgbmiaaDoor
end
section
set_option linter.unusedVariables false
set_option linter.unusedSimpArgs false
namespace Go.Proofs.YtiipdhmfdgbmiaaDoor
open Go.RowKit

/-- An own slice of yes and no. -/
def OwT (w : World) (B : Nat) (v : Value) (l : List Bool) : Prop := w.ownsRow B 4 1 v l.length (l.map Value.bool)
theorem OwT.nil (w : World) (B : Nat) : OwT w B (.slice none 0 0) [] := ⟨rfl, .inl ⟨rfl, rfl⟩⟩
theorem owt_row {w : World} {q n B : Nat} {G : Nat → Value} {l : List Bool} (h : w.heap[q]? = some (.cells (rowOf G n).toArray 4 (0, 0))) (hl : l.length = n) (hB : B ≤ q) (hn : n ≤ 1000000) (hG : ∀ j, j < n → G j = .bool (l.getD j false)) : OwT w B (.slice (some ⟨q, 0, none⟩) n n) l := by
  refine ⟨by simp, .inr ⟨q, n, (rowOf G n).toArray, by rw [hl], hB, h, by omega, by unfold maxLen; omega, by rw [List.size_toArray, rowOf_len, Nat.mul_one], ?_⟩⟩
  apply List.ext_getElem?
  intro j
  rw [List.getElem?_take]
  by_cases hj : j < n
  · rw [if_pos (by omega), rowOf_get _ hj, hG j hj, List.getElem?_map]
    rw [List.getD_eq_getElem?_getD, List.getElem?_eq_getElem (by omega)]
    rfl
  · rw [if_neg (by omega), List.getElem?_eq_none (by simp; omega)]
theorem has_get {N : Bch} (h : bestE N = 0) {j : Nat} (hj : j < N.n) : (hasL N).getD j false = hasB N (bestTo N N.n) j := by
  rw [hasL_some h]; simp [hj]
theorem has_len {N : Bch} (h : bestE N = 0) : (hasL N).length = N.n := by rw [hasL_some h]; simp
set_option maxRecDepth 100000 in
set_option maxHeartbeats 8000000 in
theorem best_any (B b : Nat) (H : BH) (N : Bch) (w : World) (h : BAt w B b H N) (ht : TabOk w) :
    Calls Tryd.prog 11 #[ptr b] w fun e w' => ∃ v s, s = bestS N ∧ e = .returned (.tuple #[(.agg #[.int .i64 s.g, .int .i64 s.al, .int .i64 s.ad, .int .i64 s.ac, .int .i64 s.bl, .int .i64 s.bd, .int .i64 s.bc, .bool s.r, .int .i64 s.wi, .int .i64 s.ep, .int .i64 s.ou]), v, .int .i64 (bestE N)]) ∧ OwT w' w.heap.size v (hasL N) ∧ Below w.heap.size w w' := by
  have hn8 := h.ok.n
  have hmf := make_found N.n (by omega)
  have hmb := make_bools N.n (by omega)
  have CL := Lib.hid (fun W (hb : Below w.heap.size w W) => bch_len_any B b H N W (h.below hb))
  have Hh := Lib.hid h
  have Ht := Lib.hid ht
  have hw0 := ht.pos
  have n0 : (0 : Int) ≤ (N.n : Int) := by omega
  have n1 : (0 : Int) < (N.n : Int) := by omega
  have I0 : Hid (∀ o1 o2 o3, o1 = .cells (suL suZ).toArray 32 (0, 0) → o2 = .cells (rowOf (fun _ => .slice none 0 0) N.n).toArray 73 (0, 0) → o3 = .cells (suL suZ).toArray 32 (0, 0) → BSt w (((w.alloc o1).alloc o2).alloc o3) N (fun _ => .slice none 0 0) 0 suZ) := fun o1 o2 o3 e1 e2 e3 => by
    subst e1 e2 e3
    exact ⟨below3 w _ _ _, (hp_old _ _ _ (by simp; omega)).trans ((hp_old _ _ _ (by simp)).trans (hp_new _ _ _ rfl)), (hp_old _ _ _ (by simp)).trans (hp_new _ _ _ (by simp)), hp_new _ _ _ (by simp), fun k hk => by omega⟩
  clear h ht
  unfold ptr at CL ⊢
  cases hdn : N.down with
  | true =>
    have HE := Lib.hid (show bestE N = 6 from if_pos hdn)
    have HD := Lib.hid (show dnE N = 6 from if_pos hdn)
    have CD := Lib.hid (fun W (hb : Below w.heap.size w W) => onDisk_any B b H N W (Hh.out.below hb) 0 (by omega) (Ht.out.below hb hw0))
    rw [HD.out] at CD
    clear hdn
    unfold ptr at CD
    go_enter Tryd.func11, Tryd.ntmps11
    go_wp2_with (go_at_call 36; refine (CL.out _ (below1 _ _)).mono ?_; rintro e wl ⟨rfl, rfl⟩)
    go_name_world w3 hw3
    have hb3 : BSt w w3 N (fun _ => .slice none 0 0) 0 suZ := by rw [← hw3]; exact I0.out _ _ _ rfl rfl rfl
    have HB3 := Lib.hid hb3
    clear hb3 hw3
    go_loopw [4, 17] (fun x i wr => i = .int .i64 0 ∧ wr = w3) (fun _ _ _ => 0)
    case atStart => exact ⟨rfl, rfl⟩
    case round =>
      obtain ⟨rfl, rfl⟩ := hrel
      go_wp2_with fail
      refine (CD.out _ HB3.out.bel).mono ?_
      rintro e w4 ⟨v, rfl, hov, hb4⟩
      obtain ⟨P, pc, rfl, hpc, _⟩ := own_form hov
      have HB4 := Lib.hid (HB3.out.below hb4)
      have hz4 := HB4.out.size
      clear hb4 hov
      generalize (dnL N 0).length = m at hpc
      have hnn : 0 < N.n := by omega
      go_wp2_with (first
        | (refine wpList_store_blk rfl 73 _ _ (by rfl) (w.heap.size + 1) 0 (.slice P m pc) (by rfl) (by rfl) (rowOf (fun _ => .slice none 0 0) N.n) 73 HB4.out.fnd [.slice P m pc] (by rfl) 1 rfl size_sus (by rw [rowOf_len]; omega) (by intro u hu; rw [List.mem_singleton.1 hu]; rfl) (rowOf (upd (fun _ => .slice none 0 0) 0 (.slice P m pc)) N.n) (rowOf_set _ _ hnn) ?_
           intro w5 h5 g5
           have HR5 := Lib.hid ((g5.block w.heap.size (by omega) (fun e => by injection e with e; omega)).trans HB4.out.res)
           have HL5 := Lib.hid (HB4.out.bel.grown g5 (by omega) (fun j e => by injection e with e; omega))
           have hz5 := g5.size
           clear h5 g5)
        | (refine wpList_store_blk rfl 32 _ _ (by rfl) w.heap.size 0 (.agg (suL suZ).toArray) (by rfl) (by rfl) (suL suZ) 32 HR5.out (suL suZ) rfl 11 rfl (by kernel_rfl) (Nat.le_refl 11) (suL_one suZ) (suL suZ) (by rfl) ?_; intro w6 h6 g6; obtain ⟨z0, z1, z2, z3, z4, z5, z6, z7, z8, z9, z10⟩ := sat_block h6))
      have HL6 := Lib.hid (HL5.out.grown g6 (by omega) (fun j e => by injection e with e; omega))
      refine bodyPost_ret (v := .tuple #[(.agg #[.int .i64 suZ.g, .int .i64 suZ.al, .int .i64 suZ.ad, .int .i64 suZ.ac, .int .i64 suZ.bl, .int .i64 suZ.bd, .int .i64 suZ.bc, .bool suZ.r, .int .i64 suZ.wi, .int .i64 suZ.ep, .int .i64 suZ.ou]), .slice none 0 0, .int .i64 6]) (by simp [results, Tryd.results11, go_sem, z0, z1, z2, z3, z4, z5, z6, z7, z8, z9, z10]) rfl ⟨_, suZ, (bestS_none (by rw [HE.out]; decide)).symm, by rw [HE.out], by rw [hasL_none (by rw [HE.out]; decide)]; exact OwT.nil _ _, HL6.out⟩
  | false =>
    go_enter Tryd.func11, Tryd.ntmps11
    go_wp2_with (go_at_call 36; refine (CL.out _ (below1 _ _)).mono ?_; rintro e wl ⟨rfl, rfl⟩)
    go_name_world w3 hw3
    have hb3 : BSt w w3 N (fun _ => .slice none 0 0) 0 suZ := by rw [← hw3]; exact I0.out _ _ _ rfl rfl rfl
    have HB3 := Lib.hid hb3
    have Hdn := Lib.hid hdn
    clear hb3 hw3 hdn I0 CL
    refine sbI (w0 := w) (B := B) (b := b) (H := H) (N := N) _ _ _ _ _ _ _ _ _ _ _ _ _ _ _ _ _ _ _ _ _ _ _ _ _ _ _ _ _ _ _ _ _ _ _ _ _ _ _ _ _ _ _ _ _ _ _ _ _ _ _ _ _ _ _ _ _ _ _ _ _ _ _ _ _ _ _ _ Hh.out Hdn.out Ht.out ⟨Nat.zero_le _, HB3.out⟩ (fun v3 v7 v9 v18 v19 v20 v21 v22 v23 v24 v25 v26 v27 v28 v29 v30 v31 v32 v33 v34 v35 v36 v37 v38 v39 v40 v41 v42 v43 v44 v45 v46 v47 v48 v49 i F V hI hx => ?_)
    obtain ⟨_, hS⟩ := hI
    subst hx
    have HS := Lib.hid hS
    clear hS HB3 Hh
    have Hin := Lib.hid (su64_in (bestTo_in N N.n)).1
    have hgc : V.cell? ⟨w.heap.size + 2, 0, none⟩ = some (.int .i64 (bestTo N N.n).g) := (cell_of_row _ _ 0 _ _ _ HS.out.bst).trans rfl
    have hzV := HS.out.size
    by_cases hg0 : (bestTo N N.n).g = 0
    · have HE := Lib.hid (show bestE N = 3 by unfold bestE; rw [if_neg (by simp [Hdn.out]), if_pos hg0])
      rw [hg0] at hgc
      clear hg0
      go_wp2_with (refine wpList_store_blk rfl 32 _ _ (by rfl) w.heap.size 0 (.agg (suL suZ).toArray) (by rfl) (by rfl) (suL suZ) 32 HS.out.res (suL suZ) rfl 11 rfl (by kernel_rfl) (Nat.le_refl 11) (suL_one suZ) (suL suZ) (by rfl) ?_; intro w6 h6 g6; obtain ⟨z0, z1, z2, z3, z4, z5, z6, z7, z8, z9, z10⟩ := sat_block h6)
      have HL6 := Lib.hid (HS.out.bel.grown g6 (by omega) (fun j e => by injection e with e; omega))
      refine bodyPost_ret (v := .tuple #[(.agg #[.int .i64 suZ.g, .int .i64 suZ.al, .int .i64 suZ.ad, .int .i64 suZ.ac, .int .i64 suZ.bl, .int .i64 suZ.bd, .int .i64 suZ.bc, .bool suZ.r, .int .i64 suZ.wi, .int .i64 suZ.ep, .int .i64 suZ.ou]), .slice none 0 0, .int .i64 3]) (by simp [results, Tryd.results11, go_sem, z0, z1, z2, z3, z4, z5, z6, z7, z8, z9, z10]) rfl ⟨_, suZ, (bestS_none (by rw [HE.out]; decide)).symm, by rw [HE.out], by rw [hasL_none (by rw [HE.out]; decide)]; exact OwT.nil _ _, HL6.out⟩
    · have HE := Lib.hid (show bestE N = 0 by unfold bestE; rw [if_neg (by simp [Hdn.out]), if_neg hg0])
      have Hhg := Lib.hid (fun j hj => has_get HE.out (j := j) hj)
      have Hhl := Lib.hid (has_len HE.out)
      have Hbs := Lib.hid (bestS_some HE.out)
      generalize bestTo N N.n = s at *
      go_wp2_with fail
      go_name_world w7 hw7
      have b7 : Below V.heap.size V w7 := by rw [← hw7]; exact below1 _ _
      have h7 : w7.heap[V.heap.size]? = some (.cells (rowOf (fun _ => .bool false) N.n).toArray 4 (0, 0)) := by rw [← hw7]; exact hp_new _ _ _ rfl
      have HS7 := Lib.hid (HS.out.below b7)
      have Hoq := Lib.hid (show ∀ k, k < N.n → (F k).ownBlock ≠ some V.heap.size from fun k hk e => by have := ((HS.out.own k hk).lt _ e).2; omega)
      clear hw7 b7
      generalize hq : V.heap.size = q at *
      refine sbK (w0 := w) (q := q) (N := N) (F := F) (s := s) _ _ _ _ _ _ _ _ _ _ _ _ _ _ _ _ _ _ _ _ _ _ _ _ _ _ _ _ _ _ _ _ _ _ _ _ _ _ _ _ _ _ _ _ _ _ _ _ _ _ _ _ _ _ _ _ _ _ _ _ _ _ _ _ _ _ _ _ _ Hin.out (by omega) Hoq.out (by omega) ⟨Nat.zero_le _, HS7.out, h7, fun j hj => by omega⟩ (fun v10 v11 v60 v61 v62 v63 v64 v65 v66 v67 v68 v69 v70 k G V2 hI hx => ?_)
      obtain ⟨_, hS8, hG8, hall⟩ := hI
      subst hx
      have HS8 := Lib.hid hS8
      have HG8 := Lib.hid hG8
      have Hall := Lib.hid hall
      have hz8 := hS8.size
      obtain ⟨y0, y1, y2, y3, y4, y5, y6, y7, y8, y9, y10⟩ := sat_block hS8.bst
      clear hS8 hG8 hall h7 HS7 HS
      go_wp2_with (refine wpList_store_blk rfl 32 _ _ (by rfl) w.heap.size 0 (.agg (suL s).toArray) (by rfl) (by rfl) (suL suZ) 32 HS8.out.res (suL s) rfl 11 rfl (by kernel_rfl) (Nat.le_refl 11) (suL_one s) (suL s) (by rfl) ?_; intro w9 h9 g9; obtain ⟨z0, z1, z2, z3, z4, z5, z6, z7, z8, z9, z10⟩ := sat_block h9)
      have HL9 := Lib.hid (HS8.out.bel.grown g9 (by omega) (fun j e => by injection e with e; omega))
      have HG9 := Lib.hid ((g9.block q (Array.getElem?_eq_some_iff.1 HG8.out).1 (fun e => by injection e with e; omega)).trans HG8.out)
      refine bodyPost_ret (v := .tuple #[(.agg #[.int .i64 s.g, .int .i64 s.al, .int .i64 s.ad, .int .i64 s.ac, .int .i64 s.bl, .int .i64 s.bd, .int .i64 s.bc, .bool s.r, .int .i64 s.wi, .int .i64 s.ep, .int .i64 s.ou]), .slice (some ⟨q, 0, none⟩) N.n N.n, .int .i64 0]) (by simp [results, Tryd.results11, go_sem, z0, z1, z2, z3, z4, z5, z6, z7, z8, z9, z10]) rfl ⟨_, s, Hbs.out.symm, by rw [HE.out], owt_row HG9.out Hhl.out (by omega) (by omega) (fun j hj => by rw [Hall.out j hj, Hhg.out j hj]), HL9.out⟩
end Go.Proofs.YtiipdhmfdgbmiaaDoor
end
