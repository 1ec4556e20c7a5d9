/- RowZeros: its loops. -/
import Derived.Test.YtbojmofkhkegmaaRowKit2
set_option linter.unusedVariables false
set_option linter.unusedSimpArgs false
namespace Go.Proofs.Ytbojmofkhkegmaa
open Go.RowKit

noncomputable def codeRZ : Code := Try.f5.body.getD .skip
/-- A row of zeros of one's own. -/
def DZ (B lo : Nat) (V : World) (v : Value) (n : Nat) : Prop := ∃ vs, V.ownsRow B 24 1 v n vs ∧ RowsY V lo v.ownBlock vs (List.replicate n (zeroL 32))
theorem z32_len : (zeroL 32).length = 32 := rfl
set_option maxRecDepth 100000 in
set_option maxHeartbeats 3200000 in
theorem rzAb {W0 : World} {n l c r : Int} {D F W gb gz lo : Nat} {dv : Value} {i : Nat} {w : World} (u0 u1 u2 u3 u4 u5 u6 u7 u8 u13 u14 u15 u16 u17 u18 u19 u20 u21 u22 u23 u24 u25 u26 u27 u28 u29 u30 u31 u32 u33 u34 u35 u36 u37 u38 u39 u40 u41 u42 u43 u44 u45 u46 u47 u48 u49 u50 u51 u52 u53 u54 u55 u56 u57 u58 u59 u60 u61 u62 u63 u64 u65 u66 u67 u68 u69 u70 u71 u72 u73 u74 u75 u76 u77 u78 u79 u80 u81 u82 u83 u84 u85 u86 u87 u88 u89 u90 u91 u92 u93 u94 u95 u96 u97 u98 u99 u100 u101 u102 u103 u104 u105 u106 u107 u108 u109 u110 u111 u112 u113 u114 : Value) (K : Act → World → Prop) (Q0 : Exit → Act → World → Prop) (gr : Gr n l c r D F W) (hg : GAt W0 gb l D c) (hgb : gb < W0.heap.size) (hz : OwB 5 W0 lo (.slice (some ⟨gz, 0, none⟩) 32 32) (zeroL 32)) (hlo : lo ≤ W0.heap.size) (hI : (i ≤ W ∧ DZ W0.heap.size lo w dv i ∧ Below W0.heap.size W0 w))
    (hK : ∀ (v27 v28 v29 v30 v31 v32 v33 v34 v35 v36 : Value) (dv2 : Value) (V : World), ((i + 1) ≤ W ∧ DZ W0.heap.size lo V dv2 (i + 1) ∧ Below W0.heap.size W0 V) → W - (i + 1) < W - i → K ⟨List.toArray (u0 :: u1 :: u2 :: u3 :: u4 :: u5 :: u6 :: u7 :: u8 :: (.pointer (some ⟨gb, 0, none⟩)) :: (.slice (some ⟨gz, 0, none⟩) 32 32) :: dv2 :: (.int .i64 (((i + 1) : Nat) : Int)) :: u13 :: u14 :: u15 :: u16 :: u17 :: u18 :: u19 :: u20 :: u21 :: u22 :: u23 :: u24 :: u25 :: u26 :: v27 :: v28 :: v29 :: v30 :: v31 :: v32 :: v33 :: v34 :: v35 :: v36 :: u37 :: u38 :: u39 :: u40 :: u41 :: u42 :: u43 :: u44 :: u45 :: u46 :: u47 :: u48 :: u49 :: u50 :: u51 :: u52 :: u53 :: u54 :: u55 :: u56 :: u57 :: u58 :: u59 :: u60 :: u61 :: u62 :: u63 :: u64 :: u65 :: u66 :: u67 :: u68 :: u69 :: u70 :: u71 :: u72 :: u73 :: u74 :: u75 :: u76 :: u77 :: u78 :: u79 :: u80 :: u81 :: u82 :: u83 :: u84 :: u85 :: u86 :: u87 :: u88 :: u89 :: u90 :: u91 :: u92 :: u93 :: u94 :: u95 :: u96 :: u97 :: u98 :: u99 :: u100 :: u101 :: u102 :: u103 :: u104 :: u105 :: u106 :: u107 :: u108 :: u109 :: u110 :: u111 :: u112 :: u113 :: u114 :: []), []⟩ V)
    (hX : ∀ (v27 v28 v29 v30 v31 v32 v33 v34 v35 v36 : Value) (V : World), (i ≤ W ∧ DZ W0.heap.size lo V dv i ∧ Below W0.heap.size W0 V) → (i = W) → Q0 (.exit 0) ⟨List.toArray (u0 :: u1 :: u2 :: u3 :: u4 :: u5 :: u6 :: u7 :: u8 :: (.pointer (some ⟨gb, 0, none⟩)) :: (.slice (some ⟨gz, 0, none⟩) 32 32) :: dv :: (.int .i64 ((i : Nat) : Int)) :: u13 :: u14 :: u15 :: u16 :: u17 :: u18 :: u19 :: u20 :: u21 :: u22 :: u23 :: u24 :: u25 :: u26 :: v27 :: v28 :: v29 :: v30 :: v31 :: v32 :: v33 :: v34 :: v35 :: v36 :: u37 :: u38 :: u39 :: u40 :: u41 :: u42 :: u43 :: u44 :: u45 :: u46 :: u47 :: u48 :: u49 :: u50 :: u51 :: u52 :: u53 :: u54 :: u55 :: u56 :: u57 :: u58 :: u59 :: u60 :: u61 :: u62 :: u63 :: u64 :: u65 :: u66 :: u67 :: u68 :: u69 :: u70 :: u71 :: u72 :: u73 :: u74 :: u75 :: u76 :: u77 :: u78 :: u79 :: u80 :: u81 :: u82 :: u83 :: u84 :: u85 :: u86 :: u87 :: u88 :: u89 :: u90 :: u91 :: u92 :: u93 :: u94 :: u95 :: u96 :: u97 :: u98 :: u99 :: u100 :: u101 :: u102 :: u103 :: u104 :: u105 :: u106 :: u107 :: u108 :: u109 :: u110 :: u111 :: u112 :: u113 :: u114 :: []), []⟩ V) :
    Code.wp Try.prog (sub [1, 1, 1, 1, 1, 0, 1, 0, 0] codeRZ) (Exit.then K Q0) ⟨List.toArray (u0 :: u1 :: u2 :: u3 :: u4 :: u5 :: u6 :: u7 :: u8 :: (.pointer (some ⟨gb, 0, none⟩)) :: (.slice (some ⟨gz, 0, none⟩) 32 32) :: dv :: (.int .i64 ((i : Nat) : Int)) :: u13 :: u14 :: u15 :: u16 :: u17 :: u18 :: u19 :: u20 :: u21 :: u22 :: u23 :: u24 :: u25 :: u26 :: u27 :: u28 :: u29 :: u30 :: u31 :: u32 :: u33 :: u34 :: u35 :: u36 :: u37 :: u38 :: u39 :: u40 :: u41 :: u42 :: u43 :: u44 :: u45 :: u46 :: u47 :: u48 :: u49 :: u50 :: u51 :: u52 :: u53 :: u54 :: u55 :: u56 :: u57 :: u58 :: u59 :: u60 :: u61 :: u62 :: u63 :: u64 :: u65 :: u66 :: u67 :: u68 :: u69 :: u70 :: u71 :: u72 :: u73 :: u74 :: u75 :: u76 :: u77 :: u78 :: u79 :: u80 :: u81 :: u82 :: u83 :: u84 :: u85 :: u86 :: u87 :: u88 :: u89 :: u90 :: u91 :: u92 :: u93 :: u94 :: u95 :: u96 :: u97 :: u98 :: u99 :: u100 :: u101 :: u102 :: u103 :: u104 :: u105 :: u106 :: u107 :: u108 :: u109 :: u110 :: u111 :: u112 :: u113 :: u114 :: []), []⟩ w := by
  have HK := Lib.hid hK
  have HX := Lib.hid hX
  clear hK hX
  conv => arg 2; whnf
  obtain ⟨hi, ⟨vs, hown, hrows⟩, hb⟩ := hI
  have HW := Lib.hid (fun V => refWidth_any l (D : Int) c V gr.l64 gr.d64 gr.c64)
  rw [gr.wd] at HW
  have hw7 := gr.w7
  obtain ⟨g1, g2, g3⟩ := hg.below hb hgb
  by_cases hlt : i < W
  · have i0 : (0 : Int) ≤ (i : Int) := by omega
    have i1 : (i : Int) < (W : Int) := by omega
    have hgz := (hz.lt gz rfl).2
    clear HX gr hg
    go_wp2_with fail
    (with_reducible refine (HW.out _).mono ?_); rintro e w1 ⟨rfl, hb1⟩
    have hs0 := hb.size
    have hrows1 := hrows.below hb1
    have hown1 := hown.kept (grown_none hb1) (Classical.em _)
    have hbw1 := hb.trans (hb1.mono hs0)
    have hz1 := hz.below hbw1
    go_wp2_with (at_builtin; refine wpList_append_V rfl _ _ _ rfl W0.heap.size 24 (.slice none 0 0) 24 Try.underlying27 info_row2 rfl _ i vs rfl (hown1.kept (grown_none (below1 w1 _)) (Classical.em _)) (w1.heap.size + 1) (some ⟨w1.heap.size, 0, none⟩) 1 1 [.slice (some ⟨gz, 0, none⟩) 32 32] rfl rfl (fun _ => ⟨w1.heap.size, 0, rfl, by omega, fun j hj => by obtain rfl : j = 0 := (by simp at hj; omega); exact cell_of_row _ _ _ _ _ _ (hp_new _ _ _ rfl)⟩) (fun u hu => by simp at hu; subst hu; rfl) (by unfold maxLen; omega) (by omega) (by have := hbw1.size; simp; omega) ?_; intro v2 w2 hown2 hg2 hat2)
    have hX0 := (hrows1.below (below1 w1 (.cells #[.slice (some ⟨gz, 0, none⟩) 32 32] 24))).snoc (c := 32) (hz1.below (below1 w1 _)).rdbf (fun hp a ha e => by
      injection ha with ha
      subst ha
      have h3 := (hown.lt _ e.symm).1
      simp at h3
      omega)
    rw [z32_len, ← List.replicate_succ'] at hX0
    have hX := hX0.grown hg2 hat2
    have hbw2 := (hbw1.alloc hbw1.size (.cells #[.slice (some ⟨gz, 0, none⟩) 32 32] 24)).grown hg2 (by have := hbw1.size; simp; omega) (fun j hj => (hown.lt j hj).1)
    have Hfin := Lib.hid (show DZ W0.heap.size lo w2 v2 (i + 1) from ⟨_, hown2, hX⟩)
    clear hX0 hX hown2 hg2 hat2 hrows1 hown1 hbw1 hz1 hz hb1 hb hrows hown
    go_wp2_with fail
    exact HK.out _ _ _ _ _ _ _ _ _ _ _ _ ⟨by omega, Hfin.out, hbw2⟩ (by omega)
  · have i1 : ¬ (i : Int) < (W : Int) := by omega
    have Hin := Lib.hid (show i = W by omega)
    clear HK gr hg
    go_wp2_with fail
    (with_reducible refine (HW.out _).mono ?_); rintro e w1 ⟨rfl, hb1⟩
    go_wp2_with fail
    exact HX.out _ _ _ _ _ _ _ _ _ _ _ ⟨by omega, ⟨vs, hown.kept (grown_none hb1) (Classical.em _), hrows.below hb1⟩, hb.trans (hb1.mono hb.size)⟩ Hin.out
set_option maxRecDepth 100000 in
set_option maxHeartbeats 3200000 in
theorem rzA {W0 : World} {n l c r : Int} {D F W gb gz lo : Nat}  {w : World} (u0 u1 u2 u3 u4 u5 u6 u7 u8 u13 u14 u15 u16 u17 u18 u19 u20 u21 u22 u23 u24 u25 u26 u27 u28 u29 u30 u31 u32 u33 u34 u35 u36 u37 u38 u39 u40 u41 u42 u43 u44 u45 u46 u47 u48 u49 u50 u51 u52 u53 u54 u55 u56 u57 u58 u59 u60 u61 u62 u63 u64 u65 u66 u67 u68 u69 u70 u71 u72 u73 u74 u75 u76 u77 u78 u79 u80 u81 u82 u83 u84 u85 u86 u87 u88 u89 u90 u91 u92 u93 u94 u95 u96 u97 u98 u99 u100 u101 u102 u103 u104 u105 u106 u107 u108 u109 u110 u111 u112 u113 u114 : Value) (Q : Exit → Act → World → Prop) (gr : Gr n l c r D F W) (hg : GAt W0 gb l D c) (hgb : gb < W0.heap.size) (hz : OwB 5 W0 lo (.slice (some ⟨gz, 0, none⟩) 32 32) (zeroL 32)) (hlo : lo ≤ W0.heap.size) (hI : (0 ≤ W ∧ DZ W0.heap.size lo w (.slice none 0 0) 0 ∧ Below W0.heap.size W0 w))
    (hX : ∀ (v27 v28 v29 v30 v31 v32 v33 v34 v35 v36 : Value) (dv : Value) (i : Nat) (V : World), (i ≤ W ∧ DZ W0.heap.size lo V dv i ∧ Below W0.heap.size W0 V) → (i = W) → Q (.exit 0) ⟨List.toArray (u0 :: u1 :: u2 :: u3 :: u4 :: u5 :: u6 :: u7 :: u8 :: (.pointer (some ⟨gb, 0, none⟩)) :: (.slice (some ⟨gz, 0, none⟩) 32 32) :: dv :: (.int .i64 ((i : Nat) : Int)) :: u13 :: u14 :: u15 :: u16 :: u17 :: u18 :: u19 :: u20 :: u21 :: u22 :: u23 :: u24 :: u25 :: u26 :: v27 :: v28 :: v29 :: v30 :: v31 :: v32 :: v33 :: v34 :: v35 :: v36 :: u37 :: u38 :: u39 :: u40 :: u41 :: u42 :: u43 :: u44 :: u45 :: u46 :: u47 :: u48 :: u49 :: u50 :: u51 :: u52 :: u53 :: u54 :: u55 :: u56 :: u57 :: u58 :: u59 :: u60 :: u61 :: u62 :: u63 :: u64 :: u65 :: u66 :: u67 :: u68 :: u69 :: u70 :: u71 :: u72 :: u73 :: u74 :: u75 :: u76 :: u77 :: u78 :: u79 :: u80 :: u81 :: u82 :: u83 :: u84 :: u85 :: u86 :: u87 :: u88 :: u89 :: u90 :: u91 :: u92 :: u93 :: u94 :: u95 :: u96 :: u97 :: u98 :: u99 :: u100 :: u101 :: u102 :: u103 :: u104 :: u105 :: u106 :: u107 :: u108 :: u109 :: u110 :: u111 :: u112 :: u113 :: u114 :: []), []⟩ V) :
    Code.wp Try.prog (.loop (sub [1, 1, 1, 1, 1, 0, 1, 0, 0] codeRZ)) Q ⟨List.toArray (u0 :: u1 :: u2 :: u3 :: u4 :: u5 :: u6 :: u7 :: u8 :: (.pointer (some ⟨gb, 0, none⟩)) :: (.slice (some ⟨gz, 0, none⟩) 32 32) :: (.slice none 0 0) :: (.int .i64 ((0 : Nat) : Int)) :: u13 :: u14 :: u15 :: u16 :: u17 :: u18 :: u19 :: u20 :: u21 :: u22 :: u23 :: u24 :: u25 :: u26 :: u27 :: u28 :: u29 :: u30 :: u31 :: u32 :: u33 :: u34 :: u35 :: u36 :: u37 :: u38 :: u39 :: u40 :: u41 :: u42 :: u43 :: u44 :: u45 :: u46 :: u47 :: u48 :: u49 :: u50 :: u51 :: u52 :: u53 :: u54 :: u55 :: u56 :: u57 :: u58 :: u59 :: u60 :: u61 :: u62 :: u63 :: u64 :: u65 :: u66 :: u67 :: u68 :: u69 :: u70 :: u71 :: u72 :: u73 :: u74 :: u75 :: u76 :: u77 :: u78 :: u79 :: u80 :: u81 :: u82 :: u83 :: u84 :: u85 :: u86 :: u87 :: u88 :: u89 :: u90 :: u91 :: u92 :: u93 :: u94 :: u95 :: u96 :: u97 :: u98 :: u99 :: u100 :: u101 :: u102 :: u103 :: u104 :: u105 :: u106 :: u107 :: u108 :: u109 :: u110 :: u111 :: u112 :: u113 :: u114 :: []), []⟩ w := by
  refine wp_loop_ghost (fun gk a V => ∀ C : Prop, (∀ (u27 u28 u29 u30 u31 u32 u33 u34 u35 u36 : Value) (dv : Value) (i : Nat), gk = W - i → (i ≤ W ∧ DZ W0.heap.size lo V dv i ∧ Below W0.heap.size W0 V) → a = ⟨List.toArray (u0 :: u1 :: u2 :: u3 :: u4 :: u5 :: u6 :: u7 :: u8 :: (.pointer (some ⟨gb, 0, none⟩)) :: (.slice (some ⟨gz, 0, none⟩) 32 32) :: dv :: (.int .i64 ((i : Nat) : Int)) :: u13 :: u14 :: u15 :: u16 :: u17 :: u18 :: u19 :: u20 :: u21 :: u22 :: u23 :: u24 :: u25 :: u26 :: u27 :: u28 :: u29 :: u30 :: u31 :: u32 :: u33 :: u34 :: u35 :: u36 :: u37 :: u38 :: u39 :: u40 :: u41 :: u42 :: u43 :: u44 :: u45 :: u46 :: u47 :: u48 :: u49 :: u50 :: u51 :: u52 :: u53 :: u54 :: u55 :: u56 :: u57 :: u58 :: u59 :: u60 :: u61 :: u62 :: u63 :: u64 :: u65 :: u66 :: u67 :: u68 :: u69 :: u70 :: u71 :: u72 :: u73 :: u74 :: u75 :: u76 :: u77 :: u78 :: u79 :: u80 :: u81 :: u82 :: u83 :: u84 :: u85 :: u86 :: u87 :: u88 :: u89 :: u90 :: u91 :: u92 :: u93 :: u94 :: u95 :: u96 :: u97 :: u98 :: u99 :: u100 :: u101 :: u102 :: u103 :: u104 :: u105 :: u106 :: u107 :: u108 :: u109 :: u110 :: u111 :: u112 :: u113 :: u114 :: []), []⟩ → C) → C) (W - 0) ?_ ?_
  · intro C hC
    exact hC _ _ _ _ _ _ _ _ _ _ ((.slice none 0 0)) (0) rfl hI rfl
  · intro gk a V hI'
    refine hI' _ ?_
    intro u27 u28 u29 u30 u31 u32 u33 u34 u35 u36 dv i hk hinv ha
    subst ha
    subst hk
    refine rzAb _ _ _ _ _ _ _ _ _ _ _ _ _ _ _ _ _ _ _ _ _ _ _ _ _ _ _ _ _ _ _ _ _ _ _ _ _ _ _ _ _ _ _ _ _ _ _ _ _ _ _ _ _ _ _ _ _ _ _ _ _ _ _ _ _ _ _ _ _ _ _ _ _ _ _ _ _ _ _ _ _ _ _ _ _ _ _ _ _ _ _ _ _ _ _ _ _ _ _ _ _ _ _ _ _ _ _ _ _ _ _ _ _ gr hg hgb hz hlo hinv (fun v27 v28 v29 v30 v31 v32 v33 v34 v35 v36 dv2 V2 h2 hm => ?_) (fun v27 v28 v29 v30 v31 v32 v33 v34 v35 v36 V2 hinv2 hx => hX v27 v28 v29 v30 v31 v32 v33 v34 v35 v36 dv i V2 hinv2 hx)
    refine ⟨_, hm, fun C hC => ?_⟩
    exact hC v27 v28 v29 v30 v31 v32 v33 v34 v35 v36 (dv2) ((i + 1)) rfl h2 rfl
set_option maxRecDepth 100000 in
set_option maxHeartbeats 3200000 in
theorem rzBb {W5 : World} {D g gz lo : Nat} {xs : List Value} {fl : List (List UInt8)} {j : Nat} {w : World} (u0 u1 u2 u3 u4 u5 u6 u7 u8 u9 u11 u12 u13 u14 u15 u16 u17 u18 u19 u20 u21 u22 u23 u24 u25 u26 u27 u28 u29 u30 u31 u32 u33 u34 u35 u36 u37 u38 u39 u40 u41 u42 u43 u44 u45 u46 u47 u48 u49 u50 u51 u52 u56 u57 u58 u59 u60 u61 u62 u63 u64 u65 u66 u67 u68 u69 u70 u71 u72 u73 u74 u75 u76 u77 u78 u79 u80 u81 u82 u83 u84 u85 u86 u87 u88 u89 u90 u91 u92 u93 u94 u95 u96 u97 u98 u99 u100 u101 u102 u103 u104 u105 u106 u107 u108 u109 u110 u111 u112 u113 u114 : Value) (K : Act → World → Prop) (Q0 : Exit → Act → World → Prop) (hq : Rq lo W5 g D D xs fl) (hfl : ∀ i, i < D → fl.getD i [] = zeroL 32) (hz : RdB W5 W5.heap.size (some ⟨gz, 0, none⟩) (zeroL 32)) (hd8 : D ≤ 8) (hI : (j ≤ D ∧ Below W5.heap.size W5 w))
    (hK : ∀ (v8 v16 v56 v57 v58 v59 v60 v61 v62 v63 : Value)  (V : World), ((j + 1) ≤ D ∧ Below W5.heap.size W5 V) → D - (j + 1) < D - j → K ⟨List.toArray (u0 :: u1 :: u2 :: u3 :: u4 :: u5 :: u6 :: u7 :: v8 :: u9 :: (.slice (some ⟨gz, 0, none⟩) 32 32) :: u11 :: u12 :: u13 :: u14 :: u15 :: v16 :: u17 :: u18 :: u19 :: u20 :: u21 :: u22 :: u23 :: u24 :: u25 :: u26 :: u27 :: u28 :: u29 :: u30 :: u31 :: u32 :: u33 :: u34 :: u35 :: u36 :: u37 :: u38 :: u39 :: u40 :: u41 :: u42 :: u43 :: u44 :: u45 :: u46 :: u47 :: u48 :: u49 :: u50 :: u51 :: u52 :: (.slice (some ⟨g, 0, none⟩) D D) :: (.int .i64 (D : Int)) :: (.int .i64 (((j + 1) : Nat) : Int)) :: v56 :: v57 :: v58 :: v59 :: v60 :: v61 :: v62 :: v63 :: u64 :: u65 :: u66 :: u67 :: u68 :: u69 :: u70 :: u71 :: u72 :: u73 :: u74 :: u75 :: u76 :: u77 :: u78 :: u79 :: u80 :: u81 :: u82 :: u83 :: u84 :: u85 :: u86 :: u87 :: u88 :: u89 :: u90 :: u91 :: u92 :: u93 :: u94 :: u95 :: u96 :: u97 :: u98 :: u99 :: u100 :: u101 :: u102 :: u103 :: u104 :: u105 :: u106 :: u107 :: u108 :: u109 :: u110 :: u111 :: u112 :: u113 :: u114 :: []), []⟩ V)
    (hX : ∀ (v8 v16 v56 v57 v58 v59 v60 v61 v62 v63 : Value), (True) → Q0 (.exit 2) ⟨List.toArray (u0 :: u1 :: u2 :: u3 :: u4 :: u5 :: u6 :: u7 :: v8 :: u9 :: (.slice (some ⟨gz, 0, none⟩) 32 32) :: u11 :: u12 :: u13 :: u14 :: u15 :: v16 :: u17 :: u18 :: u19 :: u20 :: u21 :: u22 :: u23 :: u24 :: u25 :: u26 :: u27 :: u28 :: u29 :: u30 :: u31 :: u32 :: u33 :: u34 :: u35 :: u36 :: u37 :: u38 :: u39 :: u40 :: u41 :: u42 :: u43 :: u44 :: u45 :: u46 :: u47 :: u48 :: u49 :: u50 :: u51 :: u52 :: (.slice (some ⟨g, 0, none⟩) D D) :: (.int .i64 (D : Int)) :: (.int .i64 ((j : Nat) : Int)) :: v56 :: v57 :: v58 :: v59 :: v60 :: v61 :: v62 :: v63 :: u64 :: u65 :: u66 :: u67 :: u68 :: u69 :: u70 :: u71 :: u72 :: u73 :: u74 :: u75 :: u76 :: u77 :: u78 :: u79 :: u80 :: u81 :: u82 :: u83 :: u84 :: u85 :: u86 :: u87 :: u88 :: u89 :: u90 :: u91 :: u92 :: u93 :: u94 :: u95 :: u96 :: u97 :: u98 :: u99 :: u100 :: u101 :: u102 :: u103 :: u104 :: u105 :: u106 :: u107 :: u108 :: u109 :: u110 :: u111 :: u112 :: u113 :: u114 :: []), []⟩ w) :
    Code.wp Try.prog (sub [1, 1, 1, 1, 1, 1, 1, 1, 0, 1, 0, 0] codeRZ) (Exit.then K Q0) ⟨List.toArray (u0 :: u1 :: u2 :: u3 :: u4 :: u5 :: u6 :: u7 :: u8 :: u9 :: (.slice (some ⟨gz, 0, none⟩) 32 32) :: u11 :: u12 :: u13 :: u14 :: u15 :: u16 :: u17 :: u18 :: u19 :: u20 :: u21 :: u22 :: u23 :: u24 :: u25 :: u26 :: u27 :: u28 :: u29 :: u30 :: u31 :: u32 :: u33 :: u34 :: u35 :: u36 :: u37 :: u38 :: u39 :: u40 :: u41 :: u42 :: u43 :: u44 :: u45 :: u46 :: u47 :: u48 :: u49 :: u50 :: u51 :: u52 :: (.slice (some ⟨g, 0, none⟩) D D) :: (.int .i64 (D : Int)) :: (.int .i64 ((j : Nat) : Int)) :: u56 :: u57 :: u58 :: u59 :: u60 :: u61 :: u62 :: u63 :: u64 :: u65 :: u66 :: u67 :: u68 :: u69 :: u70 :: u71 :: u72 :: u73 :: u74 :: u75 :: u76 :: u77 :: u78 :: u79 :: u80 :: u81 :: u82 :: u83 :: u84 :: u85 :: u86 :: u87 :: u88 :: u89 :: u90 :: u91 :: u92 :: u93 :: u94 :: u95 :: u96 :: u97 :: u98 :: u99 :: u100 :: u101 :: u102 :: u103 :: u104 :: u105 :: u106 :: u107 :: u108 :: u109 :: u110 :: u111 :: u112 :: u113 :: u114 :: []), []⟩ w := by
  have HK := Lib.hid hK
  have HX := Lib.hid hX
  clear hK hX
  conv => arg 2; whnf
  obtain ⟨hj, hb⟩ := hI
  by_cases hlt : j < D
  · have i0 : (0 : Int) ≤ (j : Int) := by omega
    have i1 : (j : Int) < (D : Int) := by omega
    obtain ⟨A1, c1, _, z1, ho1⟩ := hq.at j hlt
    rw [← hb.cell (p := ⟨g, j, none⟩) hq.glt.2] at z1
    rw [hfl j hlt] at z1 ho1
    rw [z32_len] at z1 ho1
    have CS := Lib.hid (sameT_any (c := c1) (c' := 32) z32_len.symm z32_len.symm ((ho1.rdS.1.below hb (Nat.le_refl _)).more hb.size) ((hz.below hb (Nat.le_refl _)).more hb.size))
    clear HX hq hfl hz ho1
    go_wp2_with fail
    (with_reducible refine CS.out.mono ?_); rintro e w1 ⟨rfl, m, rfl⟩
    go_wp2_with fail
    exact HK.out _ _ _ _ _ _ _ _ _ _ _ ⟨by omega, hb.trans (belowN _ _ m)⟩ (by omega)
  · have i1 : ¬ (j : Int) < (D : Int) := by omega
    clear HK hq hfl hz
    go_wp2_with fail
    exact HX.out _ _ _ _ _ _ _ _ _ _ (by trivial)
set_option maxRecDepth 100000 in
set_option maxHeartbeats 3200000 in
theorem rzB {W5 : World} {D g gz lo : Nat} {xs : List Value} {fl : List (List UInt8)}  {w : World} (u0 u1 u2 u3 u4 u5 u6 u7 u8 u9 u11 u12 u13 u14 u15 u16 u17 u18 u19 u20 u21 u22 u23 u24 u25 u26 u27 u28 u29 u30 u31 u32 u33 u34 u35 u36 u37 u38 u39 u40 u41 u42 u43 u44 u45 u46 u47 u48 u49 u50 u51 u52 u56 u57 u58 u59 u60 u61 u62 u63 u64 u65 u66 u67 u68 u69 u70 u71 u72 u73 u74 u75 u76 u77 u78 u79 u80 u81 u82 u83 u84 u85 u86 u87 u88 u89 u90 u91 u92 u93 u94 u95 u96 u97 u98 u99 u100 u101 u102 u103 u104 u105 u106 u107 u108 u109 u110 u111 u112 u113 u114 : Value) (Q : Exit → Act → World → Prop) (hq : Rq lo W5 g D D xs fl) (hfl : ∀ i, i < D → fl.getD i [] = zeroL 32) (hz : RdB W5 W5.heap.size (some ⟨gz, 0, none⟩) (zeroL 32)) (hd8 : D ≤ 8) (hI : (0 ≤ D ∧ Below W5.heap.size W5 w))
    (hX : ∀ (v8 v16 v56 v57 v58 v59 v60 v61 v62 v63 : Value) (j : Nat) (V : World), (j ≤ D ∧ Below W5.heap.size W5 V) → (True) → Q (.exit 2) ⟨List.toArray (u0 :: u1 :: u2 :: u3 :: u4 :: u5 :: u6 :: u7 :: v8 :: u9 :: (.slice (some ⟨gz, 0, none⟩) 32 32) :: u11 :: u12 :: u13 :: u14 :: u15 :: v16 :: u17 :: u18 :: u19 :: u20 :: u21 :: u22 :: u23 :: u24 :: u25 :: u26 :: u27 :: u28 :: u29 :: u30 :: u31 :: u32 :: u33 :: u34 :: u35 :: u36 :: u37 :: u38 :: u39 :: u40 :: u41 :: u42 :: u43 :: u44 :: u45 :: u46 :: u47 :: u48 :: u49 :: u50 :: u51 :: u52 :: (.slice (some ⟨g, 0, none⟩) D D) :: (.int .i64 (D : Int)) :: (.int .i64 ((j : Nat) : Int)) :: v56 :: v57 :: v58 :: v59 :: v60 :: v61 :: v62 :: v63 :: u64 :: u65 :: u66 :: u67 :: u68 :: u69 :: u70 :: u71 :: u72 :: u73 :: u74 :: u75 :: u76 :: u77 :: u78 :: u79 :: u80 :: u81 :: u82 :: u83 :: u84 :: u85 :: u86 :: u87 :: u88 :: u89 :: u90 :: u91 :: u92 :: u93 :: u94 :: u95 :: u96 :: u97 :: u98 :: u99 :: u100 :: u101 :: u102 :: u103 :: u104 :: u105 :: u106 :: u107 :: u108 :: u109 :: u110 :: u111 :: u112 :: u113 :: u114 :: []), []⟩ V) :
    Code.wp Try.prog (.loop (sub [1, 1, 1, 1, 1, 1, 1, 1, 0, 1, 0, 0] codeRZ)) Q ⟨List.toArray (u0 :: u1 :: u2 :: u3 :: u4 :: u5 :: u6 :: u7 :: u8 :: u9 :: (.slice (some ⟨gz, 0, none⟩) 32 32) :: u11 :: u12 :: u13 :: u14 :: u15 :: u16 :: u17 :: u18 :: u19 :: u20 :: u21 :: u22 :: u23 :: u24 :: u25 :: u26 :: u27 :: u28 :: u29 :: u30 :: u31 :: u32 :: u33 :: u34 :: u35 :: u36 :: u37 :: u38 :: u39 :: u40 :: u41 :: u42 :: u43 :: u44 :: u45 :: u46 :: u47 :: u48 :: u49 :: u50 :: u51 :: u52 :: (.slice (some ⟨g, 0, none⟩) D D) :: (.int .i64 (D : Int)) :: (.int .i64 ((0 : Nat) : Int)) :: u56 :: u57 :: u58 :: u59 :: u60 :: u61 :: u62 :: u63 :: u64 :: u65 :: u66 :: u67 :: u68 :: u69 :: u70 :: u71 :: u72 :: u73 :: u74 :: u75 :: u76 :: u77 :: u78 :: u79 :: u80 :: u81 :: u82 :: u83 :: u84 :: u85 :: u86 :: u87 :: u88 :: u89 :: u90 :: u91 :: u92 :: u93 :: u94 :: u95 :: u96 :: u97 :: u98 :: u99 :: u100 :: u101 :: u102 :: u103 :: u104 :: u105 :: u106 :: u107 :: u108 :: u109 :: u110 :: u111 :: u112 :: u113 :: u114 :: []), []⟩ w := by
  refine wp_loop_ghost (fun gk a V => ∀ C : Prop, (∀ (u8 u16 u56 u57 u58 u59 u60 u61 u62 u63 : Value) (j : Nat), gk = D - j → (j ≤ D ∧ Below W5.heap.size W5 V) → a = ⟨List.toArray (u0 :: u1 :: u2 :: u3 :: u4 :: u5 :: u6 :: u7 :: u8 :: u9 :: (.slice (some ⟨gz, 0, none⟩) 32 32) :: u11 :: u12 :: u13 :: u14 :: u15 :: u16 :: u17 :: u18 :: u19 :: u20 :: u21 :: u22 :: u23 :: u24 :: u25 :: u26 :: u27 :: u28 :: u29 :: u30 :: u31 :: u32 :: u33 :: u34 :: u35 :: u36 :: u37 :: u38 :: u39 :: u40 :: u41 :: u42 :: u43 :: u44 :: u45 :: u46 :: u47 :: u48 :: u49 :: u50 :: u51 :: u52 :: (.slice (some ⟨g, 0, none⟩) D D) :: (.int .i64 (D : Int)) :: (.int .i64 ((j : Nat) : Int)) :: u56 :: u57 :: u58 :: u59 :: u60 :: u61 :: u62 :: u63 :: u64 :: u65 :: u66 :: u67 :: u68 :: u69 :: u70 :: u71 :: u72 :: u73 :: u74 :: u75 :: u76 :: u77 :: u78 :: u79 :: u80 :: u81 :: u82 :: u83 :: u84 :: u85 :: u86 :: u87 :: u88 :: u89 :: u90 :: u91 :: u92 :: u93 :: u94 :: u95 :: u96 :: u97 :: u98 :: u99 :: u100 :: u101 :: u102 :: u103 :: u104 :: u105 :: u106 :: u107 :: u108 :: u109 :: u110 :: u111 :: u112 :: u113 :: u114 :: []), []⟩ → C) → C) (D - 0) ?_ ?_
  · intro C hC
    exact hC _ _ _ _ _ _ _ _ _ _ (0) rfl hI rfl
  · intro gk a V hI'
    refine hI' _ ?_
    intro u8 u16 u56 u57 u58 u59 u60 u61 u62 u63 j hk hinv ha
    subst ha
    subst hk
    refine rzBb _ _ _ _ _ _ _ _ _ _ _ _ _ _ _ _ _ _ _ _ _ _ _ _ _ _ _ _ _ _ _ _ _ _ _ _ _ _ _ _ _ _ _ _ _ _ _ _ _ _ _ _ _ _ _ _ _ _ _ _ _ _ _ _ _ _ _ _ _ _ _ _ _ _ _ _ _ _ _ _ _ _ _ _ _ _ _ _ _ _ _ _ _ _ _ _ _ _ _ _ _ _ _ _ _ _ _ _ _ _ _ _ _ hq hfl hz hd8 hinv (fun v8 v16 v56 v57 v58 v59 v60 v61 v62 v63  V2 h2 hm => ?_) (fun v8 v16 v56 v57 v58 v59 v60 v61 v62 v63 hx => hX v8 v16 v56 v57 v58 v59 v60 v61 v62 v63 j V hinv hx)
    refine ⟨_, hm, fun C hC => ?_⟩
    exact hC v8 v16 v56 v57 v58 v59 v60 v61 v62 v63 ((j + 1)) rfl h2 rfl
set_option maxRecDepth 100000 in
set_option maxHeartbeats 3200000 in
theorem rzCb {W5 : World} {D g gz lo : Nat} {xs : List Value} {fl : List (List UInt8)} {cn : Nat} {j : Nat} {w : World} (u0 u1 u2 u3 u4 u5 u6 u7 u8 u9 u11 u12 u13 u14 u15 u16 u17 u18 u20 u21 u22 u23 u24 u25 u26 u27 u28 u29 u30 u31 u32 u33 u34 u35 u36 u37 u38 u39 u40 u41 u42 u43 u44 u45 u46 u47 u48 u49 u50 u51 u52 u53 u54 u55 u56 u57 u58 u59 u60 u61 u62 u63 u64 u65 u66 u67 u68 u69 u70 u71 u72 u73 u74 u75 u76 u77 u78 u79 u80 u81 u82 u83 u84 u85 u86 u87 u88 u89 u90 u91 u92 u93 u97 u98 u99 u100 u101 u102 u103 u104 u105 u106 u107 u108 u109 u110 u111 u112 u113 u114 : Value) (K : Act → World → Prop) (Q0 : Exit → Act → World → Prop) (hq : Rq lo W5 g D D xs fl) (hfl : ∀ i, i < D → (fl.getD i []).length = 32) (hz : RdB W5 W5.heap.size (some ⟨gz, 0, none⟩) (zeroL 32)) (hd8 : D ≤ 8) (hI : (j ≤ D ∧ cn = cntB j (fun i => decide (fl.getD i [] ≠ zeroL 32)) ∧ Below W5.heap.size W5 w))
    (hK : ∀ (v21 v97 v98 v99 v100 v101 v102 v103 v104 v105 v106 : Value) (cn2 : Nat) (V : World), ((j + 1) ≤ D ∧ cn2 = cntB (j + 1) (fun i => decide (fl.getD i [] ≠ zeroL 32)) ∧ Below W5.heap.size W5 V) → D - (j + 1) < D - j → K ⟨List.toArray (u0 :: u1 :: u2 :: u3 :: u4 :: u5 :: u6 :: u7 :: u8 :: u9 :: (.slice (some ⟨gz, 0, none⟩) 32 32) :: u11 :: u12 :: u13 :: u14 :: u15 :: u16 :: u17 :: u18 :: (.int .i64 ((cn2 : Nat) : Int)) :: u20 :: v21 :: u22 :: u23 :: u24 :: u25 :: u26 :: u27 :: u28 :: u29 :: u30 :: u31 :: u32 :: u33 :: u34 :: u35 :: u36 :: u37 :: u38 :: u39 :: u40 :: u41 :: u42 :: u43 :: u44 :: u45 :: u46 :: u47 :: u48 :: u49 :: u50 :: u51 :: u52 :: u53 :: u54 :: u55 :: u56 :: u57 :: u58 :: u59 :: u60 :: u61 :: u62 :: u63 :: u64 :: u65 :: u66 :: u67 :: u68 :: u69 :: u70 :: u71 :: u72 :: u73 :: u74 :: u75 :: u76 :: u77 :: u78 :: u79 :: u80 :: u81 :: u82 :: u83 :: u84 :: u85 :: u86 :: u87 :: u88 :: u89 :: u90 :: u91 :: u92 :: u93 :: (.slice (some ⟨g, 0, none⟩) D D) :: (.int .i64 (D : Int)) :: (.int .i64 (((j + 1) : Nat) : Int)) :: v97 :: v98 :: v99 :: v100 :: v101 :: v102 :: v103 :: v104 :: v105 :: v106 :: u107 :: u108 :: u109 :: u110 :: u111 :: u112 :: u113 :: u114 :: []), []⟩ V)
    (hX : ∀ (v21 v97 v98 v99 v100 v101 v102 v103 v104 v105 v106 : Value), (j = D) → Q0 (.exit 4) ⟨List.toArray (u0 :: u1 :: u2 :: u3 :: u4 :: u5 :: u6 :: u7 :: u8 :: u9 :: (.slice (some ⟨gz, 0, none⟩) 32 32) :: u11 :: u12 :: u13 :: u14 :: u15 :: u16 :: u17 :: u18 :: (.int .i64 ((cn : Nat) : Int)) :: u20 :: v21 :: u22 :: u23 :: u24 :: u25 :: u26 :: u27 :: u28 :: u29 :: u30 :: u31 :: u32 :: u33 :: u34 :: u35 :: u36 :: u37 :: u38 :: u39 :: u40 :: u41 :: u42 :: u43 :: u44 :: u45 :: u46 :: u47 :: u48 :: u49 :: u50 :: u51 :: u52 :: u53 :: u54 :: u55 :: u56 :: u57 :: u58 :: u59 :: u60 :: u61 :: u62 :: u63 :: u64 :: u65 :: u66 :: u67 :: u68 :: u69 :: u70 :: u71 :: u72 :: u73 :: u74 :: u75 :: u76 :: u77 :: u78 :: u79 :: u80 :: u81 :: u82 :: u83 :: u84 :: u85 :: u86 :: u87 :: u88 :: u89 :: u90 :: u91 :: u92 :: u93 :: (.slice (some ⟨g, 0, none⟩) D D) :: (.int .i64 (D : Int)) :: (.int .i64 ((j : Nat) : Int)) :: v97 :: v98 :: v99 :: v100 :: v101 :: v102 :: v103 :: v104 :: v105 :: v106 :: u107 :: u108 :: u109 :: u110 :: u111 :: u112 :: u113 :: u114 :: []), []⟩ w) :
    Code.wp Try.prog (sub [1, 1, 1, 1, 1, 1, 1, 1, 1, 1, 1, 1, 1, 1, 1, 0, 1, 0, 0] codeRZ) (Exit.then K Q0) ⟨List.toArray (u0 :: u1 :: u2 :: u3 :: u4 :: u5 :: u6 :: u7 :: u8 :: u9 :: (.slice (some ⟨gz, 0, none⟩) 32 32) :: u11 :: u12 :: u13 :: u14 :: u15 :: u16 :: u17 :: u18 :: (.int .i64 ((cn : Nat) : Int)) :: u20 :: u21 :: u22 :: u23 :: u24 :: u25 :: u26 :: u27 :: u28 :: u29 :: u30 :: u31 :: u32 :: u33 :: u34 :: u35 :: u36 :: u37 :: u38 :: u39 :: u40 :: u41 :: u42 :: u43 :: u44 :: u45 :: u46 :: u47 :: u48 :: u49 :: u50 :: u51 :: u52 :: u53 :: u54 :: u55 :: u56 :: u57 :: u58 :: u59 :: u60 :: u61 :: u62 :: u63 :: u64 :: u65 :: u66 :: u67 :: u68 :: u69 :: u70 :: u71 :: u72 :: u73 :: u74 :: u75 :: u76 :: u77 :: u78 :: u79 :: u80 :: u81 :: u82 :: u83 :: u84 :: u85 :: u86 :: u87 :: u88 :: u89 :: u90 :: u91 :: u92 :: u93 :: (.slice (some ⟨g, 0, none⟩) D D) :: (.int .i64 (D : Int)) :: (.int .i64 ((j : Nat) : Int)) :: u97 :: u98 :: u99 :: u100 :: u101 :: u102 :: u103 :: u104 :: u105 :: u106 :: u107 :: u108 :: u109 :: u110 :: u111 :: u112 :: u113 :: u114 :: []), []⟩ w := by
  have HK := Lib.hid hK
  have HX := Lib.hid hX
  clear hK hX
  conv => arg 2; whnf
  obtain ⟨hj, hcn, hb⟩ := hI
  by_cases hlt : j < D
  · have i0 : (0 : Int) ≤ (j : Int) := by omega
    have i1 : (j : Int) < (D : Int) := by omega
    obtain ⟨A1, c1, _, z1, ho1⟩ := hq.at j hlt
    rw [← hb.cell (p := ⟨g, j, none⟩) hq.glt.2] at z1
    have h32 := hfl j hlt
    have hcl : cn ≤ j := by rw [hcn]; exact cntB_le _ _
    have Hs := Lib.hid (cntB_succ j (fun i => decide (fl.getD i [] ≠ zeroL 32)))
    rw [← hcn] at Hs
    have CS := Lib.hid (same_any A1 (some ⟨gz, 0, none⟩) 32 32 c1 32 _ (fl.getD j []) (zeroL 32) w h32.symm z32_len.symm ((ho1.rdS.1.below hb (Nat.le_refl _)).more hb.size) ((hz.below hb (Nat.le_refl _)).more hb.size))
    generalize fl.getD j [] = y at z1 h32 Hs CS
    rw [h32] at z1
    clear HX hq hfl hz ho1 hcn h32
    by_cases hy : y = zeroL 32
    · have Hn := Lib.hid (show cn = cntB (j + 1) (fun i => decide (fl.getD i [] ≠ zeroL 32)) by rw [Hs.out, if_neg (by simpa using hy)])
      have Hy := Lib.hid (decide_eq_true hy)
      clear hy Hs
      go_wp2_with fail
      (with_reducible refine CS.out.mono ?_); rintro e w1 ⟨rfl, m, rfl⟩
      rw [Hy.out]
      go_wp2_with fail
      exact HK.out _ _ _ _ _ _ _ _ _ _ _ _ _ ⟨by omega, Hn.out, hb.trans (belowN _ _ m)⟩ (by omega)
    · have Hn := Lib.hid (show cn + 1 = cntB (j + 1) (fun i => decide (fl.getD i [] ≠ zeroL 32)) by rw [Hs.out, if_pos (by simpa using hy)])
      have Hy := Lib.hid (decide_eq_false hy)
      clear hy Hs
      go_wp2_with fail
      (with_reducible refine CS.out.mono ?_); rintro e w1 ⟨rfl, m, rfl⟩
      rw [Hy.out]
      go_wp2_with fail
      exact HK.out _ _ _ _ _ _ _ _ _ _ _ (cn + 1) _ ⟨by omega, Hn.out, hb.trans (belowN _ _ m)⟩ (by omega)
  · have i1 : ¬ (j : Int) < (D : Int) := by omega
    have Hin := Lib.hid (show j = D by omega)
    clear HK hq hfl hz hcn
    go_wp2_with fail
    exact HX.out _ _ _ _ _ _ _ _ _ _ _ Hin.out
set_option maxRecDepth 100000 in
set_option maxHeartbeats 3200000 in
theorem rzC {W5 : World} {D g gz lo : Nat} {xs : List Value} {fl : List (List UInt8)}  {w : World} (u0 u1 u2 u3 u4 u5 u6 u7 u8 u9 u11 u12 u13 u14 u15 u16 u17 u18 u20 u21 u22 u23 u24 u25 u26 u27 u28 u29 u30 u31 u32 u33 u34 u35 u36 u37 u38 u39 u40 u41 u42 u43 u44 u45 u46 u47 u48 u49 u50 u51 u52 u53 u54 u55 u56 u57 u58 u59 u60 u61 u62 u63 u64 u65 u66 u67 u68 u69 u70 u71 u72 u73 u74 u75 u76 u77 u78 u79 u80 u81 u82 u83 u84 u85 u86 u87 u88 u89 u90 u91 u92 u93 u97 u98 u99 u100 u101 u102 u103 u104 u105 u106 u107 u108 u109 u110 u111 u112 u113 u114 : Value) (Q : Exit → Act → World → Prop) (hq : Rq lo W5 g D D xs fl) (hfl : ∀ i, i < D → (fl.getD i []).length = 32) (hz : RdB W5 W5.heap.size (some ⟨gz, 0, none⟩) (zeroL 32)) (hd8 : D ≤ 8) (hI : (0 ≤ D ∧ 0 = cntB 0 (fun i => decide (fl.getD i [] ≠ zeroL 32)) ∧ Below W5.heap.size W5 w))
    (hX : ∀ (v21 v97 v98 v99 v100 v101 v102 v103 v104 v105 v106 : Value) (cn : Nat) (j : Nat) (V : World), (j ≤ D ∧ cn = cntB j (fun i => decide (fl.getD i [] ≠ zeroL 32)) ∧ Below W5.heap.size W5 V) → (j = D) → Q (.exit 4) ⟨List.toArray (u0 :: u1 :: u2 :: u3 :: u4 :: u5 :: u6 :: u7 :: u8 :: u9 :: (.slice (some ⟨gz, 0, none⟩) 32 32) :: u11 :: u12 :: u13 :: u14 :: u15 :: u16 :: u17 :: u18 :: (.int .i64 ((cn : Nat) : Int)) :: u20 :: v21 :: u22 :: u23 :: u24 :: u25 :: u26 :: u27 :: u28 :: u29 :: u30 :: u31 :: u32 :: u33 :: u34 :: u35 :: u36 :: u37 :: u38 :: u39 :: u40 :: u41 :: u42 :: u43 :: u44 :: u45 :: u46 :: u47 :: u48 :: u49 :: u50 :: u51 :: u52 :: u53 :: u54 :: u55 :: u56 :: u57 :: u58 :: u59 :: u60 :: u61 :: u62 :: u63 :: u64 :: u65 :: u66 :: u67 :: u68 :: u69 :: u70 :: u71 :: u72 :: u73 :: u74 :: u75 :: u76 :: u77 :: u78 :: u79 :: u80 :: u81 :: u82 :: u83 :: u84 :: u85 :: u86 :: u87 :: u88 :: u89 :: u90 :: u91 :: u92 :: u93 :: (.slice (some ⟨g, 0, none⟩) D D) :: (.int .i64 (D : Int)) :: (.int .i64 ((j : Nat) : Int)) :: v97 :: v98 :: v99 :: v100 :: v101 :: v102 :: v103 :: v104 :: v105 :: v106 :: u107 :: u108 :: u109 :: u110 :: u111 :: u112 :: u113 :: u114 :: []), []⟩ V) :
    Code.wp Try.prog (.loop (sub [1, 1, 1, 1, 1, 1, 1, 1, 1, 1, 1, 1, 1, 1, 1, 0, 1, 0, 0] codeRZ)) Q ⟨List.toArray (u0 :: u1 :: u2 :: u3 :: u4 :: u5 :: u6 :: u7 :: u8 :: u9 :: (.slice (some ⟨gz, 0, none⟩) 32 32) :: u11 :: u12 :: u13 :: u14 :: u15 :: u16 :: u17 :: u18 :: (.int .i64 ((0 : Nat) : Int)) :: u20 :: u21 :: u22 :: u23 :: u24 :: u25 :: u26 :: u27 :: u28 :: u29 :: u30 :: u31 :: u32 :: u33 :: u34 :: u35 :: u36 :: u37 :: u38 :: u39 :: u40 :: u41 :: u42 :: u43 :: u44 :: u45 :: u46 :: u47 :: u48 :: u49 :: u50 :: u51 :: u52 :: u53 :: u54 :: u55 :: u56 :: u57 :: u58 :: u59 :: u60 :: u61 :: u62 :: u63 :: u64 :: u65 :: u66 :: u67 :: u68 :: u69 :: u70 :: u71 :: u72 :: u73 :: u74 :: u75 :: u76 :: u77 :: u78 :: u79 :: u80 :: u81 :: u82 :: u83 :: u84 :: u85 :: u86 :: u87 :: u88 :: u89 :: u90 :: u91 :: u92 :: u93 :: (.slice (some ⟨g, 0, none⟩) D D) :: (.int .i64 (D : Int)) :: (.int .i64 ((0 : Nat) : Int)) :: u97 :: u98 :: u99 :: u100 :: u101 :: u102 :: u103 :: u104 :: u105 :: u106 :: u107 :: u108 :: u109 :: u110 :: u111 :: u112 :: u113 :: u114 :: []), []⟩ w := by
  refine wp_loop_ghost (fun gk a V => ∀ C : Prop, (∀ (u21 u97 u98 u99 u100 u101 u102 u103 u104 u105 u106 : Value) (cn : Nat) (j : Nat), gk = D - j → (j ≤ D ∧ cn = cntB j (fun i => decide (fl.getD i [] ≠ zeroL 32)) ∧ Below W5.heap.size W5 V) → a = ⟨List.toArray (u0 :: u1 :: u2 :: u3 :: u4 :: u5 :: u6 :: u7 :: u8 :: u9 :: (.slice (some ⟨gz, 0, none⟩) 32 32) :: u11 :: u12 :: u13 :: u14 :: u15 :: u16 :: u17 :: u18 :: (.int .i64 ((cn : Nat) : Int)) :: u20 :: u21 :: u22 :: u23 :: u24 :: u25 :: u26 :: u27 :: u28 :: u29 :: u30 :: u31 :: u32 :: u33 :: u34 :: u35 :: u36 :: u37 :: u38 :: u39 :: u40 :: u41 :: u42 :: u43 :: u44 :: u45 :: u46 :: u47 :: u48 :: u49 :: u50 :: u51 :: u52 :: u53 :: u54 :: u55 :: u56 :: u57 :: u58 :: u59 :: u60 :: u61 :: u62 :: u63 :: u64 :: u65 :: u66 :: u67 :: u68 :: u69 :: u70 :: u71 :: u72 :: u73 :: u74 :: u75 :: u76 :: u77 :: u78 :: u79 :: u80 :: u81 :: u82 :: u83 :: u84 :: u85 :: u86 :: u87 :: u88 :: u89 :: u90 :: u91 :: u92 :: u93 :: (.slice (some ⟨g, 0, none⟩) D D) :: (.int .i64 (D : Int)) :: (.int .i64 ((j : Nat) : Int)) :: u97 :: u98 :: u99 :: u100 :: u101 :: u102 :: u103 :: u104 :: u105 :: u106 :: u107 :: u108 :: u109 :: u110 :: u111 :: u112 :: u113 :: u114 :: []), []⟩ → C) → C) (D - 0) ?_ ?_
  · intro C hC
    exact hC _ _ _ _ _ _ _ _ _ _ _ (0) (0) rfl hI rfl
  · intro gk a V hI'
    refine hI' _ ?_
    intro u21 u97 u98 u99 u100 u101 u102 u103 u104 u105 u106 cn j hk hinv ha
    subst ha
    subst hk
    refine rzCb _ _ _ _ _ _ _ _ _ _ _ _ _ _ _ _ _ _ _ _ _ _ _ _ _ _ _ _ _ _ _ _ _ _ _ _ _ _ _ _ _ _ _ _ _ _ _ _ _ _ _ _ _ _ _ _ _ _ _ _ _ _ _ _ _ _ _ _ _ _ _ _ _ _ _ _ _ _ _ _ _ _ _ _ _ _ _ _ _ _ _ _ _ _ _ _ _ _ _ _ _ _ _ _ _ _ _ _ _ _ _ _ hq hfl hz hd8 hinv (fun v21 v97 v98 v99 v100 v101 v102 v103 v104 v105 v106 cn2 V2 h2 hm => ?_) (fun v21 v97 v98 v99 v100 v101 v102 v103 v104 v105 v106 hx => hX v21 v97 v98 v99 v100 v101 v102 v103 v104 v105 v106 cn j V hinv hx)
    refine ⟨_, hm, fun C hC => ?_⟩
    exact hC v21 v97 v98 v99 v100 v101 v102 v103 v104 v105 v106 (cn2) ((j + 1)) rfl h2 rfl
end Go.Proofs.Ytbojmofkhkegmaa
