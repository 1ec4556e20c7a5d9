/- SuperDecodes: its loop. -/
import Derived.Test.YtdecpkcdljpnaaaDoorSupDec
import Derived.Test.YtdecpkcdljpnaaaDoorRefDec
import Derived.Test.YtdecpkcdljpnaaaDoorSupEqR
import Derived.Test.YtdecpkcdljpnaaaDoorRows2
import Derived.Test.YtdecpkcdljpnaaaDoorSub
set_option linter.unusedVariables false
set_option linter.unusedSimpArgs false
namespace Go.Proofs.YtdecpkcdljpnaaaDoor
open Go.RowKit

noncomputable def codeSD : Code := Tryd.f5.body.getD .skip
attribute [local go_sem ↓] rsu_eql rsu_neq
set_option maxRecDepth 100000 in
set_option maxHeartbeats 3200000 in
theorem sdRb {w0 : World} {rb : Nat} {rs : List (List UInt8)} {k : Nat} {w : World} (u0 u1 u2 u3 u4 u5 u6 u7 u8 u9 u10 u11 u12 u13 u14 u15 u16 u17 u18 u19 u20 u21 u23 u24 u25 u26 u27 u28 u29 u30 u31 u32 u33 u34 u35 u36 u37 u38 u39 u40 u41 u42 u43 u44 u45 u46 u47 u48 u49 u50 u51 u52 u53 u54 u55 u56 u57 u58 u59 u60 u61 u62 u63 u64 u68 u69 u70 u71 u72 u73 u74 u75 u76 u77 u78 u79 u80 u81 u82 u83 u84 u85 u86 u87 u88 u89 u90 u91 u92 u93 u94 u95 u96 u97 u98 u99 : Value) (K : Act → World → Prop) (Q0 : Exit → Act → World → Prop) (hrs : rs.length = 3) (ht : TabOk w0) (hI : (k ≤ 3 ∧ RdC w w.heap.size (some ⟨rb, 0, none⟩) rs ∧ Below w0.heap.size w0 w))
    (hK : ∀ (v26 v27 v28 v29 v30 v68 v69 v70 v71 v72 v73 v74 v75 v76 v77 v78 v79 v80 v81 v82 v83 v84 v85 v86 v87 v88 v89 v90 v91 v92 v93 v94 v95 v96 v97 v98 : Value)  (V : World), ((k + 1) ≤ 3 ∧ RdC V V.heap.size (some ⟨rb, 0, none⟩) rs ∧ Below w0.heap.size w0 V) → 3 - (k + 1) < 3 - k → K ⟨List.toArray (u0 :: u1 :: u2 :: u3 :: u4 :: u5 :: u6 :: u7 :: u8 :: u9 :: u10 :: u11 :: u12 :: u13 :: u14 :: u15 :: u16 :: u17 :: u18 :: u19 :: u20 :: u21 :: (.bool false) :: u23 :: u24 :: u25 :: v26 :: v27 :: v28 :: v29 :: v30 :: u31 :: u32 :: u33 :: u34 :: u35 :: u36 :: u37 :: u38 :: u39 :: u40 :: u41 :: u42 :: u43 :: u44 :: u45 :: u46 :: u47 :: u48 :: u49 :: u50 :: u51 :: u52 :: u53 :: u54 :: u55 :: u56 :: u57 :: u58 :: u59 :: u60 :: u61 :: u62 :: u63 :: u64 :: (.slice (some ⟨rb, 0, none⟩) 3 3) :: (.int .i64 3) :: (.int .i64 (((k + 1) : Nat) : Int)) :: v68 :: v69 :: v70 :: v71 :: v72 :: v73 :: v74 :: v75 :: v76 :: v77 :: v78 :: v79 :: v80 :: v81 :: v82 :: v83 :: v84 :: v85 :: v86 :: v87 :: v88 :: v89 :: v90 :: v91 :: v92 :: v93 :: v94 :: v95 :: v96 :: v97 :: v98 :: u99 :: []), []⟩ V)
    (hX : ∀ (v26 v27 v28 v29 v30 v68 v69 v70 v71 v72 v73 v74 v75 v76 v77 v78 v79 v80 v81 v82 v83 v84 v85 v86 v87 v88 v89 v90 v91 v92 v93 v94 v95 v96 v97 v98 : Value), (True) → Q0 (.exit 0) ⟨List.toArray (u0 :: u1 :: u2 :: u3 :: u4 :: u5 :: u6 :: u7 :: u8 :: u9 :: u10 :: u11 :: u12 :: u13 :: u14 :: u15 :: u16 :: u17 :: u18 :: u19 :: u20 :: u21 :: (.bool false) :: u23 :: u24 :: u25 :: v26 :: v27 :: v28 :: v29 :: v30 :: u31 :: u32 :: u33 :: u34 :: u35 :: u36 :: u37 :: u38 :: u39 :: u40 :: u41 :: u42 :: u43 :: u44 :: u45 :: u46 :: u47 :: u48 :: u49 :: u50 :: u51 :: u52 :: u53 :: u54 :: u55 :: u56 :: u57 :: u58 :: u59 :: u60 :: u61 :: u62 :: u63 :: u64 :: (.slice (some ⟨rb, 0, none⟩) 3 3) :: (.int .i64 3) :: (.int .i64 ((k : Nat) : Int)) :: v68 :: v69 :: v70 :: v71 :: v72 :: v73 :: v74 :: v75 :: v76 :: v77 :: v78 :: v79 :: v80 :: v81 :: v82 :: v83 :: v84 :: v85 :: v86 :: v87 :: v88 :: v89 :: v90 :: v91 :: v92 :: v93 :: v94 :: v95 :: v96 :: v97 :: v98 :: u99 :: []), []⟩ w) :
    Code.wp Tryd.prog (sub [1, 1, 1, 1, 1, 0, 1, 0, 0] codeSD) (Exit.then K Q0) ⟨List.toArray (u0 :: u1 :: u2 :: u3 :: u4 :: u5 :: u6 :: u7 :: u8 :: u9 :: u10 :: u11 :: u12 :: u13 :: u14 :: u15 :: u16 :: u17 :: u18 :: u19 :: u20 :: u21 :: (.bool false) :: u23 :: u24 :: u25 :: u26 :: u27 :: u28 :: u29 :: u30 :: u31 :: u32 :: u33 :: u34 :: u35 :: u36 :: u37 :: u38 :: u39 :: u40 :: u41 :: u42 :: u43 :: u44 :: u45 :: u46 :: u47 :: u48 :: u49 :: u50 :: u51 :: u52 :: u53 :: u54 :: u55 :: u56 :: u57 :: u58 :: u59 :: u60 :: u61 :: u62 :: u63 :: u64 :: (.slice (some ⟨rb, 0, none⟩) 3 3) :: (.int .i64 3) :: (.int .i64 ((k : Nat) : Int)) :: u68 :: u69 :: u70 :: u71 :: u72 :: u73 :: u74 :: u75 :: u76 :: u77 :: u78 :: u79 :: u80 :: u81 :: u82 :: u83 :: u84 :: u85 :: u86 :: u87 :: u88 :: u89 :: u90 :: u91 :: u92 :: u93 :: u94 :: u95 :: u96 :: u97 :: u98 :: u99 :: []), []⟩ w := by
  have HK := Lib.hid hK
  have HX := Lib.hid hX
  clear hK hX
  conv => arg 2; whnf
  obtain ⟨hi, hR, hF⟩ := hI
  have hw0 : 0 < w0.heap.size := ht.pos
  have Ht := Lib.hid ht
  have HF := Lib.hid hF
  by_cases hlt : k < 3
  · have HR := Lib.hid hR
    obtain ⟨b, off, e0, hb, hc⟩ := hR.2 (by omega)
    injection e0 with e0
    injection e0 with e1 e2 _
    subst e1 e2
    obtain ⟨A, c, hcell, hnc, hrd⟩ := hc k (by omega)
    rw [Nat.zero_add] at hcell
    generalize rs.getD k [] = bs at hcell hnc hrd
    have i0 : (0 : Int) ≤ (k : Int) := by omega
    have i1 : (k : Int) < 3 := by omega
    have CD := Lib.hid (suDecode_any A bs.length c bs w rfl hnc hrd (Ht.out.below HF.out hw0))
    have CR := Lib.hid (fun W (hW : Below w.heap.size w W) => refDecode_any A bs.length c bs W rfl hnc ((hrd.below hW (Nat.le_refl _)).more hW.size))
    clear hc hR hF hrd ht HX hrs Ht hnc
    go_wp2_with fail
    (with_reducible refine CD.out.mono ?_); rintro e w3 ⟨s, hs, rfl, hb3⟩
    have hb4 : Below w.heap.size w (w3.alloc (.cells #[.int .i64 s.g, .int .i64 s.al, .int .i64 s.ad, .int .i64 s.ac, .int .i64 s.bl, .int .i64 s.bd, .int .i64 s.bc, .bool s.r, .int .i64 s.wi, .int .i64 s.ep, .int .i64 s.ou] 25)) := hb3.alloc hb3.size _
    have HB4 := Lib.hid hb4
    have z3 := hb3.size
    have Hs := Lib.hid hs
    clear CD hb4 hb3 hs
    go_wp2_with fail
    (with_reducible refine (CR.out _ HB4.out).mono ?_); rintro e w5 ⟨t, ht5, rfl, hb5⟩
    obtain rfl : s = t := Hs.out.trans ht5.symm
    have HS := Lib.hid ((sat_new w3 s 25 (0, 0)).below hb5 (by simp))
    have HB5 := Lib.hid (HB4.out.trans (hb5.mono HB4.out.size))
    have hz : w3.heap.size < w5.heap.size := by have := hb5.size; simp at this; omega
    have hq := suEq_refl s
    clear CR HB4 ht5 Hs hb5
    obtain ⟨c0, c1, c2, c3, c4, c5, c6, c7, c8, c9, c10⟩ := HS.out
    have hfin : ∀ o, RdC (w5.alloc o) (w5.alloc o).heap.size (some ⟨rb, 0, none⟩) rs ∧ Below w0.heap.size w0 (w5.alloc o) := fun o => by
      have hT : Below w.heap.size w (w5.alloc o) := HB5.out.alloc HB5.out.size o
      exact ⟨(HR.out.below hT (Nat.le_refl _)).more hT.size, HF.out.trans (hT.mono HF.out.size)⟩
    have Hfin := Lib.hid hfin
    clear hfin HB5 HR HF
    cases hd : decO bs
    · rw [decE_no hd]
      clear hd
      go_wp2_with fail
      exact HK.out _ _ _ _ _ _ _ _ _ _ _ _ _ _ _ _ _ _ _ _ _ _ _ _ _ _ _ _ _ _ _ _ _ _ _ _ _ ⟨by omega, (Hfin.out _).1, (Hfin.out _).2⟩ (by omega)
    · rw [decE_yes hd]
      clear hd
      go_wp2_with fail
      exact HK.out _ _ _ _ _ _ _ _ _ _ _ _ _ _ _ _ _ _ _ _ _ _ _ _ _ _ _ _ _ _ _ _ _ _ _ _ _ ⟨by omega, (Hfin.out _).1, (Hfin.out _).2⟩ (by omega)
  · have i1 : ¬ (k : Int) < 3 := by omega
    clear HK
    go_wp2_with fail
    exact HX.out _ _ _ _ _ _ _ _ _ _ _ _ _ _ _ _ _ _ _ _ _ _ _ _ _ _ _ _ _ _ _ _ _ _ _ _ (by trivial)
set_option maxRecDepth 100000 in
set_option maxHeartbeats 3200000 in
theorem sdR {w0 : World} {rb : Nat} {rs : List (List UInt8)}  {w : World} (u0 u1 u2 u3 u4 u5 u6 u7 u8 u9 u10 u11 u12 u13 u14 u15 u16 u17 u18 u19 u20 u21 u23 u24 u25 u26 u27 u28 u29 u30 u31 u32 u33 u34 u35 u36 u37 u38 u39 u40 u41 u42 u43 u44 u45 u46 u47 u48 u49 u50 u51 u52 u53 u54 u55 u56 u57 u58 u59 u60 u61 u62 u63 u64 u68 u69 u70 u71 u72 u73 u74 u75 u76 u77 u78 u79 u80 u81 u82 u83 u84 u85 u86 u87 u88 u89 u90 u91 u92 u93 u94 u95 u96 u97 u98 u99 : Value) (Q : Exit → Act → World → Prop) (hrs : rs.length = 3) (ht : TabOk w0) (hI : (0 ≤ 3 ∧ RdC w w.heap.size (some ⟨rb, 0, none⟩) rs ∧ Below w0.heap.size w0 w))
    (hX : ∀ (v26 v27 v28 v29 v30 v68 v69 v70 v71 v72 v73 v74 v75 v76 v77 v78 v79 v80 v81 v82 v83 v84 v85 v86 v87 v88 v89 v90 v91 v92 v93 v94 v95 v96 v97 v98 : Value) (k : Nat) (V : World), (k ≤ 3 ∧ RdC V V.heap.size (some ⟨rb, 0, none⟩) rs ∧ Below w0.heap.size w0 V) → (True) → Q (.exit 0) ⟨List.toArray (u0 :: u1 :: u2 :: u3 :: u4 :: u5 :: u6 :: u7 :: u8 :: u9 :: u10 :: u11 :: u12 :: u13 :: u14 :: u15 :: u16 :: u17 :: u18 :: u19 :: u20 :: u21 :: (.bool false) :: u23 :: u24 :: u25 :: v26 :: v27 :: v28 :: v29 :: v30 :: u31 :: u32 :: u33 :: u34 :: u35 :: u36 :: u37 :: u38 :: u39 :: u40 :: u41 :: u42 :: u43 :: u44 :: u45 :: u46 :: u47 :: u48 :: u49 :: u50 :: u51 :: u52 :: u53 :: u54 :: u55 :: u56 :: u57 :: u58 :: u59 :: u60 :: u61 :: u62 :: u63 :: u64 :: (.slice (some ⟨rb, 0, none⟩) 3 3) :: (.int .i64 3) :: (.int .i64 ((k : Nat) : Int)) :: v68 :: v69 :: v70 :: v71 :: v72 :: v73 :: v74 :: v75 :: v76 :: v77 :: v78 :: v79 :: v80 :: v81 :: v82 :: v83 :: v84 :: v85 :: v86 :: v87 :: v88 :: v89 :: v90 :: v91 :: v92 :: v93 :: v94 :: v95 :: v96 :: v97 :: v98 :: u99 :: []), []⟩ V) :
    Code.wp Tryd.prog (.loop (sub [1, 1, 1, 1, 1, 0, 1, 0, 0] codeSD)) Q ⟨List.toArray (u0 :: u1 :: u2 :: u3 :: u4 :: u5 :: u6 :: u7 :: u8 :: u9 :: u10 :: u11 :: u12 :: u13 :: u14 :: u15 :: u16 :: u17 :: u18 :: u19 :: u20 :: u21 :: (.bool false) :: u23 :: u24 :: u25 :: u26 :: u27 :: u28 :: u29 :: u30 :: u31 :: u32 :: u33 :: u34 :: u35 :: u36 :: u37 :: u38 :: u39 :: u40 :: u41 :: u42 :: u43 :: u44 :: u45 :: u46 :: u47 :: u48 :: u49 :: u50 :: u51 :: u52 :: u53 :: u54 :: u55 :: u56 :: u57 :: u58 :: u59 :: u60 :: u61 :: u62 :: u63 :: u64 :: (.slice (some ⟨rb, 0, none⟩) 3 3) :: (.int .i64 3) :: (.int .i64 ((0 : Nat) : Int)) :: u68 :: u69 :: u70 :: u71 :: u72 :: u73 :: u74 :: u75 :: u76 :: u77 :: u78 :: u79 :: u80 :: u81 :: u82 :: u83 :: u84 :: u85 :: u86 :: u87 :: u88 :: u89 :: u90 :: u91 :: u92 :: u93 :: u94 :: u95 :: u96 :: u97 :: u98 :: u99 :: []), []⟩ w := by
  refine wp_loop_ghost (fun gk a V => ∀ C : Prop, (∀ (u26 u27 u28 u29 u30 u68 u69 u70 u71 u72 u73 u74 u75 u76 u77 u78 u79 u80 u81 u82 u83 u84 u85 u86 u87 u88 u89 u90 u91 u92 u93 u94 u95 u96 u97 u98 : Value) (k : Nat), gk = 3 - k → (k ≤ 3 ∧ RdC V V.heap.size (some ⟨rb, 0, none⟩) rs ∧ Below w0.heap.size w0 V) → a = ⟨List.toArray (u0 :: u1 :: u2 :: u3 :: u4 :: u5 :: u6 :: u7 :: u8 :: u9 :: u10 :: u11 :: u12 :: u13 :: u14 :: u15 :: u16 :: u17 :: u18 :: u19 :: u20 :: u21 :: (.bool false) :: u23 :: u24 :: u25 :: u26 :: u27 :: u28 :: u29 :: u30 :: u31 :: u32 :: u33 :: u34 :: u35 :: u36 :: u37 :: u38 :: u39 :: u40 :: u41 :: u42 :: u43 :: u44 :: u45 :: u46 :: u47 :: u48 :: u49 :: u50 :: u51 :: u52 :: u53 :: u54 :: u55 :: u56 :: u57 :: u58 :: u59 :: u60 :: u61 :: u62 :: u63 :: u64 :: (.slice (some ⟨rb, 0, none⟩) 3 3) :: (.int .i64 3) :: (.int .i64 ((k : Nat) : Int)) :: u68 :: u69 :: u70 :: u71 :: u72 :: u73 :: u74 :: u75 :: u76 :: u77 :: u78 :: u79 :: u80 :: u81 :: u82 :: u83 :: u84 :: u85 :: u86 :: u87 :: u88 :: u89 :: u90 :: u91 :: u92 :: u93 :: u94 :: u95 :: u96 :: u97 :: u98 :: u99 :: []), []⟩ → C) → C) (3 - 0) ?_ ?_
  · intro C hC
    exact hC _ _ _ _ _ _ _ _ _ _ _ _ _ _ _ _ _ _ _ _ _ _ _ _ _ _ _ _ _ _ _ _ _ _ _ _ (0) rfl hI rfl
  · intro gk a V hI'
    refine hI' _ ?_
    intro u26 u27 u28 u29 u30 u68 u69 u70 u71 u72 u73 u74 u75 u76 u77 u78 u79 u80 u81 u82 u83 u84 u85 u86 u87 u88 u89 u90 u91 u92 u93 u94 u95 u96 u97 u98 k hk hinv ha
    subst ha
    subst hk
    refine sdRb _ _ _ _ _ _ _ _ _ _ _ _ _ _ _ _ _ _ _ _ _ _ _ _ _ _ _ _ _ _ _ _ _ _ _ _ _ _ _ _ _ _ _ _ _ _ _ _ _ _ _ _ _ _ _ _ _ _ _ _ _ _ _ _ _ _ _ _ _ _ _ _ _ _ _ _ _ _ _ _ _ _ _ _ _ _ _ _ _ _ _ _ _ _ _ _ _ _ hrs ht hinv (fun v26 v27 v28 v29 v30 v68 v69 v70 v71 v72 v73 v74 v75 v76 v77 v78 v79 v80 v81 v82 v83 v84 v85 v86 v87 v88 v89 v90 v91 v92 v93 v94 v95 v96 v97 v98  V2 h2 hm => ?_) (fun v26 v27 v28 v29 v30 v68 v69 v70 v71 v72 v73 v74 v75 v76 v77 v78 v79 v80 v81 v82 v83 v84 v85 v86 v87 v88 v89 v90 v91 v92 v93 v94 v95 v96 v97 v98 hx => hX v26 v27 v28 v29 v30 v68 v69 v70 v71 v72 v73 v74 v75 v76 v77 v78 v79 v80 v81 v82 v83 v84 v85 v86 v87 v88 v89 v90 v91 v92 v93 v94 v95 v96 v97 v98 k V hinv hx)
    refine ⟨_, hm, fun C hC => ?_⟩
    exact hC v26 v27 v28 v29 v30 v68 v69 v70 v71 v72 v73 v74 v75 v76 v77 v78 v79 v80 v81 v82 v83 v84 v85 v86 v87 v88 v89 v90 v91 v92 v93 v94 v95 v96 v97 v98 ((k + 1)) rfl h2 rfl
end Go.Proofs.YtdecpkcdljpnaaaDoor
