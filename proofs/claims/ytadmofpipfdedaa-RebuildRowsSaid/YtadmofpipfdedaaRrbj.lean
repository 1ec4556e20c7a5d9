/- Texts put together: RbdFr, RebuildRowsLoops, RbdPut. -/
import Derived.Test.YtadmofpipfdedaaRrbi
import Derived.Test.YtadmofpipfdedaaRrbf
import Derived.Test.YtadmofpipfdedaaRrah
import Derived.Test.YtadmofpipfdedaaRrag
section
set_option linter.unusedVariables false
set_option linter.unusedSimpArgs false
namespace Go.Proofs.Ytadmofpipfdedaa
open Go.RowKit

/-- A disk lost, and a new one in its place. -/
def frB (N : Bch) (k : Nat) : Bch := (N.fail (k : Int)).replace (k : Int)
theorem fr_ok {N : Bch} {k : Nat} (hk : k < N.n) : N.pickE (k : Int) = 0 ∧ (N.fail (k : Int)).replaceE (k : Int) = 0 ∧ (∀ i, (frB N k).D i = if i = k then Dsk.new else N.D i) ∧ (frB N k).n = N.n ∧ (frB N k).down = N.down ∧ (frB N k).left = N.left ∧ (frB N k).done = N.done := by
  have hp : N.pickE (k : Int) = 0 := Bch.pickE_ok (by omega) (by omega)
  have hp2 : (N.fail (k : Int)).pickE (k : Int) = 0 := Bch.pickE_ok (by omega) (by rw [fail_is]; omega)
  have hfk : ((N.fail (k : Int)).at_ (k : Int)).f = true := by
    show ((N.fail (k : Int)).D ((k : Int)).toNat).f = true
    rw [fail_D hk, show ((k : Int)).toNat = k by omega, if_pos rfl]; rfl
  have hr : (N.fail (k : Int)).replaceE (k : Int) = 0 := by
    unfold Bch.replaceE
    rw [if_neg (by rw [hp2]; simp), if_pos hfk]
  have he : frB N k = (N.fail (k : Int)).set k Dsk.new := by
    unfold frB Bch.replace
    rw [if_neg (by rw [hr]; simp)]
    rfl
  have hf : N.fail (k : Int) = N.set k Dsk.failed := by
    unfold Bch.fail
    rw [if_neg (by rw [hp]; simp)]
    rfl
  refine ⟨hp, hr, fun i => ?_, ?_, ?_, ?_, ?_⟩
  · rw [he]
    show upd (N.fail (k : Int)).D k Dsk.new i = _
    by_cases e : i = k
    · subst e; rw [upd_same, if_pos rfl]
    · rw [upd_other _ _ e, if_neg e, fail_D hk, if_neg e]
  · rw [he, hf]; rfl
  · rw [he, hf]; rfl
  · rw [he, hf]; rfl
  · rw [he, hf]; rfl
section
variable {W w : World} {b : Nat} {H : BH} {N : Bch} {K : List (Nat × Obj)} {R : List (Option Addr × List (List UInt8))} {S : List (Option Addr × List UInt8)}
theorem replace_n (N : Bch) (d : Int) : (N.replace d).n = N.n := by unfold Bch.replace; split <;> rfl
theorem ks_replace (h : KS W w b H N K R S) (d : Int) (hd : i64B d) : Calls Try.prog 16 #[.pointer (some ⟨b, 0, none⟩), .int .i64 d] w fun e w' => e = .returned (.int .i64 (N.replaceE d)) ∧ ∃ H', KS W w' b H' (N.replace d) K R S := by
  refine (bp_replace W w b H N h.bp d hd).mono ?_
  rintro e w' ⟨rfl, ht⟩
  obtain ⟨H', k'⟩ := h.bc ht (replace_n _ _)
  exact ⟨rfl, H', k'⟩
end
section
variable {N : Bch} {m k : Nat} {G : RG} {zs : List Int}
/-- The rows by numbers. -/
def rsZ (G : RG) (zs : List Int) (t : Nat) : List (List UInt8) := datL zs t (roW (G.L t) (G.D t))
theorem Fb.st (h : Fb N m (rowG G zs) 16 0) (hle : ∀ t, t < 16 → G.D t ≤ (m : Int)) (hG : G.ok = true) {t i : Nat} (ht : t < 16) (hi : (i : Int) < G.D t) : secAt (N.D i).now (36 + t) = (flR G (rsZ G zs) t).getD i [] := by
  have hD := hle t ht
  rw [h.row (by omega) ht, rowG_len, if_pos (by omega)]
  rfl
theorem Fb.no (h : Fb N m (rowG G zs) 16 0) {t i : Nat} (hm : i < m) (ht : t < 16) (hi : ¬ (i : Int) < G.D t) : secAt (N.D i).now (36 + t) = zeroL 32 := by
  rw [h.row hm ht, rowG_len, if_neg (by omega)]
/-- What Disk finds: rows that stand, but on the new disk. -/
theorem Fb.rbh (h : Fb N m (rowG G zs) 16 0) (hle : ∀ t, t < 16 → G.D t ≤ (m : Int)) (hG : G.ok = true) (hk : k < m) {M : Bch} {lv : List Bool} (hn : M.n = m) (hd : M.down = false) (hD : ∀ i, i < m → lv.getD i false = true → M.D i = N.D i) (hf : (M.D k).f = false) (ho : OutK G k (M.D k)) (hl : lv.getD k false = false) : RbH M lv G k (rsZ G zs) ∧ StR M lv G (rsZ G zs) := by
  have hs : StR M lv G (rsZ G zs) := fun t ht i hi hs => by
    obtain ⟨h1, h2, _⟩ := srvD_yes hs
    rw [hD i (by omega) h2]
    exact h.st hle hG ht hi
  exact ⟨rbh_of hG (by omega) hd hf hl (rows_dat G zs) hs ho, hs⟩
/-- A disk that Disk has told is as the lost one was. -/
theorem rb_same {M M0 : Bch} (h : Fb N m (rowG G zs) 16 0) (hle : ∀ t, t < 16 → G.D t ≤ (m : Int)) (hG : G.ok = true) (hk : k < m) (I : RbI M0 M G k) (hz : RbZ M G k (rsZ G zs) 16) : ∀ j, j < 52 → secAt (M.D k).now j = secAt (N.D k).now j := fun j hj => by
  by_cases hin : inK G k j
  · obtain ⟨t, ht, hkd, rfl⟩ := hin
    rw [hz.2 t ht hkd, h.st hle hG ht hkd]
  · rw [I.out.now hj hin]
    by_cases h36 : j < 36
    · exact (h.low hk h36).symm
    · obtain ⟨t, rfl⟩ : ∃ t, j = 36 + t := ⟨j - 36, by omega⟩
      exact (h.no hk (by omega) (fun e => hin ⟨t, by omega, e, rfl⟩)).symm
end
end Go.Proofs.Ytadmofpipfdedaa
end
section
set_option linter.unusedVariables false
set_option linter.unusedSimpArgs false
namespace Go.Proofs.Ytadmofpipfdedaa
open Go.RowKit

noncomputable def codeRR : Code := Try.f4.body.getD .skip
/-- What a disk has of the rows. -/
def wantL (N : Bch) (k r : Nat) : List (List UInt8) := (List.range r).map fun t => secAt (N.D k).now (36 + t)
theorem wantL_len (N : Bch) (k r : Nat) : (wantL N k r).length = r := by simp [wantL]
theorem wantL_succ (N : Bch) (k r : Nat) : wantL N k (r + 1) = wantL N k r ++ [secAt (N.D k).now (36 + r)] := by simp [wantL, List.range_succ]
theorem wantL_get {N : Bch} {k r t : Nat} (h : t < r) : (wantL N k r).getD t [] = secAt (N.D k).now (36 + t) := by simp [wantL, List.getD_eq_getElem?_getD, h]
set_option maxRecDepth 100000 in
set_option maxHeartbeats 3200000 in
theorem rrAb {W0 w0 : World} {b k : Nat} {H : BH} {N : Bch} {KK : List (Nat × Obj)} {xv : Value} {r : Nat} {w : World} (u0 u1 u2 u3 u5 u6 u7 u8 u9 u10 u11 u12 u13 u14 u16 u19 u20 u21 u22 u23 u24 u25 u26 u27 u28 u29 u30 u31 u32 u33 u34 u35 u36 u37 u38 u39 u40 u41 u42 u43 u44 u45 u46 u47 u48 u49 u50 u51 u52 u53 u54 u55 u56 u57 u58 u59 u60 u61 u62 u63 u64 u65 u66 u67 u68 u69 u70 u71 u72 u73 u74 u75 u76 u77 u78 u79 u80 u81 u82 u83 u84 u85 u86 u87 u88 u89 u90 u91 u92 u93 u94 u95 u96 u97 u98 u99 u100 u101 u102 u103 u104 u105 u106 u107 u108 u109 u110 u111 u112 u113 u114 u115 u116 u117 u118 u119 u120 u121 u122 u123 u124 u125 u126 u127 u128 u129 u130 u131 u132 u133 u134 u135 u136 u137 u138 u139 u140 u141 u142 u143 u144 u145 u146 u147 u148 u149 u150 u151 u152 u153 u154 u155 u156 u157 u158 u159 u160 u161 u162 u163 : Value) (K : Act → World → Prop) (Q0 : Exit → Act → World → Prop) (hk0 : KS W0 w0 b H N KK [] []) (hkn : k < N.n) (hn8 : N.n ≤ 8) (hdn : N.down = false) (hf : (N.D k).f = false) (h32 : ∀ r, r < 16 → (secAt (N.D k).now (36 + r)).length = 32) (hI : (r ≤ 16 ∧ Below w0.heap.size w0 w ∧ OwV w0.heap.size w xv (wantL N k r)))
    (hK : ∀ (v19 v20 v52 v53 v54 v55 v56 v57 v58 v59 v60 v61 v62 v63 v64 v65 v66 v67 : Value) (xv2 : Value) (V : World), ((r + 1) ≤ 16 ∧ Below w0.heap.size w0 V ∧ OwV w0.heap.size V xv2 (wantL N k (r + 1))) → 16 - (r + 1) < 16 - r → K ⟨List.toArray (u0 :: u1 :: u2 :: u3 :: (.int .i64 (k : Int)) :: u5 :: u6 :: u7 :: u8 :: u9 :: u10 :: u11 :: u12 :: u13 :: u14 :: (.pointer (some ⟨b, 0, none⟩)) :: u16 :: xv2 :: (.int .i64 (((r + 1) : Nat) : Int)) :: v19 :: v20 :: u21 :: u22 :: u23 :: u24 :: u25 :: u26 :: u27 :: u28 :: u29 :: u30 :: u31 :: u32 :: u33 :: u34 :: u35 :: u36 :: u37 :: u38 :: u39 :: u40 :: u41 :: u42 :: u43 :: u44 :: u45 :: u46 :: u47 :: u48 :: u49 :: u50 :: u51 :: v52 :: v53 :: v54 :: v55 :: v56 :: v57 :: v58 :: v59 :: v60 :: v61 :: v62 :: v63 :: v64 :: v65 :: v66 :: v67 :: u68 :: u69 :: u70 :: u71 :: u72 :: u73 :: u74 :: u75 :: u76 :: u77 :: u78 :: u79 :: u80 :: u81 :: u82 :: u83 :: u84 :: u85 :: u86 :: u87 :: u88 :: u89 :: u90 :: u91 :: u92 :: u93 :: u94 :: u95 :: u96 :: u97 :: u98 :: u99 :: u100 :: u101 :: u102 :: u103 :: u104 :: u105 :: u106 :: u107 :: u108 :: u109 :: u110 :: u111 :: u112 :: u113 :: u114 :: u115 :: u116 :: u117 :: u118 :: u119 :: u120 :: u121 :: u122 :: u123 :: u124 :: u125 :: u126 :: u127 :: u128 :: u129 :: u130 :: u131 :: u132 :: u133 :: u134 :: u135 :: u136 :: u137 :: u138 :: u139 :: u140 :: u141 :: u142 :: u143 :: u144 :: u145 :: u146 :: u147 :: u148 :: u149 :: u150 :: u151 :: u152 :: u153 :: u154 :: u155 :: u156 :: u157 :: u158 :: u159 :: u160 :: u161 :: u162 :: u163 :: []), []⟩ V)
    (hX : ∀ (v19 v20 v52 v53 v54 v55 v56 v57 v58 v59 v60 v61 v62 v63 v64 v65 v66 v67 : Value), (r = 16) → Q0 (.exit 0) ⟨List.toArray (u0 :: u1 :: u2 :: u3 :: (.int .i64 (k : Int)) :: u5 :: u6 :: u7 :: u8 :: u9 :: u10 :: u11 :: u12 :: u13 :: u14 :: (.pointer (some ⟨b, 0, none⟩)) :: u16 :: xv :: (.int .i64 ((r : Nat) : Int)) :: v19 :: v20 :: u21 :: u22 :: u23 :: u24 :: u25 :: u26 :: u27 :: u28 :: u29 :: u30 :: u31 :: u32 :: u33 :: u34 :: u35 :: u36 :: u37 :: u38 :: u39 :: u40 :: u41 :: u42 :: u43 :: u44 :: u45 :: u46 :: u47 :: u48 :: u49 :: u50 :: u51 :: v52 :: v53 :: v54 :: v55 :: v56 :: v57 :: v58 :: v59 :: v60 :: v61 :: v62 :: v63 :: v64 :: v65 :: v66 :: v67 :: u68 :: u69 :: u70 :: u71 :: u72 :: u73 :: u74 :: u75 :: u76 :: u77 :: u78 :: u79 :: u80 :: u81 :: u82 :: u83 :: u84 :: u85 :: u86 :: u87 :: u88 :: u89 :: u90 :: u91 :: u92 :: u93 :: u94 :: u95 :: u96 :: u97 :: u98 :: u99 :: u100 :: u101 :: u102 :: u103 :: u104 :: u105 :: u106 :: u107 :: u108 :: u109 :: u110 :: u111 :: u112 :: u113 :: u114 :: u115 :: u116 :: u117 :: u118 :: u119 :: u120 :: u121 :: u122 :: u123 :: u124 :: u125 :: u126 :: u127 :: u128 :: u129 :: u130 :: u131 :: u132 :: u133 :: u134 :: u135 :: u136 :: u137 :: u138 :: u139 :: u140 :: u141 :: u142 :: u143 :: u144 :: u145 :: u146 :: u147 :: u148 :: u149 :: u150 :: u151 :: u152 :: u153 :: u154 :: u155 :: u156 :: u157 :: u158 :: u159 :: u160 :: u161 :: u162 :: u163 :: []), []⟩ w) :
    Code.wp Try.prog (sub [1, 1, 1, 1, 1, 1, 1, 1, 0, 1, 0, 0] codeRR) (Exit.then K Q0) ⟨List.toArray (u0 :: u1 :: u2 :: u3 :: (.int .i64 (k : Int)) :: u5 :: u6 :: u7 :: u8 :: u9 :: u10 :: u11 :: u12 :: u13 :: u14 :: (.pointer (some ⟨b, 0, none⟩)) :: u16 :: xv :: (.int .i64 ((r : Nat) : Int)) :: u19 :: u20 :: u21 :: u22 :: u23 :: u24 :: u25 :: u26 :: u27 :: u28 :: u29 :: u30 :: u31 :: u32 :: u33 :: u34 :: u35 :: u36 :: u37 :: u38 :: u39 :: u40 :: u41 :: u42 :: u43 :: u44 :: u45 :: u46 :: u47 :: u48 :: u49 :: u50 :: u51 :: u52 :: u53 :: u54 :: u55 :: u56 :: u57 :: u58 :: u59 :: u60 :: u61 :: u62 :: u63 :: u64 :: u65 :: u66 :: u67 :: u68 :: u69 :: u70 :: u71 :: u72 :: u73 :: u74 :: u75 :: u76 :: u77 :: u78 :: u79 :: u80 :: u81 :: u82 :: u83 :: u84 :: u85 :: u86 :: u87 :: u88 :: u89 :: u90 :: u91 :: u92 :: u93 :: u94 :: u95 :: u96 :: u97 :: u98 :: u99 :: u100 :: u101 :: u102 :: u103 :: u104 :: u105 :: u106 :: u107 :: u108 :: u109 :: u110 :: u111 :: u112 :: u113 :: u114 :: u115 :: u116 :: u117 :: u118 :: u119 :: u120 :: u121 :: u122 :: u123 :: u124 :: u125 :: u126 :: u127 :: u128 :: u129 :: u130 :: u131 :: u132 :: u133 :: u134 :: u135 :: u136 :: u137 :: u138 :: u139 :: u140 :: u141 :: u142 :: u143 :: u144 :: u145 :: u146 :: u147 :: u148 :: u149 :: u150 :: u151 :: u152 :: u153 :: u154 :: u155 :: u156 :: u157 :: u158 :: u159 :: u160 :: u161 :: u162 :: u163 :: []), []⟩ w := by
  have HK := Lib.hid hK
  have HX := Lib.hid hX
  clear hK hX
  conv => arg 2; whnf
  obtain ⟨hr, hB, hv⟩ := hI
  by_cases hlt : r < 16
  · have i0 : (0 : Int) ≤ (r : Int) := by omega
    have i1 : (r : Int) < 16 := by omega
    have j0 : (0 : Int) ≤ (k : Int) := by omega
    have hk := hk0.below hB
    have CR := bp_read W0 w b H N hk.bp (k : Int) (36 + (r : Int)) ⟨by omega, by omega⟩ ⟨by omega, by omega⟩
    have hro := Bch.read_ok (N := N) (d := k) (k := 36 + r) hkn (by omega) hf hdn
    rw [show ((36 + r : Nat) : Int) = 36 + (r : Int) by omega] at hro
    rw [hro.1, hro.2] at CR
    replace CR := Lib.hid CR
    have hy32 := h32 r hlt
    have HB := Lib.hid hB
    have Hv := Lib.hid hv
    have Hsn := Lib.hid (wantL_succ N k r)
    have hln := wantL_len N k r
    generalize wantL N k r = xs at Hv hln Hsn
    generalize secAt (N.D k).now (36 + r) = y at CR hy32 Hsn
    have hsz := hB.size
    clear hk hv HX hk0 h32 hro hB
    go_wp2_with fail
    (with_reducible refine CR.out.mono ?_); rintro e w1 ⟨v, rfl, hy, hb1⟩
    obtain ⟨Ay, cy, rfl, _, _⟩ := hy.rd
    rw [hy32]
    have V1 := Lib.hid (Hv.out.below hb1)
    have hne := hy.addr_ob (by omega)
    have hvl := Hv.out.lt
    have hb1s := hb1.size
    have Hy := Lib.hid ((hy.rdbf).le hsz)
    have HB1 := Lib.hid (HB.out.trans (hb1.mono HB.out.size))
    have Hne : Hid (0 < y.length → ∀ a, Ay = some a → some a.block ≠ Value.ownBlock xv) := fun _ a ha e => by
      have h1 := hne a ha
      have h2 := (hvl _ e.symm).2
      omega
    clear CR Hv HB hb1 hy hne
    have BX := Below.refl w1.heap.size w1
    go_wp2_with (at_builtin; refine wpList_append_row rfl _ _ _ rfl Try.underlying50 w0.heap.size _ xs rfl (V1.out.below (BX.alloc BX.size _)) w1.heap.size _ _ Ay cy y rfl (by rw [hy32]; exact hp_new _ _ _ rfl) (Hy.out.keep (by have := (BX.alloc BX.size (.cells #[.slice Ay 32 cy] 45)).size; exact this) fun _ _ hp => (BX.alloc BX.size _).cell hp) Hne.out (by omega) (by have := (BX.alloc BX.size (.cells #[.slice Ay 32 cy] 45)).size; omega) fun v3 w3 ho3 hg3 => ?_)
    have HB3 := Lib.hid (show Below w0.heap.size w0 w3 from by
      have hba := HB1.out.alloc HB1.out.size (.cells #[.slice Ay 32 cy] 45)
      exact hba.grown hg3 hba.size fun j e => (hvl j e).1)
    have HO3 := Lib.hid (show OwV w0.heap.size w3 v3 (wantL N k (r + 1)) from by rw [Hsn.out]; exact ho3)
    clear ho3 hg3 BX
    go_wp2_with fail
    exact HK.out _ _ _ _ _ _ _ _ _ _ _ _ _ _ _ _ _ _ _ _ ⟨by omega, HB3.out, HO3.out⟩ (by omega)
  · have i1 : ¬ (r : Int) < 16 := by omega
    have Hin := Lib.hid (show r = 16 by omega)
    clear HK hk0
    go_wp2_with fail
    exact HX.out _ _ _ _ _ _ _ _ _ _ _ _ _ _ _ _ _ _ Hin.out
set_option maxRecDepth 100000 in
set_option maxHeartbeats 3200000 in
theorem rrA {W0 w0 : World} {b k : Nat} {H : BH} {N : Bch} {KK : List (Nat × Obj)}  {w : World} (u0 u1 u2 u3 u5 u6 u7 u8 u9 u10 u11 u12 u13 u14 u16 u19 u20 u21 u22 u23 u24 u25 u26 u27 u28 u29 u30 u31 u32 u33 u34 u35 u36 u37 u38 u39 u40 u41 u42 u43 u44 u45 u46 u47 u48 u49 u50 u51 u52 u53 u54 u55 u56 u57 u58 u59 u60 u61 u62 u63 u64 u65 u66 u67 u68 u69 u70 u71 u72 u73 u74 u75 u76 u77 u78 u79 u80 u81 u82 u83 u84 u85 u86 u87 u88 u89 u90 u91 u92 u93 u94 u95 u96 u97 u98 u99 u100 u101 u102 u103 u104 u105 u106 u107 u108 u109 u110 u111 u112 u113 u114 u115 u116 u117 u118 u119 u120 u121 u122 u123 u124 u125 u126 u127 u128 u129 u130 u131 u132 u133 u134 u135 u136 u137 u138 u139 u140 u141 u142 u143 u144 u145 u146 u147 u148 u149 u150 u151 u152 u153 u154 u155 u156 u157 u158 u159 u160 u161 u162 u163 : Value) (Q : Exit → Act → World → Prop) (hk0 : KS W0 w0 b H N KK [] []) (hkn : k < N.n) (hn8 : N.n ≤ 8) (hdn : N.down = false) (hf : (N.D k).f = false) (h32 : ∀ r, r < 16 → (secAt (N.D k).now (36 + r)).length = 32) (hI : (0 ≤ 16 ∧ Below w0.heap.size w0 w ∧ OwV w0.heap.size w (.slice none 0 0) (wantL N k 0)))
    (hX : ∀ (v19 v20 v52 v53 v54 v55 v56 v57 v58 v59 v60 v61 v62 v63 v64 v65 v66 v67 : Value) (xv : Value) (r : Nat) (V : World), (r ≤ 16 ∧ Below w0.heap.size w0 V ∧ OwV w0.heap.size V xv (wantL N k r)) → (r = 16) → Q (.exit 0) ⟨List.toArray (u0 :: u1 :: u2 :: u3 :: (.int .i64 (k : Int)) :: u5 :: u6 :: u7 :: u8 :: u9 :: u10 :: u11 :: u12 :: u13 :: u14 :: (.pointer (some ⟨b, 0, none⟩)) :: u16 :: xv :: (.int .i64 ((r : Nat) : Int)) :: v19 :: v20 :: u21 :: u22 :: u23 :: u24 :: u25 :: u26 :: u27 :: u28 :: u29 :: u30 :: u31 :: u32 :: u33 :: u34 :: u35 :: u36 :: u37 :: u38 :: u39 :: u40 :: u41 :: u42 :: u43 :: u44 :: u45 :: u46 :: u47 :: u48 :: u49 :: u50 :: u51 :: v52 :: v53 :: v54 :: v55 :: v56 :: v57 :: v58 :: v59 :: v60 :: v61 :: v62 :: v63 :: v64 :: v65 :: v66 :: v67 :: u68 :: u69 :: u70 :: u71 :: u72 :: u73 :: u74 :: u75 :: u76 :: u77 :: u78 :: u79 :: u80 :: u81 :: u82 :: u83 :: u84 :: u85 :: u86 :: u87 :: u88 :: u89 :: u90 :: u91 :: u92 :: u93 :: u94 :: u95 :: u96 :: u97 :: u98 :: u99 :: u100 :: u101 :: u102 :: u103 :: u104 :: u105 :: u106 :: u107 :: u108 :: u109 :: u110 :: u111 :: u112 :: u113 :: u114 :: u115 :: u116 :: u117 :: u118 :: u119 :: u120 :: u121 :: u122 :: u123 :: u124 :: u125 :: u126 :: u127 :: u128 :: u129 :: u130 :: u131 :: u132 :: u133 :: u134 :: u135 :: u136 :: u137 :: u138 :: u139 :: u140 :: u141 :: u142 :: u143 :: u144 :: u145 :: u146 :: u147 :: u148 :: u149 :: u150 :: u151 :: u152 :: u153 :: u154 :: u155 :: u156 :: u157 :: u158 :: u159 :: u160 :: u161 :: u162 :: u163 :: []), []⟩ V) :
    Code.wp Try.prog (.loop (sub [1, 1, 1, 1, 1, 1, 1, 1, 0, 1, 0, 0] codeRR)) Q ⟨List.toArray (u0 :: u1 :: u2 :: u3 :: (.int .i64 (k : Int)) :: u5 :: u6 :: u7 :: u8 :: u9 :: u10 :: u11 :: u12 :: u13 :: u14 :: (.pointer (some ⟨b, 0, none⟩)) :: u16 :: (.slice none 0 0) :: (.int .i64 ((0 : Nat) : Int)) :: u19 :: u20 :: u21 :: u22 :: u23 :: u24 :: u25 :: u26 :: u27 :: u28 :: u29 :: u30 :: u31 :: u32 :: u33 :: u34 :: u35 :: u36 :: u37 :: u38 :: u39 :: u40 :: u41 :: u42 :: u43 :: u44 :: u45 :: u46 :: u47 :: u48 :: u49 :: u50 :: u51 :: u52 :: u53 :: u54 :: u55 :: u56 :: u57 :: u58 :: u59 :: u60 :: u61 :: u62 :: u63 :: u64 :: u65 :: u66 :: u67 :: u68 :: u69 :: u70 :: u71 :: u72 :: u73 :: u74 :: u75 :: u76 :: u77 :: u78 :: u79 :: u80 :: u81 :: u82 :: u83 :: u84 :: u85 :: u86 :: u87 :: u88 :: u89 :: u90 :: u91 :: u92 :: u93 :: u94 :: u95 :: u96 :: u97 :: u98 :: u99 :: u100 :: u101 :: u102 :: u103 :: u104 :: u105 :: u106 :: u107 :: u108 :: u109 :: u110 :: u111 :: u112 :: u113 :: u114 :: u115 :: u116 :: u117 :: u118 :: u119 :: u120 :: u121 :: u122 :: u123 :: u124 :: u125 :: u126 :: u127 :: u128 :: u129 :: u130 :: u131 :: u132 :: u133 :: u134 :: u135 :: u136 :: u137 :: u138 :: u139 :: u140 :: u141 :: u142 :: u143 :: u144 :: u145 :: u146 :: u147 :: u148 :: u149 :: u150 :: u151 :: u152 :: u153 :: u154 :: u155 :: u156 :: u157 :: u158 :: u159 :: u160 :: u161 :: u162 :: u163 :: []), []⟩ w := by
  refine wp_loop_ghost (fun gk a V => ∀ C : Prop, (∀ (u19 u20 u52 u53 u54 u55 u56 u57 u58 u59 u60 u61 u62 u63 u64 u65 u66 u67 : Value) (xv : Value) (r : Nat), gk = 16 - r → (r ≤ 16 ∧ Below w0.heap.size w0 V ∧ OwV w0.heap.size V xv (wantL N k r)) → a = ⟨List.toArray (u0 :: u1 :: u2 :: u3 :: (.int .i64 (k : Int)) :: u5 :: u6 :: u7 :: u8 :: u9 :: u10 :: u11 :: u12 :: u13 :: u14 :: (.pointer (some ⟨b, 0, none⟩)) :: u16 :: xv :: (.int .i64 ((r : Nat) : Int)) :: u19 :: u20 :: u21 :: u22 :: u23 :: u24 :: u25 :: u26 :: u27 :: u28 :: u29 :: u30 :: u31 :: u32 :: u33 :: u34 :: u35 :: u36 :: u37 :: u38 :: u39 :: u40 :: u41 :: u42 :: u43 :: u44 :: u45 :: u46 :: u47 :: u48 :: u49 :: u50 :: u51 :: u52 :: u53 :: u54 :: u55 :: u56 :: u57 :: u58 :: u59 :: u60 :: u61 :: u62 :: u63 :: u64 :: u65 :: u66 :: u67 :: u68 :: u69 :: u70 :: u71 :: u72 :: u73 :: u74 :: u75 :: u76 :: u77 :: u78 :: u79 :: u80 :: u81 :: u82 :: u83 :: u84 :: u85 :: u86 :: u87 :: u88 :: u89 :: u90 :: u91 :: u92 :: u93 :: u94 :: u95 :: u96 :: u97 :: u98 :: u99 :: u100 :: u101 :: u102 :: u103 :: u104 :: u105 :: u106 :: u107 :: u108 :: u109 :: u110 :: u111 :: u112 :: u113 :: u114 :: u115 :: u116 :: u117 :: u118 :: u119 :: u120 :: u121 :: u122 :: u123 :: u124 :: u125 :: u126 :: u127 :: u128 :: u129 :: u130 :: u131 :: u132 :: u133 :: u134 :: u135 :: u136 :: u137 :: u138 :: u139 :: u140 :: u141 :: u142 :: u143 :: u144 :: u145 :: u146 :: u147 :: u148 :: u149 :: u150 :: u151 :: u152 :: u153 :: u154 :: u155 :: u156 :: u157 :: u158 :: u159 :: u160 :: u161 :: u162 :: u163 :: []), []⟩ → C) → C) (16 - 0) ?_ ?_
  · intro C hC
    exact hC _ _ _ _ _ _ _ _ _ _ _ _ _ _ _ _ _ _ ((.slice none 0 0)) (0) rfl hI rfl
  · intro gk a V hI'
    refine hI' _ ?_
    intro u19 u20 u52 u53 u54 u55 u56 u57 u58 u59 u60 u61 u62 u63 u64 u65 u66 u67 xv r hk hinv ha
    subst ha
    subst hk
    refine rrAb _ _ _ _ _ _ _ _ _ _ _ _ _ _ _ _ _ _ _ _ _ _ _ _ _ _ _ _ _ _ _ _ _ _ _ _ _ _ _ _ _ _ _ _ _ _ _ _ _ _ _ _ _ _ _ _ _ _ _ _ _ _ _ _ _ _ _ _ _ _ _ _ _ _ _ _ _ _ _ _ _ _ _ _ _ _ _ _ _ _ _ _ _ _ _ _ _ _ _ _ _ _ _ _ _ _ _ _ _ _ _ _ _ _ _ _ _ _ _ _ _ _ _ _ _ _ _ _ _ _ _ _ _ _ _ _ _ _ _ _ _ _ _ _ _ _ _ _ _ _ _ _ _ _ _ _ _ _ _ _ _ _ hk0 hkn hn8 hdn hf h32 hinv (fun v19 v20 v52 v53 v54 v55 v56 v57 v58 v59 v60 v61 v62 v63 v64 v65 v66 v67 xv2 V2 h2 hm => ?_) (fun v19 v20 v52 v53 v54 v55 v56 v57 v58 v59 v60 v61 v62 v63 v64 v65 v66 v67 hx => hX v19 v20 v52 v53 v54 v55 v56 v57 v58 v59 v60 v61 v62 v63 v64 v65 v66 v67 xv r V hinv hx)
    refine ⟨_, hm, fun C hC => ?_⟩
    exact hC v19 v20 v52 v53 v54 v55 v56 v57 v58 v59 v60 v61 v62 v63 v64 v65 v66 v67 (xv2) ((r + 1)) rfl h2 rfl
set_option maxRecDepth 100000 in
set_option maxHeartbeats 3200000 in
theorem rrBb {W0 : World} {b k D ga cw : Nat} {l c s : Int} {AW : Option Addr} {ws : List (List UInt8)} {H : BH} {N : Bch} {KK : List (Nat × Obj)} {r : Nat} {w : World} (u0 u1 u3 u5 u6 u7 u8 u9 u10 u11 u12 u14 u16 u18 u19 u20 u21 u22 u23 u25 u26 u27 u28 u29 u30 u31 u32 u33 u34 u35 u36 u37 u38 u39 u40 u41 u42 u43 u44 u45 u46 u47 u48 u49 u50 u51 u52 u53 u54 u55 u56 u57 u58 u59 u60 u61 u62 u63 u64 u65 u66 u67 u68 u69 u70 u71 u72 u73 u74 u75 u76 u77 u78 u79 u80 u81 u82 u83 u84 u85 u86 u87 u88 u89 u90 u91 u92 u93 u94 u95 u96 u97 u98 u99 u100 u101 u102 u103 u104 u105 u106 u107 u108 u109 u110 u111 u112 u113 u114 u115 u116 u117 u118 u119 u120 u121 u122 u123 u124 u125 u126 u127 u128 u129 u130 u131 u132 u133 u134 u135 u136 u137 u138 u139 u140 u141 u142 u143 u144 u145 u146 u147 u148 u149 u150 u151 u152 u153 u154 u155 u156 u157 u158 u159 u160 u161 u162 u163 : Value) (K : Act → World → Prop) (Q0 : Exit → Act → World → Prop) (hmem : (ga, Obj.cells #[.int .i64 l, .int .i64 (D : Int), .int .i64 c] 25 (0, 0)) ∈ KK) (hkn : k < N.n) (hn8 : N.n ≤ 8) (hD8 : D ≤ 8) (hs : 0 ≤ s ∧ s ≤ 16) (hdn : N.down = false) (hf : (N.D k).f = false) (hwl : ws.length = 16) (h32 : ∀ r, r < 16 → (secAt (N.D k).now (36 + r)).length = 32) (hv : ∀ r, r < 16 → ws.getD r [] = secAt (N.D k).now (36 + r)) (hz : D ≤ k → ∀ r : Nat, r < 16 → s ≤ (r : Int) → secAt (N.D k).now (36 + r) = zeroL 32) (hI : (r ≤ 16 ∧ KS W0 w b H N KK [(AW, ws)] []))
    (hK : ∀ (v12 v25 v26 v27 v129 v130 v131 v132 v133 v134 v135 v136 v137 v138 v139 v140 v141 v142 v143 v144 v145 v146 v147 v148 v149 v150 v151 v152 v153 v154 v155 v156 v157 v158 v159 v160 v161 v162 : Value)  (V : World), ((r + 1) ≤ 16 ∧ KS W0 V b H N KK [(AW, ws)] []) → 16 - (r + 1) < 16 - r → K ⟨List.toArray (u0 :: u1 :: (.int .i64 s) :: u3 :: (.int .i64 (k : Int)) :: u5 :: u6 :: u7 :: u8 :: u9 :: u10 :: u11 :: v12 :: (.pointer (some ⟨ga, 0, none⟩)) :: u14 :: (.pointer (some ⟨b, 0, none⟩)) :: u16 :: (.slice AW 16 cw) :: u18 :: u19 :: u20 :: u21 :: u22 :: u23 :: (.int .i64 (((r + 1) : Nat) : Int)) :: v25 :: v26 :: v27 :: u28 :: u29 :: u30 :: u31 :: u32 :: u33 :: u34 :: u35 :: u36 :: u37 :: u38 :: u39 :: u40 :: u41 :: u42 :: u43 :: u44 :: u45 :: u46 :: u47 :: u48 :: u49 :: u50 :: u51 :: u52 :: u53 :: u54 :: u55 :: u56 :: u57 :: u58 :: u59 :: u60 :: u61 :: u62 :: u63 :: u64 :: u65 :: u66 :: u67 :: u68 :: u69 :: u70 :: u71 :: u72 :: u73 :: u74 :: u75 :: u76 :: u77 :: u78 :: u79 :: u80 :: u81 :: u82 :: u83 :: u84 :: u85 :: u86 :: u87 :: u88 :: u89 :: u90 :: u91 :: u92 :: u93 :: u94 :: u95 :: u96 :: u97 :: u98 :: u99 :: u100 :: u101 :: u102 :: u103 :: u104 :: u105 :: u106 :: u107 :: u108 :: u109 :: u110 :: u111 :: u112 :: u113 :: u114 :: u115 :: u116 :: u117 :: u118 :: u119 :: u120 :: u121 :: u122 :: u123 :: u124 :: u125 :: u126 :: u127 :: u128 :: v129 :: v130 :: v131 :: v132 :: v133 :: v134 :: v135 :: v136 :: v137 :: v138 :: v139 :: v140 :: v141 :: v142 :: v143 :: v144 :: v145 :: v146 :: v147 :: v148 :: v149 :: v150 :: v151 :: v152 :: v153 :: v154 :: v155 :: v156 :: v157 :: v158 :: v159 :: v160 :: v161 :: v162 :: u163 :: []), []⟩ V)
    (hX : ∀ (v12 v25 v26 v27 v129 v130 v131 v132 v133 v134 v135 v136 v137 v138 v139 v140 v141 v142 v143 v144 v145 v146 v147 v148 v149 v150 v151 v152 v153 v154 v155 v156 v157 v158 v159 v160 v161 v162 : Value), (r = 16) → Q0 (.exit 2) ⟨List.toArray (u0 :: u1 :: (.int .i64 s) :: u3 :: (.int .i64 (k : Int)) :: u5 :: u6 :: u7 :: u8 :: u9 :: u10 :: u11 :: v12 :: (.pointer (some ⟨ga, 0, none⟩)) :: u14 :: (.pointer (some ⟨b, 0, none⟩)) :: u16 :: (.slice AW 16 cw) :: u18 :: u19 :: u20 :: u21 :: u22 :: u23 :: (.int .i64 ((r : Nat) : Int)) :: v25 :: v26 :: v27 :: u28 :: u29 :: u30 :: u31 :: u32 :: u33 :: u34 :: u35 :: u36 :: u37 :: u38 :: u39 :: u40 :: u41 :: u42 :: u43 :: u44 :: u45 :: u46 :: u47 :: u48 :: u49 :: u50 :: u51 :: u52 :: u53 :: u54 :: u55 :: u56 :: u57 :: u58 :: u59 :: u60 :: u61 :: u62 :: u63 :: u64 :: u65 :: u66 :: u67 :: u68 :: u69 :: u70 :: u71 :: u72 :: u73 :: u74 :: u75 :: u76 :: u77 :: u78 :: u79 :: u80 :: u81 :: u82 :: u83 :: u84 :: u85 :: u86 :: u87 :: u88 :: u89 :: u90 :: u91 :: u92 :: u93 :: u94 :: u95 :: u96 :: u97 :: u98 :: u99 :: u100 :: u101 :: u102 :: u103 :: u104 :: u105 :: u106 :: u107 :: u108 :: u109 :: u110 :: u111 :: u112 :: u113 :: u114 :: u115 :: u116 :: u117 :: u118 :: u119 :: u120 :: u121 :: u122 :: u123 :: u124 :: u125 :: u126 :: u127 :: u128 :: v129 :: v130 :: v131 :: v132 :: v133 :: v134 :: v135 :: v136 :: v137 :: v138 :: v139 :: v140 :: v141 :: v142 :: v143 :: v144 :: v145 :: v146 :: v147 :: v148 :: v149 :: v150 :: v151 :: v152 :: v153 :: v154 :: v155 :: v156 :: v157 :: v158 :: v159 :: v160 :: v161 :: v162 :: u163 :: []), []⟩ w) :
    Code.wp Try.prog (sub [1, 1, 1, 1, 1, 1, 1, 1, 1, 1, 1, 1, 1, 1, 1, 1, 0, 1, 0, 0] codeRR) (Exit.then K Q0) ⟨List.toArray (u0 :: u1 :: (.int .i64 s) :: u3 :: (.int .i64 (k : Int)) :: u5 :: u6 :: u7 :: u8 :: u9 :: u10 :: u11 :: u12 :: (.pointer (some ⟨ga, 0, none⟩)) :: u14 :: (.pointer (some ⟨b, 0, none⟩)) :: u16 :: (.slice AW 16 cw) :: u18 :: u19 :: u20 :: u21 :: u22 :: u23 :: (.int .i64 ((r : Nat) : Int)) :: u25 :: u26 :: u27 :: u28 :: u29 :: u30 :: u31 :: u32 :: u33 :: u34 :: u35 :: u36 :: u37 :: u38 :: u39 :: u40 :: u41 :: u42 :: u43 :: u44 :: u45 :: u46 :: u47 :: u48 :: u49 :: u50 :: u51 :: u52 :: u53 :: u54 :: u55 :: u56 :: u57 :: u58 :: u59 :: u60 :: u61 :: u62 :: u63 :: u64 :: u65 :: u66 :: u67 :: u68 :: u69 :: u70 :: u71 :: u72 :: u73 :: u74 :: u75 :: u76 :: u77 :: u78 :: u79 :: u80 :: u81 :: u82 :: u83 :: u84 :: u85 :: u86 :: u87 :: u88 :: u89 :: u90 :: u91 :: u92 :: u93 :: u94 :: u95 :: u96 :: u97 :: u98 :: u99 :: u100 :: u101 :: u102 :: u103 :: u104 :: u105 :: u106 :: u107 :: u108 :: u109 :: u110 :: u111 :: u112 :: u113 :: u114 :: u115 :: u116 :: u117 :: u118 :: u119 :: u120 :: u121 :: u122 :: u123 :: u124 :: u125 :: u126 :: u127 :: u128 :: u129 :: u130 :: u131 :: u132 :: u133 :: u134 :: u135 :: u136 :: u137 :: u138 :: u139 :: u140 :: u141 :: u142 :: u143 :: u144 :: u145 :: u146 :: u147 :: u148 :: u149 :: u150 :: u151 :: u152 :: u153 :: u154 :: u155 :: u156 :: u157 :: u158 :: u159 :: u160 :: u161 :: u162 :: u163 :: []), []⟩ w := by
  have HK := Lib.hid hK
  have HX := Lib.hid hX
  clear hK hX
  conv => arg 2; whnf
  obtain ⟨hr, hk⟩ := hI
  have hmk : ∀ w, (Instr.makeSlice 45 (.int .i64 32) (.int .i64 32)).run Try.prog w = .ok (.slice (some ⟨w.heap.size, 0, none⟩) 32 32) (w.alloc (.cells (zcells 32) 5)) := make_bytes 32 (by omega)
  by_cases hlt : r < 16
  · have i0 : (0 : Int) ≤ (r : Int) := by omega
    have i1 : (r : Int) < 16 := by omega
    have j0 : (0 : Int) ≤ (k : Int) := by omega
    have hro := Bch.read_ok (N := N) (d := k) (k := 36 + r) hkn (by omega) hf hdn
    rw [show ((36 + r : Nat) : Int) = 36 + (r : Int) by omega] at hro
    have Hro := Lib.hid hro
    have hy32 := h32 r hlt
    obtain ⟨b', off, A', c', e, h1, h2⟩ := (hk.rx _ (List.mem_cons_self ..)).at (k := r) (by show r < ws.length; omega)
    dsimp only at e h1 h2
    subst e
    rw [hv r hlt] at h1 h2
    have hzr2 : D ≤ k → s ≤ (r : Int) → secAt (N.D k).now (36 + r) = zeroL 32 := fun h1 h2 => hz h1 r hlt h2
    obtain ⟨g1, g2, g3⟩ := hk.gat hmem
    have Hk := Lib.hid hk
    have H2 := Lib.hid h2
    clear hk HX hv hz hro h2 h32 hwl
    generalize secAt (N.D k).now (36 + r) = y at Hro hy32 h1 H2 hzr2
    rw [hy32] at h1
    by_cases hd : D ≤ k
    · have i2 : (D : Int) ≤ (k : Int) := by omega
      by_cases hs2 : s ≤ (r : Int)
      · obtain rfl := hzr2 hd hs2
        clear hd hzr2 H2
        have HK2 := Lib.hid (Hk.out.below (below1 w (.cells (zcells 32) 5)))
        have hzc := rdb_zc w
        have CR := Lib.hid (bp_read W0 (w.alloc (.cells (zcells 32) 5)) b H N HK2.out.bp (k : Int) (36 + (r : Int)) ⟨by omega, by omega⟩ ⟨by omega, by omega⟩)
        rw [Hro.out.1, Hro.out.2] at CR
        go_wp2_with fail
        (with_reducible refine CR.out.mono ?_); rintro e w1 ⟨v, rfl, hy, hb1⟩
        obtain ⟨Ay, cy, rfl, _, _⟩ := hy.rd
        have hyr := hy.rdS.1
        rw [hy32]
        have hb1s := hb1.size
        have CS := Lib.hid (sameT_any (c := cy) (c' := 32) (n' := 32) hy32.symm hy32.symm hyr ((hzc.below hb1 (Nat.le_refl _)).more hb1s))
        have K1 := Lib.hid (HK2.out.below hb1)
        clear CR hy hyr hb1
        go_wp2_with fail
        (with_reducible refine CS.out.mono ?_); rintro e w4 ⟨rfl, m, rfl⟩
        go_wp2_with fail
        exact HK.out _ _ _ _ _ _ _ _ _ _ _ _ _ _ _ _ _ _ _ _ _ _ _ _ _ _ _ _ _ _ _ _ _ _ _ _ _ _ _ ⟨by omega, K1.out.below (belowN _ _ m)⟩ (by omega)
      · have i3 : (r : Int) < s := by omega
        clear hd hzr2
        have hrw := H2.out.rdb
        have CR := Lib.hid (bp_read W0 w b H N Hk.out.bp (k : Int) (36 + (r : Int)) ⟨by omega, by omega⟩ ⟨by omega, by omega⟩)
        rw [Hro.out.1, Hro.out.2] at CR
        go_wp2_with fail
        (with_reducible refine CR.out.mono ?_); rintro e w1 ⟨v, rfl, hy, hb1⟩
        obtain ⟨Ay, cy, rfl, _, _⟩ := hy.rd
        have hyr := hy.rdS.1
        rw [hy32]
        have hb1s := hb1.size
        have CS := Lib.hid (sameT_any (c := cy) (c' := c') (n' := 32) hy32.symm hy32.symm hyr ((hrw.below hb1 (Nat.le_refl _)).more hb1s))
        have K1 := Lib.hid (Hk.out.below hb1)
        clear CR hy hyr hb1
        go_wp2_with fail
        (with_reducible refine CS.out.mono ?_); rintro e w4 ⟨rfl, m, rfl⟩
        go_wp2_with fail
        exact HK.out _ _ _ _ _ _ _ _ _ _ _ _ _ _ _ _ _ _ _ _ _ _ _ _ _ _ _ _ _ _ _ _ _ _ _ _ _ _ _ ⟨by omega, K1.out.below (belowN _ _ m)⟩ (by omega)
    · have i2 : (k : Int) < (D : Int) := by omega
      clear hd hzr2
      have hrw := H2.out.rdb
      have CR := Lib.hid (bp_read W0 w b H N Hk.out.bp (k : Int) (36 + (r : Int)) ⟨by omega, by omega⟩ ⟨by omega, by omega⟩)
      rw [Hro.out.1, Hro.out.2] at CR
      go_wp2_with fail
      (with_reducible refine CR.out.mono ?_); rintro e w1 ⟨v, rfl, hy, hb1⟩
      obtain ⟨Ay, cy, rfl, _, _⟩ := hy.rd
      have hyr := hy.rdS.1
      rw [hy32]
      have hb1s := hb1.size
      have CS := Lib.hid (sameT_any (c := cy) (c' := c') (n' := 32) hy32.symm hy32.symm hyr ((hrw.below hb1 (Nat.le_refl _)).more hb1s))
      have K1 := Lib.hid (Hk.out.below hb1)
      clear CR hy hyr hb1
      go_wp2_with fail
      (with_reducible refine CS.out.mono ?_); rintro e w4 ⟨rfl, m, rfl⟩
      go_wp2_with fail
      exact HK.out _ _ _ _ _ _ _ _ _ _ _ _ _ _ _ _ _ _ _ _ _ _ _ _ _ _ _ _ _ _ _ _ _ _ _ _ _ _ _ ⟨by omega, K1.out.below (belowN _ _ m)⟩ (by omega)
  · have i1 : ¬ (r : Int) < 16 := by omega
    have Hin := Lib.hid (show r = 16 by omega)
    clear HK hk
    go_wp2_with fail
    exact HX.out _ _ _ _ _ _ _ _ _ _ _ _ _ _ _ _ _ _ _ _ _ _ _ _ _ _ _ _ _ _ _ _ _ _ _ _ _ _ Hin.out
set_option maxRecDepth 100000 in
set_option maxHeartbeats 3200000 in
theorem rrB {W0 : World} {b k D ga cw : Nat} {l c s : Int} {AW : Option Addr} {ws : List (List UInt8)} {H : BH} {N : Bch} {KK : List (Nat × Obj)}  {w : World} (u0 u1 u3 u5 u6 u7 u8 u9 u10 u11 u12 u14 u16 u18 u19 u20 u21 u22 u23 u25 u26 u27 u28 u29 u30 u31 u32 u33 u34 u35 u36 u37 u38 u39 u40 u41 u42 u43 u44 u45 u46 u47 u48 u49 u50 u51 u52 u53 u54 u55 u56 u57 u58 u59 u60 u61 u62 u63 u64 u65 u66 u67 u68 u69 u70 u71 u72 u73 u74 u75 u76 u77 u78 u79 u80 u81 u82 u83 u84 u85 u86 u87 u88 u89 u90 u91 u92 u93 u94 u95 u96 u97 u98 u99 u100 u101 u102 u103 u104 u105 u106 u107 u108 u109 u110 u111 u112 u113 u114 u115 u116 u117 u118 u119 u120 u121 u122 u123 u124 u125 u126 u127 u128 u129 u130 u131 u132 u133 u134 u135 u136 u137 u138 u139 u140 u141 u142 u143 u144 u145 u146 u147 u148 u149 u150 u151 u152 u153 u154 u155 u156 u157 u158 u159 u160 u161 u162 u163 : Value) (Q : Exit → Act → World → Prop) (hmem : (ga, Obj.cells #[.int .i64 l, .int .i64 (D : Int), .int .i64 c] 25 (0, 0)) ∈ KK) (hkn : k < N.n) (hn8 : N.n ≤ 8) (hD8 : D ≤ 8) (hs : 0 ≤ s ∧ s ≤ 16) (hdn : N.down = false) (hf : (N.D k).f = false) (hwl : ws.length = 16) (h32 : ∀ r, r < 16 → (secAt (N.D k).now (36 + r)).length = 32) (hv : ∀ r, r < 16 → ws.getD r [] = secAt (N.D k).now (36 + r)) (hz : D ≤ k → ∀ r : Nat, r < 16 → s ≤ (r : Int) → secAt (N.D k).now (36 + r) = zeroL 32) (hI : (0 ≤ 16 ∧ KS W0 w b H N KK [(AW, ws)] []))
    (hX : ∀ (v12 v25 v26 v27 v129 v130 v131 v132 v133 v134 v135 v136 v137 v138 v139 v140 v141 v142 v143 v144 v145 v146 v147 v148 v149 v150 v151 v152 v153 v154 v155 v156 v157 v158 v159 v160 v161 v162 : Value) (r : Nat) (V : World), (r ≤ 16 ∧ KS W0 V b H N KK [(AW, ws)] []) → (r = 16) → Q (.exit 2) ⟨List.toArray (u0 :: u1 :: (.int .i64 s) :: u3 :: (.int .i64 (k : Int)) :: u5 :: u6 :: u7 :: u8 :: u9 :: u10 :: u11 :: v12 :: (.pointer (some ⟨ga, 0, none⟩)) :: u14 :: (.pointer (some ⟨b, 0, none⟩)) :: u16 :: (.slice AW 16 cw) :: u18 :: u19 :: u20 :: u21 :: u22 :: u23 :: (.int .i64 ((r : Nat) : Int)) :: v25 :: v26 :: v27 :: u28 :: u29 :: u30 :: u31 :: u32 :: u33 :: u34 :: u35 :: u36 :: u37 :: u38 :: u39 :: u40 :: u41 :: u42 :: u43 :: u44 :: u45 :: u46 :: u47 :: u48 :: u49 :: u50 :: u51 :: u52 :: u53 :: u54 :: u55 :: u56 :: u57 :: u58 :: u59 :: u60 :: u61 :: u62 :: u63 :: u64 :: u65 :: u66 :: u67 :: u68 :: u69 :: u70 :: u71 :: u72 :: u73 :: u74 :: u75 :: u76 :: u77 :: u78 :: u79 :: u80 :: u81 :: u82 :: u83 :: u84 :: u85 :: u86 :: u87 :: u88 :: u89 :: u90 :: u91 :: u92 :: u93 :: u94 :: u95 :: u96 :: u97 :: u98 :: u99 :: u100 :: u101 :: u102 :: u103 :: u104 :: u105 :: u106 :: u107 :: u108 :: u109 :: u110 :: u111 :: u112 :: u113 :: u114 :: u115 :: u116 :: u117 :: u118 :: u119 :: u120 :: u121 :: u122 :: u123 :: u124 :: u125 :: u126 :: u127 :: u128 :: v129 :: v130 :: v131 :: v132 :: v133 :: v134 :: v135 :: v136 :: v137 :: v138 :: v139 :: v140 :: v141 :: v142 :: v143 :: v144 :: v145 :: v146 :: v147 :: v148 :: v149 :: v150 :: v151 :: v152 :: v153 :: v154 :: v155 :: v156 :: v157 :: v158 :: v159 :: v160 :: v161 :: v162 :: u163 :: []), []⟩ V) :
    Code.wp Try.prog (.loop (sub [1, 1, 1, 1, 1, 1, 1, 1, 1, 1, 1, 1, 1, 1, 1, 1, 0, 1, 0, 0] codeRR)) Q ⟨List.toArray (u0 :: u1 :: (.int .i64 s) :: u3 :: (.int .i64 (k : Int)) :: u5 :: u6 :: u7 :: u8 :: u9 :: u10 :: u11 :: u12 :: (.pointer (some ⟨ga, 0, none⟩)) :: u14 :: (.pointer (some ⟨b, 0, none⟩)) :: u16 :: (.slice AW 16 cw) :: u18 :: u19 :: u20 :: u21 :: u22 :: u23 :: (.int .i64 ((0 : Nat) : Int)) :: u25 :: u26 :: u27 :: u28 :: u29 :: u30 :: u31 :: u32 :: u33 :: u34 :: u35 :: u36 :: u37 :: u38 :: u39 :: u40 :: u41 :: u42 :: u43 :: u44 :: u45 :: u46 :: u47 :: u48 :: u49 :: u50 :: u51 :: u52 :: u53 :: u54 :: u55 :: u56 :: u57 :: u58 :: u59 :: u60 :: u61 :: u62 :: u63 :: u64 :: u65 :: u66 :: u67 :: u68 :: u69 :: u70 :: u71 :: u72 :: u73 :: u74 :: u75 :: u76 :: u77 :: u78 :: u79 :: u80 :: u81 :: u82 :: u83 :: u84 :: u85 :: u86 :: u87 :: u88 :: u89 :: u90 :: u91 :: u92 :: u93 :: u94 :: u95 :: u96 :: u97 :: u98 :: u99 :: u100 :: u101 :: u102 :: u103 :: u104 :: u105 :: u106 :: u107 :: u108 :: u109 :: u110 :: u111 :: u112 :: u113 :: u114 :: u115 :: u116 :: u117 :: u118 :: u119 :: u120 :: u121 :: u122 :: u123 :: u124 :: u125 :: u126 :: u127 :: u128 :: u129 :: u130 :: u131 :: u132 :: u133 :: u134 :: u135 :: u136 :: u137 :: u138 :: u139 :: u140 :: u141 :: u142 :: u143 :: u144 :: u145 :: u146 :: u147 :: u148 :: u149 :: u150 :: u151 :: u152 :: u153 :: u154 :: u155 :: u156 :: u157 :: u158 :: u159 :: u160 :: u161 :: u162 :: u163 :: []), []⟩ w := by
  refine wp_loop_ghost (fun gk a V => ∀ C : Prop, (∀ (u12 u25 u26 u27 u129 u130 u131 u132 u133 u134 u135 u136 u137 u138 u139 u140 u141 u142 u143 u144 u145 u146 u147 u148 u149 u150 u151 u152 u153 u154 u155 u156 u157 u158 u159 u160 u161 u162 : Value) (r : Nat), gk = 16 - r → (r ≤ 16 ∧ KS W0 V b H N KK [(AW, ws)] []) → a = ⟨List.toArray (u0 :: u1 :: (.int .i64 s) :: u3 :: (.int .i64 (k : Int)) :: u5 :: u6 :: u7 :: u8 :: u9 :: u10 :: u11 :: u12 :: (.pointer (some ⟨ga, 0, none⟩)) :: u14 :: (.pointer (some ⟨b, 0, none⟩)) :: u16 :: (.slice AW 16 cw) :: u18 :: u19 :: u20 :: u21 :: u22 :: u23 :: (.int .i64 ((r : Nat) : Int)) :: u25 :: u26 :: u27 :: u28 :: u29 :: u30 :: u31 :: u32 :: u33 :: u34 :: u35 :: u36 :: u37 :: u38 :: u39 :: u40 :: u41 :: u42 :: u43 :: u44 :: u45 :: u46 :: u47 :: u48 :: u49 :: u50 :: u51 :: u52 :: u53 :: u54 :: u55 :: u56 :: u57 :: u58 :: u59 :: u60 :: u61 :: u62 :: u63 :: u64 :: u65 :: u66 :: u67 :: u68 :: u69 :: u70 :: u71 :: u72 :: u73 :: u74 :: u75 :: u76 :: u77 :: u78 :: u79 :: u80 :: u81 :: u82 :: u83 :: u84 :: u85 :: u86 :: u87 :: u88 :: u89 :: u90 :: u91 :: u92 :: u93 :: u94 :: u95 :: u96 :: u97 :: u98 :: u99 :: u100 :: u101 :: u102 :: u103 :: u104 :: u105 :: u106 :: u107 :: u108 :: u109 :: u110 :: u111 :: u112 :: u113 :: u114 :: u115 :: u116 :: u117 :: u118 :: u119 :: u120 :: u121 :: u122 :: u123 :: u124 :: u125 :: u126 :: u127 :: u128 :: u129 :: u130 :: u131 :: u132 :: u133 :: u134 :: u135 :: u136 :: u137 :: u138 :: u139 :: u140 :: u141 :: u142 :: u143 :: u144 :: u145 :: u146 :: u147 :: u148 :: u149 :: u150 :: u151 :: u152 :: u153 :: u154 :: u155 :: u156 :: u157 :: u158 :: u159 :: u160 :: u161 :: u162 :: u163 :: []), []⟩ → C) → C) (16 - 0) ?_ ?_
  · intro C hC
    exact hC _ _ _ _ _ _ _ _ _ _ _ _ _ _ _ _ _ _ _ _ _ _ _ _ _ _ _ _ _ _ _ _ _ _ _ _ _ _ (0) rfl hI rfl
  · intro gk a V hI'
    refine hI' _ ?_
    intro u12 u25 u26 u27 u129 u130 u131 u132 u133 u134 u135 u136 u137 u138 u139 u140 u141 u142 u143 u144 u145 u146 u147 u148 u149 u150 u151 u152 u153 u154 u155 u156 u157 u158 u159 u160 u161 u162 r hk hinv ha
    subst ha
    subst hk
    refine rrBb _ _ _ _ _ _ _ _ _ _ _ _ _ _ _ _ _ _ _ _ _ _ _ _ _ _ _ _ _ _ _ _ _ _ _ _ _ _ _ _ _ _ _ _ _ _ _ _ _ _ _ _ _ _ _ _ _ _ _ _ _ _ _ _ _ _ _ _ _ _ _ _ _ _ _ _ _ _ _ _ _ _ _ _ _ _ _ _ _ _ _ _ _ _ _ _ _ _ _ _ _ _ _ _ _ _ _ _ _ _ _ _ _ _ _ _ _ _ _ _ _ _ _ _ _ _ _ _ _ _ _ _ _ _ _ _ _ _ _ _ _ _ _ _ _ _ _ _ _ _ _ _ _ _ _ _ _ _ _ _ hmem hkn hn8 hD8 hs hdn hf hwl h32 hv hz hinv (fun v12 v25 v26 v27 v129 v130 v131 v132 v133 v134 v135 v136 v137 v138 v139 v140 v141 v142 v143 v144 v145 v146 v147 v148 v149 v150 v151 v152 v153 v154 v155 v156 v157 v158 v159 v160 v161 v162  V2 h2 hm => ?_) (fun v12 v25 v26 v27 v129 v130 v131 v132 v133 v134 v135 v136 v137 v138 v139 v140 v141 v142 v143 v144 v145 v146 v147 v148 v149 v150 v151 v152 v153 v154 v155 v156 v157 v158 v159 v160 v161 v162 hx => hX v12 v25 v26 v27 v129 v130 v131 v132 v133 v134 v135 v136 v137 v138 v139 v140 v141 v142 v143 v144 v145 v146 v147 v148 v149 v150 v151 v152 v153 v154 v155 v156 v157 v158 v159 v160 v161 v162 r V hinv hx)
    refine ⟨_, hm, fun C hC => ?_⟩
    exact hC v12 v25 v26 v27 v129 v130 v131 v132 v133 v134 v135 v136 v137 v138 v139 v140 v141 v142 v143 v144 v145 v146 v147 v148 v149 v150 v151 v152 v153 v154 v155 v156 v157 v158 v159 v160 v161 v162 ((r + 1)) rfl h2 rfl
end Go.Proofs.Ytadmofpipfdedaa
end
section
set_option linter.unusedVariables false
set_option linter.unusedSimpArgs false
namespace Go.Proofs.Ytadmofpipfdedaa
open Go.RowKit

theorem bool_cell {w : World} {p : Nat} {lv : List Bool} {t : TypeId} {f : Nat × Nat} (h : w.heap[p]? = some (.cells (lv.map Value.bool).toArray t f)) {o : Nat} {v : Value} (hc : w.cell? ⟨p, o, none⟩ = some v) : ∃ x : Bool, v = .bool x := by
  rw [cell_of_row w p o _ t f h, List.getElem?_toArray, List.getElem?_map] at hc
  cases hx : lv[o]? with
  | none => rw [hx] at hc; cases hc
  | some x => rw [hx] at hc; injection hc with hc; exact ⟨x, hc.symm⟩
theorem KS.putB {W w w' : World} {b : Nat} {H : BH} {N : Bch} {p : Nat} {lv : List Bool} {t : TypeId} {f : Nat × Nat} {o' : Obj} {K : List (Nat × Obj)} {R : List (Option Addr × List (List UInt8))} {S : List (Option Addr × List UInt8)} (h : KS W w b H N ((p, .cells (lv.map Value.bool).toArray t f) :: K) R S) (hg : w.grownBy w' (some p)) (hb : w'.heap[p]? = some o') (hne : ∀ r ∈ K, r.1 ≠ p) : KS W w' b H N ((p, o') :: K) R S := by
  have hp := (h.kx.kp _ (List.mem_cons_self ..)).1
  dsimp only at hp
  have hcell : ∀ q : Addr, q.block ≠ p → q.block < w.heap.size → w'.cell? q = w.cell? q := fun q h1 h2 => World.cell?_of_block (hg.block q.block h2 fun e => h1 (by injection e))
  have hB : ∀ {A : Option Addr} {bs : List UInt8}, RdBX (BF b H N.n) w A bs → RdBX (BF b H N.n) w' A bs := fun {A bs} h0 => ⟨h0.1, fun hn => by
    obtain ⟨b', off, e, hl, hF, hc⟩ := h0.2 hn
    have hbp : b' ≠ p := fun e2 => by
      subst e2
      obtain ⟨x, hx⟩ := bool_cell hp (hc 0 hn)
      cases hx
    exact ⟨b', off, e, Nat.lt_of_lt_of_le hl hg.size, hF, fun k hk => (hcell ⟨b', off + k, none⟩ hbp hl).trans (hc k hk)⟩⟩
  refine ⟨h.kx.put (K1 := []) rfl hg hb (by simpa using hne), fun q hq => ?_, fun q hq => hB (h.sx q hq)⟩
  have h0 := h.rx q hq
  refine ⟨h0.1, fun hn => ?_⟩
  obtain ⟨b', off, e, hl, hF, hc⟩ := h0.2 hn
  have hbp : b' ≠ p := fun e2 => by
    subst e2
    obtain ⟨A', c, h1, _⟩ := hc 0 hn
    obtain ⟨x, hx⟩ := bool_cell hp h1
    cases hx
  refine ⟨b', off, e, Nat.lt_of_lt_of_le hl hg.size, hF, fun k hk => ?_⟩
  obtain ⟨A', c, h1, h2⟩ := hc k hk
  exact ⟨A', c, (hcell ⟨b', off + k, none⟩ hbp hl).trans h1, hB h2⟩
/-- Blocks of yes and no, and geometries, are unlike. -/
theorem live_ne {w : World} {g p : Nat} {lv : List Bool} {x y z : Int} (h : w.heap[g]? = some (.cells (lv.map Value.bool).toArray 4 (0, 0))) (h2 : w.heap[p]? = some (.cells #[.int .i64 x, .int .i64 y, .int .i64 z] 25 (0, 0))) : g ≠ p := fun e => by
  subst e
  rw [h2] at h
  injection h with e2
  injection e2 with _ e3 _
  exact absurd e3 (by decide)
theorem pend_zero {N : Bch} (h : ∀ i, i < N.n → (N.D i).ps = []) : N.pend = 0 := offs_zero h
end Go.Proofs.Ytadmofpipfdedaa
end
