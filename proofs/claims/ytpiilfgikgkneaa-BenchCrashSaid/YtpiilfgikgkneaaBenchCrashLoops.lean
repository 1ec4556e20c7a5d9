/- BenchCrash: its loops. -/
import Derived.Test.YtpiilfgikgkneaaBenchCrashMath
import Derived.Test.YtpiilfgikgkneaaSub
set_option linter.unusedVariables false
set_option linter.unusedSimpArgs false
namespace Go.Proofs.Ytpiilfgikgkneaa
open Go.RowKit

noncomputable def codeBC : Code := Try.f3.body.getD .skip
set_option maxRecDepth 100000 in
set_option maxHeartbeats 3200000 in
theorem bcAb {W : World} {b pb nl cp : Nat} {A : Option Addr} {l : List Int} {i : Nat} {c : (Nat → Nat)} {v : (Nat → Value)} {H : BH} {w : World} (u1 u2 u3 u4 u6 u9 u10 u11 u12 u13 u14 u15 u16 u17 u18 u19 u20 u21 u22 u23 u24 u25 u26 u27 u28 u29 u30 u31 u32 u33 u34 u35 u36 u37 u38 u39 u40 u41 u42 u43 u44 u45 u46 u47 u48 u49 u50 u51 u52 u53 u54 u55 u56 u57 u58 u59 u60 u61 u62 u63 u64 u65 u66 u67 u68 u69 u70 u71 u72 u73 u74 u75 u76 u77 u78 u79 u80 u81 u82 u83 u84 u85 u86 u87 u88 u89 u90 u91 u92 u93 u94 u95 u96 u97 u98 u99 u100 u101 u102 u103 u104 u105 u106 u107 u108 u109 u110 u111 u112 u113 u114 u115 u116 u117 u118 u119 u120 u121 u122 u123 u124 u125 u126 u127 u128 u129 : Value) (K : Act → World → Prop) (Q0 : Exit → Act → World → Prop) (hnl : nl = l.length) (hll : nl ≤ 9223372036854775807) (hrl : RdZ W W.heap.size A l) (hI : (i ≤ 20 ∧ c 0 + c 1 + c 2 = i ∧ PD W w b H (NB c i) pb c v))
    (hK : ∀ (v4 v9 v10 v28 v29 v30 v31 v32 v33 v34 v35 v36 v37 v38 v39 v40 v41 v42 v43 v44 v45 v46 v47 v48 v49 v50 v51 v52 v53 v54 v55 v56 v57 v58 v59 v60 v61 v62 v63 v64 v65 : Value) (c2 : (Nat → Nat)) (v2 : (Nat → Value)) (H2 : BH) (V : World), ((i + 1) ≤ 20 ∧ c2 0 + c2 1 + c2 2 = (i + 1) ∧ PD W V b H2 (NB c2 (i + 1)) pb c2 v2) → 20 - (i + 1) < 20 - i → K ⟨List.toArray ((.slice A nl cp) :: u1 :: u2 :: u3 :: v4 :: (.pointer (some ⟨b, 0, none⟩)) :: u6 :: (.pointer (some ⟨pb, 0, none⟩)) :: (.int .i64 (((i + 1) : Nat) : Int)) :: v9 :: v10 :: u11 :: u12 :: u13 :: u14 :: u15 :: u16 :: u17 :: u18 :: u19 :: u20 :: u21 :: u22 :: u23 :: u24 :: u25 :: u26 :: u27 :: v28 :: v29 :: v30 :: v31 :: v32 :: v33 :: v34 :: v35 :: v36 :: v37 :: v38 :: v39 :: v40 :: v41 :: v42 :: v43 :: v44 :: v45 :: v46 :: v47 :: v48 :: v49 :: v50 :: v51 :: v52 :: v53 :: v54 :: v55 :: v56 :: v57 :: v58 :: v59 :: v60 :: v61 :: v62 :: v63 :: v64 :: v65 :: u66 :: u67 :: u68 :: u69 :: u70 :: u71 :: u72 :: u73 :: u74 :: u75 :: u76 :: u77 :: u78 :: u79 :: u80 :: u81 :: u82 :: u83 :: u84 :: u85 :: u86 :: u87 :: u88 :: u89 :: u90 :: u91 :: u92 :: u93 :: u94 :: u95 :: u96 :: u97 :: u98 :: u99 :: u100 :: u101 :: u102 :: u103 :: u104 :: u105 :: u106 :: u107 :: u108 :: u109 :: u110 :: u111 :: u112 :: u113 :: u114 :: u115 :: u116 :: u117 :: u118 :: u119 :: u120 :: u121 :: u122 :: u123 :: u124 :: u125 :: u126 :: u127 :: u128 :: u129 :: []), []⟩ V)
    (hX : ∀ (v4 v9 v10 v28 v29 v30 v31 v32 v33 v34 v35 v36 v37 v38 v39 v40 v41 v42 v43 v44 v45 v46 v47 v48 v49 v50 v51 v52 v53 v54 v55 v56 v57 v58 v59 v60 v61 v62 v63 v64 v65 : Value), (True) → Q0 (.exit 0) ⟨List.toArray ((.slice A nl cp) :: u1 :: u2 :: u3 :: v4 :: (.pointer (some ⟨b, 0, none⟩)) :: u6 :: (.pointer (some ⟨pb, 0, none⟩)) :: (.int .i64 ((i : Nat) : Int)) :: v9 :: v10 :: u11 :: u12 :: u13 :: u14 :: u15 :: u16 :: u17 :: u18 :: u19 :: u20 :: u21 :: u22 :: u23 :: u24 :: u25 :: u26 :: u27 :: v28 :: v29 :: v30 :: v31 :: v32 :: v33 :: v34 :: v35 :: v36 :: v37 :: v38 :: v39 :: v40 :: v41 :: v42 :: v43 :: v44 :: v45 :: v46 :: v47 :: v48 :: v49 :: v50 :: v51 :: v52 :: v53 :: v54 :: v55 :: v56 :: v57 :: v58 :: v59 :: v60 :: v61 :: v62 :: v63 :: v64 :: v65 :: u66 :: u67 :: u68 :: u69 :: u70 :: u71 :: u72 :: u73 :: u74 :: u75 :: u76 :: u77 :: u78 :: u79 :: u80 :: u81 :: u82 :: u83 :: u84 :: u85 :: u86 :: u87 :: u88 :: u89 :: u90 :: u91 :: u92 :: u93 :: u94 :: u95 :: u96 :: u97 :: u98 :: u99 :: u100 :: u101 :: u102 :: u103 :: u104 :: u105 :: u106 :: u107 :: u108 :: u109 :: u110 :: u111 :: u112 :: u113 :: u114 :: u115 :: u116 :: u117 :: u118 :: u119 :: u120 :: u121 :: u122 :: u123 :: u124 :: u125 :: u126 :: u127 :: u128 :: u129 :: []), []⟩ w) :
    Code.wp Try.prog (sub [1, 1, 1, 1, 0, 1, 0, 0] codeBC) (Exit.then K Q0) ⟨List.toArray ((.slice A nl cp) :: u1 :: u2 :: u3 :: u4 :: (.pointer (some ⟨b, 0, none⟩)) :: u6 :: (.pointer (some ⟨pb, 0, none⟩)) :: (.int .i64 ((i : Nat) : Int)) :: u9 :: u10 :: u11 :: u12 :: u13 :: u14 :: u15 :: u16 :: u17 :: u18 :: u19 :: u20 :: u21 :: u22 :: u23 :: u24 :: u25 :: u26 :: u27 :: u28 :: u29 :: u30 :: u31 :: u32 :: u33 :: u34 :: u35 :: u36 :: u37 :: u38 :: u39 :: u40 :: u41 :: u42 :: u43 :: u44 :: u45 :: u46 :: u47 :: u48 :: u49 :: u50 :: u51 :: u52 :: u53 :: u54 :: u55 :: u56 :: u57 :: u58 :: u59 :: u60 :: u61 :: u62 :: u63 :: u64 :: u65 :: u66 :: u67 :: u68 :: u69 :: u70 :: u71 :: u72 :: u73 :: u74 :: u75 :: u76 :: u77 :: u78 :: u79 :: u80 :: u81 :: u82 :: u83 :: u84 :: u85 :: u86 :: u87 :: u88 :: u89 :: u90 :: u91 :: u92 :: u93 :: u94 :: u95 :: u96 :: u97 :: u98 :: u99 :: u100 :: u101 :: u102 :: u103 :: u104 :: u105 :: u106 :: u107 :: u108 :: u109 :: u110 :: u111 :: u112 :: u113 :: u114 :: u115 :: u116 :: u117 :: u118 :: u119 :: u120 :: u121 :: u122 :: u123 :: u124 :: u125 :: u126 :: u127 :: u128 :: u129 :: []), []⟩ w := by
  have HK := Lib.hid hK
  have HX := Lib.hid hX
  clear hK hX
  conv => arg 2; whnf
  obtain ⟨hi, hs, hp⟩ := hI
  have Hp := Lib.hid hp
  by_cases hil : i < nl
  · have i2 : (i : Int) < (nl : Int) := by omega
    by_cases hlt : i < 20
    · have i1 : (i : Int) < 20 := by omega
      obtain ⟨lb, off, rfl, hlb, hcl⟩ := hrl.2.2 (by omega)
      have hc := (hp.p.bel.cell (p := ⟨lb, off + i, none⟩) hlb).trans (hcl i (by omega))
      have hbd := hrl.bd i
      have hw : IntKind.i64.wrap ((i : Int) + 1) = ((i + 1 : Nat) : Int) := by rw [IntKind.wrap_i64]; omega
      have i3 : (0 : Int) ≤ (i : Int) := by omega
      generalize l.getD i 0 = z at hc hbd
      have CW := Lib.hid (fun V => within_any z 3 V hbd (by omega))
      have b1 := withinI_bd z 3 (by omega)
      generalize withinI z 3 = d1 at CW b1
      obtain ⟨d, rfl⟩ : ∃ d : Nat, d1 = (d : Int) := ⟨d1.toNat, by omega⟩
      have hd3 : d < 3 := by omega
      have d1 : (d : Int) < 3 := by omega
      have d0 : (0 : Int) ≤ (d : Int) := by omega
      have hcs : ∀ j, j < 3 → c j ≤ 20 := fun j hj => by
        match j, hj with
        | 0, _ => omega
        | 1, _ => omega
        | 2, _ => omega
      have hcd := hcs d hd3
      have HS := NB_step c i hd3 (by omega)
      have HSum := Lib.hid (show (upd c d (c d + 1)) 0 + (upd c d (c d + 1)) 1 + (upd c d (c d + 1)) 2 = i + 1 by
        match d, hd3 with
        | 0, _ => show c 0 + 1 + c 1 + c 2 = i + 1; omega
        | 1, _ => show c 0 + (c 1 + 1) + c 2 = i + 1; omega
        | 2, _ => show c 0 + c 1 + (c 2 + 1) = i + 1; omega)
      have Hcs := Lib.hid hcs
      have hcell := hp.cell hd3
      obtain ⟨Ad, cd, hvd, hcapd, _⟩ := own_form (hp.own d hd3)
      have Hvd := Lib.hid hvd
      rw [hvd] at hcell
      have hsec : sectorB (10 * (d : Int) + ((c d : Nat) : Int) + 1) = secW d (c d) := rfl
      have HSec := Lib.hid hsec
      have HS := Lib.hid HS
      obtain ⟨n, hn⟩ : ∃ n, c d = n := ⟨_, rfl⟩
      have Hn := Lib.hid hn
      rw [hn] at hcell hcd hcapd HSec HS
      clear hp hcl hrl hnl hs hcs hvd hsec HX hn b1 hbd
      go_wp2_with fail
      refine (CW.out _).mono ?_
      rintro e w0 ⟨rfl, rfl⟩
      go_wp2_with fail
      refine (sector_any _ _ (by omega)).mono ?_
      rintro e w1 ⟨g, rfl, ho, hb⟩
      have hp1 := Hp.out.grow hb
      rw [HSec.out] at ho
      have CWr := bp_write _ _ _ _ _ hp1.p (d : Int) (n : Int) (secW d n) (some ⟨g, 0, none⟩) 32 32 (sectorB_len _).symm ⟨by omega, by omega⟩ ⟨by omega, by omega⟩ ho.rdS.1 (fun j hj => NB_ps c i Hcs.out j hj) (by show i ≤ _; omega)
      rw [HS.out.1, HS.out.2] at CWr
      have CWr := Lib.hid CWr
      have Hp1 := Lib.hid hp1
      clear ho hb hp1 hcell
      go_wp2_with fail
      refine CWr.out.mono ?_
      rintro e w2 ⟨rfl, hbc⟩
      obtain ⟨H2, hp2⟩ := Hp1.out.bench (N' := NB (upd c d (n + 1)) (i + 1)) rfl hbc
      have hcell : w2.cell? ⟨pb, d, none⟩ = some (.slice Ad n cd) := by rw [← Hn.out, ← Hvd.out]; exact hp2.cell hd3
      have hown := hp2.own d hd3
      rw [Hvd.out, Hn.out] at hown
      have Hp2 := Lib.hid hp2
      have hle := hp2.p.bel.size
      clear hp2 hbc
      go_wp2_with (first
        | (at_builtin; refine wpList_append_V rfl _ _ _ rfl W.heap.size 3 (.int .i64 0) 8 Try.underlying22 info_int rfl (.slice Ad n cd) n (nums n) rfl (World.ownsRow.kept hown (grown_none (below1 w2 _)) (Classical.em _)) (w2.heap.size + 1) (some ⟨w2.heap.size, 0, none⟩) 1 1 [.int .i64 (n : Int)] rfl rfl (fun _ => ⟨w2.heap.size, 0, rfl, by omega, fun j hj => by obtain rfl : j = 0 := (by simp at hj; omega); exact cell_of_row _ _ _ _ _ _ (hp_new _ _ _ rfl)⟩) (fun u hu => by simp at hu; subst hu; rfl) (by unfold maxLen; omega) (by omega) (by simp; omega) ?_
           intro v3 w3 hown3 hg3 hat3
           obtain ⟨A3, c3, rfl, _, _⟩ := own_form hown3
           have Hown3 := Lib.hid hown3
           have Hg3 := Lib.hid hg3
           have Hat3 := Lib.hid hat3
           have Hpb := Lib.hid (((chg_grown hg3).block pb (by have := Hp2.out.plt; simp; omega) (fun e => by have := Hp2.out.offv d pb hd3 (by rw [Hvd.out, Hn.out]; exact e); exact this.2 rfl)).trans (((below1 w2 _).block pb Hp2.out.plt).trans Hp2.out.blk))
           clear hown3 hg3 hat3 hown hcell)
        | (refine wpList_store_blk rfl 22 _ _ (by rfl) pb d (.slice A3 (n + 1) c3) (by rfl) (by rfl) (trio v) 28 Hpb.out [.slice A3 (n + 1) c3] (by rfl) 1 rfl size_intss (by show d + 1 ≤ 3; omega) (by intro u hu; simp at hu; subst hu; rfl) _ rfl ?_
           intro w4 hb4 hg4))
      have Hp4 := Lib.hid (show PD W w4 b H2 (NB (upd c d (n + 1)) (i + 1)) pb (upd c d (n + 1)) (upd v d (.slice A3 (n + 1) c3)) by
        rw [← Hn.out]
        rw [← Hn.out] at Hp2 hb4
        exact Hp2.out.push hd3 (below1 w2 _) (by rw [Hn.out]; exact Hown3.out) (by rw [Hvd.out, Hn.out]; exact Hg3.out) (by rw [Hvd.out, Hn.out]; exact Hat3.out) hb4 hg4)
      have HSum2 := Lib.hid (by have := HSum.out; rw [Hn.out] at this; exact this)
      clear hb4 hg4 Hown3 Hg3 Hat3 Hpb
      exact HK.out _ _ _ _ _ _ _ _ _ _ _ _ _ _ _ _ _ _ _ _ _ _ _ _ _ _ _ _ _ _ _ _ _ _ _ _ _ _ _ _ _ _ _ _ _ ⟨by omega, HSum2.out, Hp4.out⟩ (by omega)
    · have i1 : ¬ (i : Int) < 20 := by omega
      clear HK hp hrl hnl
      go_wp2_with fail
      exact HX.out _ _ _ _ _ _ _ _ _ _ _ _ _ _ _ _ _ _ _ _ _ _ _ _ _ _ _ _ _ _ _ _ _ _ _ _ _ _ _ _ _ (by trivial)
  · have i2 : ¬ (i : Int) < (nl : Int) := by omega
    clear HK hp hrl hnl
    go_wp2_with fail
    exact HX.out _ _ _ _ _ _ _ _ _ _ _ _ _ _ _ _ _ _ _ _ _ _ _ _ _ _ _ _ _ _ _ _ _ _ _ _ _ _ _ _ _ (by trivial)
set_option maxRecDepth 100000 in
set_option maxHeartbeats 3200000 in
theorem bcA {W : World} {b pb nl cp : Nat} {A : Option Addr} {l : List Int} {H0 : BH} {w : World} (u1 u2 u3 u4 u6 u9 u10 u11 u12 u13 u14 u15 u16 u17 u18 u19 u20 u21 u22 u23 u24 u25 u26 u27 u28 u29 u30 u31 u32 u33 u34 u35 u36 u37 u38 u39 u40 u41 u42 u43 u44 u45 u46 u47 u48 u49 u50 u51 u52 u53 u54 u55 u56 u57 u58 u59 u60 u61 u62 u63 u64 u65 u66 u67 u68 u69 u70 u71 u72 u73 u74 u75 u76 u77 u78 u79 u80 u81 u82 u83 u84 u85 u86 u87 u88 u89 u90 u91 u92 u93 u94 u95 u96 u97 u98 u99 u100 u101 u102 u103 u104 u105 u106 u107 u108 u109 u110 u111 u112 u113 u114 u115 u116 u117 u118 u119 u120 u121 u122 u123 u124 u125 u126 u127 u128 u129 : Value) (Q : Exit → Act → World → Prop) (hnl : nl = l.length) (hll : nl ≤ 9223372036854775807) (hrl : RdZ W W.heap.size A l) (hI : (0 ≤ 20 ∧ (fun _ => 0) 0 + (fun _ => 0) 1 + (fun _ => 0) 2 = 0 ∧ PD W w b H0 (NB (fun _ => 0) 0) pb (fun _ => 0) (fun _ => .slice none 0 0)))
    (hX : ∀ (v4 v9 v10 v28 v29 v30 v31 v32 v33 v34 v35 v36 v37 v38 v39 v40 v41 v42 v43 v44 v45 v46 v47 v48 v49 v50 v51 v52 v53 v54 v55 v56 v57 v58 v59 v60 v61 v62 v63 v64 v65 : Value) (i : Nat) (c : (Nat → Nat)) (v : (Nat → Value)) (H : BH) (V : World), (i ≤ 20 ∧ c 0 + c 1 + c 2 = i ∧ PD W V b H (NB c i) pb c v) → (True) → Q (.exit 0) ⟨List.toArray ((.slice A nl cp) :: u1 :: u2 :: u3 :: v4 :: (.pointer (some ⟨b, 0, none⟩)) :: u6 :: (.pointer (some ⟨pb, 0, none⟩)) :: (.int .i64 ((i : Nat) : Int)) :: v9 :: v10 :: u11 :: u12 :: u13 :: u14 :: u15 :: u16 :: u17 :: u18 :: u19 :: u20 :: u21 :: u22 :: u23 :: u24 :: u25 :: u26 :: u27 :: v28 :: v29 :: v30 :: v31 :: v32 :: v33 :: v34 :: v35 :: v36 :: v37 :: v38 :: v39 :: v40 :: v41 :: v42 :: v43 :: v44 :: v45 :: v46 :: v47 :: v48 :: v49 :: v50 :: v51 :: v52 :: v53 :: v54 :: v55 :: v56 :: v57 :: v58 :: v59 :: v60 :: v61 :: v62 :: v63 :: v64 :: v65 :: u66 :: u67 :: u68 :: u69 :: u70 :: u71 :: u72 :: u73 :: u74 :: u75 :: u76 :: u77 :: u78 :: u79 :: u80 :: u81 :: u82 :: u83 :: u84 :: u85 :: u86 :: u87 :: u88 :: u89 :: u90 :: u91 :: u92 :: u93 :: u94 :: u95 :: u96 :: u97 :: u98 :: u99 :: u100 :: u101 :: u102 :: u103 :: u104 :: u105 :: u106 :: u107 :: u108 :: u109 :: u110 :: u111 :: u112 :: u113 :: u114 :: u115 :: u116 :: u117 :: u118 :: u119 :: u120 :: u121 :: u122 :: u123 :: u124 :: u125 :: u126 :: u127 :: u128 :: u129 :: []), []⟩ V) :
    Code.wp Try.prog (.loop (sub [1, 1, 1, 1, 0, 1, 0, 0] codeBC)) Q ⟨List.toArray ((.slice A nl cp) :: u1 :: u2 :: u3 :: u4 :: (.pointer (some ⟨b, 0, none⟩)) :: u6 :: (.pointer (some ⟨pb, 0, none⟩)) :: (.int .i64 ((0 : Nat) : Int)) :: u9 :: u10 :: u11 :: u12 :: u13 :: u14 :: u15 :: u16 :: u17 :: u18 :: u19 :: u20 :: u21 :: u22 :: u23 :: u24 :: u25 :: u26 :: u27 :: u28 :: u29 :: u30 :: u31 :: u32 :: u33 :: u34 :: u35 :: u36 :: u37 :: u38 :: u39 :: u40 :: u41 :: u42 :: u43 :: u44 :: u45 :: u46 :: u47 :: u48 :: u49 :: u50 :: u51 :: u52 :: u53 :: u54 :: u55 :: u56 :: u57 :: u58 :: u59 :: u60 :: u61 :: u62 :: u63 :: u64 :: u65 :: u66 :: u67 :: u68 :: u69 :: u70 :: u71 :: u72 :: u73 :: u74 :: u75 :: u76 :: u77 :: u78 :: u79 :: u80 :: u81 :: u82 :: u83 :: u84 :: u85 :: u86 :: u87 :: u88 :: u89 :: u90 :: u91 :: u92 :: u93 :: u94 :: u95 :: u96 :: u97 :: u98 :: u99 :: u100 :: u101 :: u102 :: u103 :: u104 :: u105 :: u106 :: u107 :: u108 :: u109 :: u110 :: u111 :: u112 :: u113 :: u114 :: u115 :: u116 :: u117 :: u118 :: u119 :: u120 :: u121 :: u122 :: u123 :: u124 :: u125 :: u126 :: u127 :: u128 :: u129 :: []), []⟩ w := by
  refine wp_loop_ghost (fun gk a V => ∀ C : Prop, (∀ (u4 u9 u10 u28 u29 u30 u31 u32 u33 u34 u35 u36 u37 u38 u39 u40 u41 u42 u43 u44 u45 u46 u47 u48 u49 u50 u51 u52 u53 u54 u55 u56 u57 u58 u59 u60 u61 u62 u63 u64 u65 : Value) (i : Nat) (c : (Nat → Nat)) (v : (Nat → Value)) (H : BH), gk = 20 - i → (i ≤ 20 ∧ c 0 + c 1 + c 2 = i ∧ PD W V b H (NB c i) pb c v) → a = ⟨List.toArray ((.slice A nl cp) :: u1 :: u2 :: u3 :: u4 :: (.pointer (some ⟨b, 0, none⟩)) :: u6 :: (.pointer (some ⟨pb, 0, none⟩)) :: (.int .i64 ((i : Nat) : Int)) :: u9 :: u10 :: u11 :: u12 :: u13 :: u14 :: u15 :: u16 :: u17 :: u18 :: u19 :: u20 :: u21 :: u22 :: u23 :: u24 :: u25 :: u26 :: u27 :: u28 :: u29 :: u30 :: u31 :: u32 :: u33 :: u34 :: u35 :: u36 :: u37 :: u38 :: u39 :: u40 :: u41 :: u42 :: u43 :: u44 :: u45 :: u46 :: u47 :: u48 :: u49 :: u50 :: u51 :: u52 :: u53 :: u54 :: u55 :: u56 :: u57 :: u58 :: u59 :: u60 :: u61 :: u62 :: u63 :: u64 :: u65 :: u66 :: u67 :: u68 :: u69 :: u70 :: u71 :: u72 :: u73 :: u74 :: u75 :: u76 :: u77 :: u78 :: u79 :: u80 :: u81 :: u82 :: u83 :: u84 :: u85 :: u86 :: u87 :: u88 :: u89 :: u90 :: u91 :: u92 :: u93 :: u94 :: u95 :: u96 :: u97 :: u98 :: u99 :: u100 :: u101 :: u102 :: u103 :: u104 :: u105 :: u106 :: u107 :: u108 :: u109 :: u110 :: u111 :: u112 :: u113 :: u114 :: u115 :: u116 :: u117 :: u118 :: u119 :: u120 :: u121 :: u122 :: u123 :: u124 :: u125 :: u126 :: u127 :: u128 :: u129 :: []), []⟩ → C) → C) (20 - 0) ?_ ?_
  · intro C hC
    exact hC _ _ _ _ _ _ _ _ _ _ _ _ _ _ _ _ _ _ _ _ _ _ _ _ _ _ _ _ _ _ _ _ _ _ _ _ _ _ _ _ _ (0) ((fun _ => 0)) ((fun _ => .slice none 0 0)) (H0) rfl hI rfl
  · intro gk a V hI'
    refine hI' _ ?_
    intro u4 u9 u10 u28 u29 u30 u31 u32 u33 u34 u35 u36 u37 u38 u39 u40 u41 u42 u43 u44 u45 u46 u47 u48 u49 u50 u51 u52 u53 u54 u55 u56 u57 u58 u59 u60 u61 u62 u63 u64 u65 i c v H hk hinv ha
    subst ha
    subst hk
    refine bcAb _ _ _ _ _ _ _ _ _ _ _ _ _ _ _ _ _ _ _ _ _ _ _ _ _ _ _ _ _ _ _ _ _ _ _ _ _ _ _ _ _ _ _ _ _ _ _ _ _ _ _ _ _ _ _ _ _ _ _ _ _ _ _ _ _ _ _ _ _ _ _ _ _ _ _ _ _ _ _ _ _ _ _ _ _ _ _ _ _ _ _ _ _ _ _ _ _ _ _ _ _ _ _ _ _ _ _ _ _ _ _ _ _ _ _ _ _ _ _ _ _ _ _ _ _ _ _ _ hnl hll hrl hinv (fun v4 v9 v10 v28 v29 v30 v31 v32 v33 v34 v35 v36 v37 v38 v39 v40 v41 v42 v43 v44 v45 v46 v47 v48 v49 v50 v51 v52 v53 v54 v55 v56 v57 v58 v59 v60 v61 v62 v63 v64 v65 c2 v2 H2 V2 h2 hm => ?_) (fun v4 v9 v10 v28 v29 v30 v31 v32 v33 v34 v35 v36 v37 v38 v39 v40 v41 v42 v43 v44 v45 v46 v47 v48 v49 v50 v51 v52 v53 v54 v55 v56 v57 v58 v59 v60 v61 v62 v63 v64 v65 hx => hX v4 v9 v10 v28 v29 v30 v31 v32 v33 v34 v35 v36 v37 v38 v39 v40 v41 v42 v43 v44 v45 v46 v47 v48 v49 v50 v51 v52 v53 v54 v55 v56 v57 v58 v59 v60 v61 v62 v63 v64 v65 i c v H V hinv hx)
    refine ⟨_, hm, fun C hC => ?_⟩
    exact hC v4 v9 v10 v28 v29 v30 v31 v32 v33 v34 v35 v36 v37 v38 v39 v40 v41 v42 v43 v44 v45 v46 v47 v48 v49 v50 v51 v52 v53 v54 v55 v56 v57 v58 v59 v60 v61 v62 v63 v64 v65 ((i + 1)) (c2) (v2) (H2) rfl h2 rfl
set_option maxRecDepth 100000 in
set_option maxHeartbeats 3200000 in
theorem bcCb {W : World} {b pb m t n nk c2 cv : Nat} {A2 Av : Option Addr} {ks : List Bool} {c : Nat → Nat} {v : Nat → Value} {H : BH} {j : Nat} {k : Nat} {w : World} (u0 u2 u3 u4 u6 u7 u8 u9 u10 u13 u14 u15 u16 u17 u18 u19 u20 u21 u22 u23 u24 u25 u26 u27 u28 u29 u30 u31 u32 u33 u34 u35 u36 u37 u38 u39 u40 u41 u42 u43 u44 u45 u46 u47 u48 u49 u50 u51 u52 u53 u54 u55 u56 u57 u58 u59 u60 u61 u62 u63 u64 u65 u66 u67 u68 u69 u70 u71 u72 u73 u77 u78 u79 u80 u81 u82 u83 u84 u85 u86 u87 u88 u89 u90 u91 u92 u93 u94 u95 u96 u97 u98 u99 u100 u101 u102 u103 u104 u105 u106 u107 u108 u109 u110 u111 u112 u113 u114 u115 u116 u117 u118 u119 u120 u121 u122 u123 u124 u125 u126 u127 u128 u129 : Value) (K : Act → World → Prop) (Q0 : Exit → Act → World → Prop) (hnk : nk = ks.length) (hkl : nk ≤ 9223372036854775807) (hks : RdO W W.heap.size A2 ks) (ht : t < 3) (hn : c t = n) (hn20 : n ≤ 20) (hv : v t = .slice Av n cv) (hsm : sumC c t ≤ 60) (hI : (j ≤ n ∧ k = sumC c t + j ∧ PD W w b H ((NB c m).crash ks) pb c v))
    (hK : ∀ (v4 v14 v15 v16 v17 v77 v78 v79 v80 v81 v82 v83 v84 v85 v86 v87 v88 v89 v90 v91 v92 v93 v94 v95 v96 v97 v98 v99 v100 v101 v102 v103 v104 v105 v106 v107 v108 v109 v110 v111 v112 v113 v114 : Value)  (V : World), ((j + 1) ≤ n ∧ (k + 1) = sumC c t + (j + 1) ∧ PD W V b H ((NB c m).crash ks) pb c v) → n - (j + 1) < n - j → K ⟨List.toArray (u0 :: (.slice A2 nk c2) :: u2 :: u3 :: v4 :: (.pointer (some ⟨b, 0, none⟩)) :: u6 :: u7 :: u8 :: u9 :: u10 :: (.int .i64 (((k + 1) : Nat) : Int)) :: (.int .i64 (t : Int)) :: u13 :: v14 :: v15 :: v16 :: v17 :: u18 :: u19 :: u20 :: u21 :: u22 :: u23 :: u24 :: u25 :: u26 :: u27 :: u28 :: u29 :: u30 :: u31 :: u32 :: u33 :: u34 :: u35 :: u36 :: u37 :: u38 :: u39 :: u40 :: u41 :: u42 :: u43 :: u44 :: u45 :: u46 :: u47 :: u48 :: u49 :: u50 :: u51 :: u52 :: u53 :: u54 :: u55 :: u56 :: u57 :: u58 :: u59 :: u60 :: u61 :: u62 :: u63 :: u64 :: u65 :: u66 :: u67 :: u68 :: u69 :: u70 :: u71 :: u72 :: u73 :: (.slice Av n cv) :: (.int .i64 (n : Int)) :: (.int .i64 (((j + 1) : Nat) : Int)) :: v77 :: v78 :: v79 :: v80 :: v81 :: v82 :: v83 :: v84 :: v85 :: v86 :: v87 :: v88 :: v89 :: v90 :: v91 :: v92 :: v93 :: v94 :: v95 :: v96 :: v97 :: v98 :: v99 :: v100 :: v101 :: v102 :: v103 :: v104 :: v105 :: v106 :: v107 :: v108 :: v109 :: v110 :: v111 :: v112 :: v113 :: v114 :: u115 :: u116 :: u117 :: u118 :: u119 :: u120 :: u121 :: u122 :: u123 :: u124 :: u125 :: u126 :: u127 :: u128 :: u129 :: []), []⟩ V)
    (hX : ∀ (v4 v14 v15 v16 v17 v77 v78 v79 v80 v81 v82 v83 v84 v85 v86 v87 v88 v89 v90 v91 v92 v93 v94 v95 v96 v97 v98 v99 v100 v101 v102 v103 v104 v105 v106 v107 v108 v109 v110 v111 v112 v113 v114 : Value), (j = n) → Q0 (.exit 4) ⟨List.toArray (u0 :: (.slice A2 nk c2) :: u2 :: u3 :: v4 :: (.pointer (some ⟨b, 0, none⟩)) :: u6 :: u7 :: u8 :: u9 :: u10 :: (.int .i64 ((k : Nat) : Int)) :: (.int .i64 (t : Int)) :: u13 :: v14 :: v15 :: v16 :: v17 :: u18 :: u19 :: u20 :: u21 :: u22 :: u23 :: u24 :: u25 :: u26 :: u27 :: u28 :: u29 :: u30 :: u31 :: u32 :: u33 :: u34 :: u35 :: u36 :: u37 :: u38 :: u39 :: u40 :: u41 :: u42 :: u43 :: u44 :: u45 :: u46 :: u47 :: u48 :: u49 :: u50 :: u51 :: u52 :: u53 :: u54 :: u55 :: u56 :: u57 :: u58 :: u59 :: u60 :: u61 :: u62 :: u63 :: u64 :: u65 :: u66 :: u67 :: u68 :: u69 :: u70 :: u71 :: u72 :: u73 :: (.slice Av n cv) :: (.int .i64 (n : Int)) :: (.int .i64 ((j : Nat) : Int)) :: v77 :: v78 :: v79 :: v80 :: v81 :: v82 :: v83 :: v84 :: v85 :: v86 :: v87 :: v88 :: v89 :: v90 :: v91 :: v92 :: v93 :: v94 :: v95 :: v96 :: v97 :: v98 :: v99 :: v100 :: v101 :: v102 :: v103 :: v104 :: v105 :: v106 :: v107 :: v108 :: v109 :: v110 :: v111 :: v112 :: v113 :: v114 :: u115 :: u116 :: u117 :: u118 :: u119 :: u120 :: u121 :: u122 :: u123 :: u124 :: u125 :: u126 :: u127 :: u128 :: u129 :: []), []⟩ w) :
    Code.wp Try.prog (sub [1, 1, 1, 1, 1, 1, 1, 0, 1, 0, 0, 1, 1, 0, 0, 1, 1, 0, 0] codeBC) (Exit.then K Q0) ⟨List.toArray (u0 :: (.slice A2 nk c2) :: u2 :: u3 :: u4 :: (.pointer (some ⟨b, 0, none⟩)) :: u6 :: u7 :: u8 :: u9 :: u10 :: (.int .i64 ((k : Nat) : Int)) :: (.int .i64 (t : Int)) :: u13 :: u14 :: u15 :: u16 :: u17 :: u18 :: u19 :: u20 :: u21 :: u22 :: u23 :: u24 :: u25 :: u26 :: u27 :: u28 :: u29 :: u30 :: u31 :: u32 :: u33 :: u34 :: u35 :: u36 :: u37 :: u38 :: u39 :: u40 :: u41 :: u42 :: u43 :: u44 :: u45 :: u46 :: u47 :: u48 :: u49 :: u50 :: u51 :: u52 :: u53 :: u54 :: u55 :: u56 :: u57 :: u58 :: u59 :: u60 :: u61 :: u62 :: u63 :: u64 :: u65 :: u66 :: u67 :: u68 :: u69 :: u70 :: u71 :: u72 :: u73 :: (.slice Av n cv) :: (.int .i64 (n : Int)) :: (.int .i64 ((j : Nat) : Int)) :: u77 :: u78 :: u79 :: u80 :: u81 :: u82 :: u83 :: u84 :: u85 :: u86 :: u87 :: u88 :: u89 :: u90 :: u91 :: u92 :: u93 :: u94 :: u95 :: u96 :: u97 :: u98 :: u99 :: u100 :: u101 :: u102 :: u103 :: u104 :: u105 :: u106 :: u107 :: u108 :: u109 :: u110 :: u111 :: u112 :: u113 :: u114 :: u115 :: u116 :: u117 :: u118 :: u119 :: u120 :: u121 :: u122 :: u123 :: u124 :: u125 :: u126 :: u127 :: u128 :: u129 :: []), []⟩ w := by
  have HK := Lib.hid hK
  have HX := Lib.hid hX
  clear hK hX
  conv => arg 2; whnf
  obtain ⟨hj, hkk, hp⟩ := hI
  have Hkk := Lib.hid hkk
  by_cases hlt : j < n
  · have i1 : (j : Int) < (n : Int) := by omega
    have i0 : (0 : Int) ≤ (j : Int) := by omega
    have hown := hp.own t ht
    rw [hv, hn] at hown
    obtain ⟨g0, hg0⟩ : ∃ g0, Av = some ⟨g0, 0, none⟩ := by
      obtain ⟨A', c', e, _, h⟩ := own_form hown
      injection e with e1 _ _
      obtain ⟨g0, h0, _⟩ := h (by omega)
      exact ⟨g0, e1.trans h0⟩
    subst hg0
    have hcell : w.cell? ⟨g0, j, none⟩ = some (.int .i64 (j : Int)) := by rw [own_cell_at hown j (by rw [nums_len]; exact hlt)]; exact nums_get hlt
    have hlk : n ≤ cv := hown.2.elim (fun h => by cases h.1) (fun ⟨g, cap, cur, h1, _, _, h4, _⟩ => by injection h1 with _ _ h1; omega)
    have CR : ∀ V, BP W V b H ((NB c m).crash ks) → Calls Try.prog 13 #[.pointer (some ⟨b, 0, none⟩), .int .i64 (t : Int), .int .i64 (j : Int)] V (fun e w' => ∃ v, e = .returned (.tuple #[v, .int .i64 0]) ∧ OwB 5 w' V.heap.size v (if ks.getD k false = true then secW t j else List.replicate 32 0) ∧ Below V.heap.size V w') := fun V hV => by
      have hr := Bch.read_ok (N := (NB c m).crash ks) (d := t) (k := j) ht (by omega) (crash_f c m ks t) rfl
      rw [NB_sec c m ks ht (by omega) (by omega), ← hkk] at hr
      have := bp_read _ _ _ _ _ hV (t : Int) (j : Int) ⟨by omega, by omega⟩ ⟨by omega, by omega⟩
      rw [hr.1, hr.2] at this
      exact this
    have hw : IntKind.i64.wrap ((j : Int) + 1) = ((j + 1 : Nat) : Int) := by rw [IntKind.wrap_i64]; omega
    have hw2 : IntKind.i64.wrap ((k : Int) + 1) = ((k + 1 : Nat) : Int) := by rw [IntKind.wrap_i64]; omega
    have hmk := makeS
    have Hz := Lib.hid (own_make 5 w 32 (by omega)).rdS.1
    have hbel := hp.p.bel
    have Hp1 := Lib.hid (hp.grow (below1 w (.cells (zcells 32) 5)))
    have hkb : k ≤ 80 := by omega
    have k0 : (0 : Int) ≤ (k : Int) := by omega
    clear HX hp hown hv hn
    by_cases hkn : k < nk
    · have i2 : (k : Int) < (nk : Int) := by omega
      obtain ⟨lb, off, rfl, hlb, hcl⟩ := hks.2 (by omega)
      have hck : w.cell? ⟨lb, off + k, none⟩ = some (.bool (ks.getD k false)) := (hbel.cell (p := ⟨lb, off + k, none⟩) hlb).trans (hcl k (by omega))
      have hlbw : lb < w.heap.size := Nat.lt_of_lt_of_le hlb hbel.size
      have hck1 : (w.alloc (.cells (zcells 32) 5)).cell? ⟨lb, off + k, none⟩ = some (.bool (ks.getD k false)) := ((below1 w _).cell (p := ⟨lb, off + k, none⟩) hlbw).trans hck
      cases hb : ks.getD k false
      · rw [hb] at hck hck1 CR
        have CRH := Lib.hid (fun V hV => (show Calls _ _ _ _ (fun e w' => ∃ v, e = .returned (.tuple #[v, .int .i64 0]) ∧ OwB 5 w' V.heap.size v (List.replicate 32 0) ∧ Below V.heap.size V w') from CR V hV))
        clear hks hcl hbel CR hb hnk hkk
        go_wp2_with fail
        have CR := CRH.out
        clear CRH
        refine (CR _ Hp1.out.p).mono ?_
        rintro e w3 ⟨vv, rfl, ho3, hb3⟩
        obtain ⟨A3, c3, rfl, _, hrd3⟩ := ho3.rd
        have CS := Lib.hid (same_eq A3 _ 32 c3 32 w3.heap.size (List.replicate 32 0) w3 (show 32 = (List.replicate 32 (0 : UInt8)).length from rfl) hrd3 ((Hz.out.below hb3 (Nat.le_refl _)).more hb3.size))
        have Hp3 := Lib.hid (Hp1.out.grow hb3)
        rw [← (show 32 = (List.replicate 32 (0 : UInt8)).length from rfl)]
        clear ho3 hb3 hrd3 CR
        go_wp2_with (first | (go_at_call 14; refine CS.out.mono ?_; rintro e w4 ⟨rfl, hb4⟩; have Hp4 := Lib.hid (Hp3.out.grow hb4); clear hb4))
        exact HK.out _ _ _ _ _ _ _ _ _ _ _ _ _ _ _ _ _ _ _ _ _ _ _ _ _ _ _ _ _ _ _ _ _ _ _ _ _ _ _ _ _ _ _ _ ⟨by omega, by have := Hkk.out; omega, Hp4.out⟩ (by omega)
      · rw [hb] at hck hck1 CR
        have CRH := Lib.hid (fun V hV => (show Calls _ _ _ _ (fun e w' => ∃ v, e = .returned (.tuple #[v, .int .i64 0]) ∧ OwB 5 w' V.heap.size v (secW t j) ∧ Below V.heap.size V w') from CR V hV))
        clear hks hcl hbel CR hb hnk hkk
        go_wp2_with fail
        refine (sector_any _ _ (by omega)).mono ?_
        rintro e w1 ⟨g, rfl, ho, hb⟩
        have Hp2 := Lib.hid (Hp1.out.grow hb)
        have Hr := Lib.hid (show RdB w1 w1.heap.size (some ⟨g, 0, none⟩) (secW t j) from ho.rdS.1)
        clear ho hb
        go_wp2_with fail
        have CR := CRH.out
        clear CRH
        refine (CR _ Hp2.out.p).mono ?_
        rintro e w3 ⟨vv, rfl, ho3, hb3⟩
        obtain ⟨A3, c3, rfl, _, hrd3⟩ := ho3.rd
        have CS := Lib.hid (same_eq A3 _ 32 c3 32 w3.heap.size (secW t j) w3 (show 32 = (secW t j).length from (sectorB_len _).symm) hrd3 ((Hr.out.below hb3 (Nat.le_refl _)).more hb3.size))
        have Hp3 := Lib.hid (Hp2.out.grow hb3)
        rw [← (show 32 = (secW t j).length from (sectorB_len _).symm)]
        clear ho3 hb3 hrd3 CR
        go_wp2_with (first | (go_at_call 14; refine CS.out.mono ?_; rintro e w4 ⟨rfl, hb4⟩; have Hp4 := Lib.hid (Hp3.out.grow hb4); clear hb4))
        exact HK.out _ _ _ _ _ _ _ _ _ _ _ _ _ _ _ _ _ _ _ _ _ _ _ _ _ _ _ _ _ _ _ _ _ _ _ _ _ _ _ _ _ _ _ _ ⟨by omega, by have := Hkk.out; omega, Hp4.out⟩ (by omega)
    · have i2 : ¬ (k : Int) < (nk : Int) := by omega
      have hb : ks.getD k false = false := by rw [List.getD_eq_getElem?_getD, List.getElem?_eq_none (by omega)]; rfl
      rw [hb] at CR
      have CRH := Lib.hid (fun V hV => (show Calls _ _ _ _ (fun e w' => ∃ v, e = .returned (.tuple #[v, .int .i64 0]) ∧ OwB 5 w' V.heap.size v (List.replicate 32 0) ∧ Below V.heap.size V w') from CR V hV))
      clear hks hbel CR hb hnk hkk
      go_wp2_with fail
      have CR := CRH.out
      clear CRH
      refine (CR _ Hp1.out.p).mono ?_
      rintro e w3 ⟨vv, rfl, ho3, hb3⟩
      obtain ⟨A3, c3, rfl, _, hrd3⟩ := ho3.rd
      have CS := Lib.hid (same_eq A3 _ 32 c3 32 w3.heap.size (List.replicate 32 0) w3 (show 32 = (List.replicate 32 (0 : UInt8)).length from rfl) hrd3 ((Hz.out.below hb3 (Nat.le_refl _)).more hb3.size))
      have Hp3 := Lib.hid (Hp1.out.grow hb3)
      rw [← (show 32 = (List.replicate 32 (0 : UInt8)).length from rfl)]
      clear ho3 hb3 hrd3 CR
      go_wp2_with (first | (go_at_call 14; refine CS.out.mono ?_; rintro e w4 ⟨rfl, hb4⟩; have Hp4 := Lib.hid (Hp3.out.grow hb4); clear hb4))
      exact HK.out _ _ _ _ _ _ _ _ _ _ _ _ _ _ _ _ _ _ _ _ _ _ _ _ _ _ _ _ _ _ _ _ _ _ _ _ _ _ _ _ _ _ _ _ ⟨by omega, by have := Hkk.out; omega, Hp4.out⟩ (by omega)
  · have Hin := Lib.hid (show j = n by omega)
    have i1 : ¬ (j : Int) < (n : Int) := by omega
    clear HK hp hks hv hn hkk hnk
    go_wp2_with fail
    exact HX.out _ _ _ _ _ _ _ _ _ _ _ _ _ _ _ _ _ _ _ _ _ _ _ _ _ _ _ _ _ _ _ _ _ _ _ _ _ _ _ _ _ _ _ Hin.out
set_option maxRecDepth 100000 in
set_option maxHeartbeats 3200000 in
theorem bcC {W : World} {b pb m t n nk c2 cv : Nat} {A2 Av : Option Addr} {ks : List Bool} {c : Nat → Nat} {v : Nat → Value} {H : BH} {k0 : Nat} {w : World} (u0 u2 u3 u4 u6 u7 u8 u9 u10 u13 u14 u15 u16 u17 u18 u19 u20 u21 u22 u23 u24 u25 u26 u27 u28 u29 u30 u31 u32 u33 u34 u35 u36 u37 u38 u39 u40 u41 u42 u43 u44 u45 u46 u47 u48 u49 u50 u51 u52 u53 u54 u55 u56 u57 u58 u59 u60 u61 u62 u63 u64 u65 u66 u67 u68 u69 u70 u71 u72 u73 u77 u78 u79 u80 u81 u82 u83 u84 u85 u86 u87 u88 u89 u90 u91 u92 u93 u94 u95 u96 u97 u98 u99 u100 u101 u102 u103 u104 u105 u106 u107 u108 u109 u110 u111 u112 u113 u114 u115 u116 u117 u118 u119 u120 u121 u122 u123 u124 u125 u126 u127 u128 u129 : Value) (Q : Exit → Act → World → Prop) (hnk : nk = ks.length) (hkl : nk ≤ 9223372036854775807) (hks : RdO W W.heap.size A2 ks) (ht : t < 3) (hn : c t = n) (hn20 : n ≤ 20) (hv : v t = .slice Av n cv) (hsm : sumC c t ≤ 60) (hI : (0 ≤ n ∧ k0 = sumC c t + 0 ∧ PD W w b H ((NB c m).crash ks) pb c v))
    (hX : ∀ (v4 v14 v15 v16 v17 v77 v78 v79 v80 v81 v82 v83 v84 v85 v86 v87 v88 v89 v90 v91 v92 v93 v94 v95 v96 v97 v98 v99 v100 v101 v102 v103 v104 v105 v106 v107 v108 v109 v110 v111 v112 v113 v114 : Value) (j : Nat) (k : Nat) (V : World), (j ≤ n ∧ k = sumC c t + j ∧ PD W V b H ((NB c m).crash ks) pb c v) → (j = n) → Q (.exit 4) ⟨List.toArray (u0 :: (.slice A2 nk c2) :: u2 :: u3 :: v4 :: (.pointer (some ⟨b, 0, none⟩)) :: u6 :: u7 :: u8 :: u9 :: u10 :: (.int .i64 ((k : Nat) : Int)) :: (.int .i64 (t : Int)) :: u13 :: v14 :: v15 :: v16 :: v17 :: u18 :: u19 :: u20 :: u21 :: u22 :: u23 :: u24 :: u25 :: u26 :: u27 :: u28 :: u29 :: u30 :: u31 :: u32 :: u33 :: u34 :: u35 :: u36 :: u37 :: u38 :: u39 :: u40 :: u41 :: u42 :: u43 :: u44 :: u45 :: u46 :: u47 :: u48 :: u49 :: u50 :: u51 :: u52 :: u53 :: u54 :: u55 :: u56 :: u57 :: u58 :: u59 :: u60 :: u61 :: u62 :: u63 :: u64 :: u65 :: u66 :: u67 :: u68 :: u69 :: u70 :: u71 :: u72 :: u73 :: (.slice Av n cv) :: (.int .i64 (n : Int)) :: (.int .i64 ((j : Nat) : Int)) :: v77 :: v78 :: v79 :: v80 :: v81 :: v82 :: v83 :: v84 :: v85 :: v86 :: v87 :: v88 :: v89 :: v90 :: v91 :: v92 :: v93 :: v94 :: v95 :: v96 :: v97 :: v98 :: v99 :: v100 :: v101 :: v102 :: v103 :: v104 :: v105 :: v106 :: v107 :: v108 :: v109 :: v110 :: v111 :: v112 :: v113 :: v114 :: u115 :: u116 :: u117 :: u118 :: u119 :: u120 :: u121 :: u122 :: u123 :: u124 :: u125 :: u126 :: u127 :: u128 :: u129 :: []), []⟩ V) :
    Code.wp Try.prog (.loop (sub [1, 1, 1, 1, 1, 1, 1, 0, 1, 0, 0, 1, 1, 0, 0, 1, 1, 0, 0] codeBC)) Q ⟨List.toArray (u0 :: (.slice A2 nk c2) :: u2 :: u3 :: u4 :: (.pointer (some ⟨b, 0, none⟩)) :: u6 :: u7 :: u8 :: u9 :: u10 :: (.int .i64 ((k0 : Nat) : Int)) :: (.int .i64 (t : Int)) :: u13 :: u14 :: u15 :: u16 :: u17 :: u18 :: u19 :: u20 :: u21 :: u22 :: u23 :: u24 :: u25 :: u26 :: u27 :: u28 :: u29 :: u30 :: u31 :: u32 :: u33 :: u34 :: u35 :: u36 :: u37 :: u38 :: u39 :: u40 :: u41 :: u42 :: u43 :: u44 :: u45 :: u46 :: u47 :: u48 :: u49 :: u50 :: u51 :: u52 :: u53 :: u54 :: u55 :: u56 :: u57 :: u58 :: u59 :: u60 :: u61 :: u62 :: u63 :: u64 :: u65 :: u66 :: u67 :: u68 :: u69 :: u70 :: u71 :: u72 :: u73 :: (.slice Av n cv) :: (.int .i64 (n : Int)) :: (.int .i64 ((0 : Nat) : Int)) :: u77 :: u78 :: u79 :: u80 :: u81 :: u82 :: u83 :: u84 :: u85 :: u86 :: u87 :: u88 :: u89 :: u90 :: u91 :: u92 :: u93 :: u94 :: u95 :: u96 :: u97 :: u98 :: u99 :: u100 :: u101 :: u102 :: u103 :: u104 :: u105 :: u106 :: u107 :: u108 :: u109 :: u110 :: u111 :: u112 :: u113 :: u114 :: u115 :: u116 :: u117 :: u118 :: u119 :: u120 :: u121 :: u122 :: u123 :: u124 :: u125 :: u126 :: u127 :: u128 :: u129 :: []), []⟩ w := by
  refine wp_loop_ghost (fun gk a V => ∀ C : Prop, (∀ (u4 u14 u15 u16 u17 u77 u78 u79 u80 u81 u82 u83 u84 u85 u86 u87 u88 u89 u90 u91 u92 u93 u94 u95 u96 u97 u98 u99 u100 u101 u102 u103 u104 u105 u106 u107 u108 u109 u110 u111 u112 u113 u114 : Value) (j : Nat) (k : Nat), gk = n - j → (j ≤ n ∧ k = sumC c t + j ∧ PD W V b H ((NB c m).crash ks) pb c v) → a = ⟨List.toArray (u0 :: (.slice A2 nk c2) :: u2 :: u3 :: u4 :: (.pointer (some ⟨b, 0, none⟩)) :: u6 :: u7 :: u8 :: u9 :: u10 :: (.int .i64 ((k : Nat) : Int)) :: (.int .i64 (t : Int)) :: u13 :: u14 :: u15 :: u16 :: u17 :: u18 :: u19 :: u20 :: u21 :: u22 :: u23 :: u24 :: u25 :: u26 :: u27 :: u28 :: u29 :: u30 :: u31 :: u32 :: u33 :: u34 :: u35 :: u36 :: u37 :: u38 :: u39 :: u40 :: u41 :: u42 :: u43 :: u44 :: u45 :: u46 :: u47 :: u48 :: u49 :: u50 :: u51 :: u52 :: u53 :: u54 :: u55 :: u56 :: u57 :: u58 :: u59 :: u60 :: u61 :: u62 :: u63 :: u64 :: u65 :: u66 :: u67 :: u68 :: u69 :: u70 :: u71 :: u72 :: u73 :: (.slice Av n cv) :: (.int .i64 (n : Int)) :: (.int .i64 ((j : Nat) : Int)) :: u77 :: u78 :: u79 :: u80 :: u81 :: u82 :: u83 :: u84 :: u85 :: u86 :: u87 :: u88 :: u89 :: u90 :: u91 :: u92 :: u93 :: u94 :: u95 :: u96 :: u97 :: u98 :: u99 :: u100 :: u101 :: u102 :: u103 :: u104 :: u105 :: u106 :: u107 :: u108 :: u109 :: u110 :: u111 :: u112 :: u113 :: u114 :: u115 :: u116 :: u117 :: u118 :: u119 :: u120 :: u121 :: u122 :: u123 :: u124 :: u125 :: u126 :: u127 :: u128 :: u129 :: []), []⟩ → C) → C) (n - 0) ?_ ?_
  · intro C hC
    exact hC _ _ _ _ _ _ _ _ _ _ _ _ _ _ _ _ _ _ _ _ _ _ _ _ _ _ _ _ _ _ _ _ _ _ _ _ _ _ _ _ _ _ _ (0) (k0) rfl hI rfl
  · intro gk a V hI'
    refine hI' _ ?_
    intro u4 u14 u15 u16 u17 u77 u78 u79 u80 u81 u82 u83 u84 u85 u86 u87 u88 u89 u90 u91 u92 u93 u94 u95 u96 u97 u98 u99 u100 u101 u102 u103 u104 u105 u106 u107 u108 u109 u110 u111 u112 u113 u114 j k hk hinv ha
    subst ha
    subst hk
    refine bcCb _ _ _ _ _ _ _ _ _ _ _ _ _ _ _ _ _ _ _ _ _ _ _ _ _ _ _ _ _ _ _ _ _ _ _ _ _ _ _ _ _ _ _ _ _ _ _ _ _ _ _ _ _ _ _ _ _ _ _ _ _ _ _ _ _ _ _ _ _ _ _ _ _ _ _ _ _ _ _ _ _ _ _ _ _ _ _ _ _ _ _ _ _ _ _ _ _ _ _ _ _ _ _ _ _ _ _ _ _ _ _ _ _ _ _ _ _ _ _ _ _ _ _ _ _ hnk hkl hks ht hn hn20 hv hsm hinv (fun v4 v14 v15 v16 v17 v77 v78 v79 v80 v81 v82 v83 v84 v85 v86 v87 v88 v89 v90 v91 v92 v93 v94 v95 v96 v97 v98 v99 v100 v101 v102 v103 v104 v105 v106 v107 v108 v109 v110 v111 v112 v113 v114  V2 h2 hm => ?_) (fun v4 v14 v15 v16 v17 v77 v78 v79 v80 v81 v82 v83 v84 v85 v86 v87 v88 v89 v90 v91 v92 v93 v94 v95 v96 v97 v98 v99 v100 v101 v102 v103 v104 v105 v106 v107 v108 v109 v110 v111 v112 v113 v114 hx => hX v4 v14 v15 v16 v17 v77 v78 v79 v80 v81 v82 v83 v84 v85 v86 v87 v88 v89 v90 v91 v92 v93 v94 v95 v96 v97 v98 v99 v100 v101 v102 v103 v104 v105 v106 v107 v108 v109 v110 v111 v112 v113 v114 j k V hinv hx)
    refine ⟨_, hm, fun C hC => ?_⟩
    exact hC v4 v14 v15 v16 v17 v77 v78 v79 v80 v81 v82 v83 v84 v85 v86 v87 v88 v89 v90 v91 v92 v93 v94 v95 v96 v97 v98 v99 v100 v101 v102 v103 v104 v105 v106 v107 v108 v109 v110 v111 v112 v113 v114 ((j + 1)) ((k + 1)) rfl h2 rfl
set_option maxRecDepth 100000 in
set_option maxHeartbeats 3200000 in
theorem bcBb {W : World} {b pb m nk c2 : Nat} {A2 : Option Addr} {ks : List Bool} {c : Nat → Nat} {v : Nat → Value} {H : BH} {t : Nat} {k : Nat} {w : World} (u0 u2 u3 u4 u6 u8 u9 u10 u12 u13 u14 u15 u16 u17 u18 u19 u20 u21 u22 u23 u24 u25 u26 u27 u28 u29 u30 u31 u32 u33 u34 u35 u36 u37 u38 u39 u40 u41 u42 u43 u44 u45 u46 u47 u48 u49 u50 u51 u52 u53 u54 u55 u56 u57 u58 u59 u60 u61 u62 u63 u64 u65 u66 u67 u68 u70 u71 u72 u73 u74 u75 u76 u77 u78 u79 u80 u81 u82 u83 u84 u85 u86 u87 u88 u89 u90 u91 u92 u93 u94 u95 u96 u97 u98 u99 u100 u101 u102 u103 u104 u105 u106 u107 u108 u109 u110 u111 u112 u113 u114 u115 u116 u117 u118 u119 u120 u121 u122 u123 u124 u125 u126 u127 u128 u129 : Value) (K : Act → World → Prop) (Q0 : Exit → Act → World → Prop) (hnk : nk = ks.length) (hkl : nk ≤ 9223372036854775807) (hks : RdO W W.heap.size A2 ks) (hcs : ∀ d, d < 3 → c d ≤ 20) (hI : (t ≤ 3 ∧ k = sumC c t ∧ PD W w b H ((NB c m).crash ks) pb c v))
    (hK : ∀ (v4 v12 v14 v15 v16 v17 v70 v71 v72 v73 v74 v75 v76 v77 v78 v79 v80 v81 v82 v83 v84 v85 v86 v87 v88 v89 v90 v91 v92 v93 v94 v95 v96 v97 v98 v99 v100 v101 v102 v103 v104 v105 v106 v107 v108 v109 v110 v111 v112 v113 v114 v115 : Value)  (V : World), ((t + 1) ≤ 3 ∧ (k + c t) = sumC c (t + 1) ∧ PD W V b H ((NB c m).crash ks) pb c v) → 3 - (t + 1) < 3 - t → K ⟨List.toArray (u0 :: (.slice A2 nk c2) :: u2 :: u3 :: v4 :: (.pointer (some ⟨b, 0, none⟩)) :: u6 :: (.pointer (some ⟨pb, 0, none⟩)) :: u8 :: u9 :: u10 :: (.int .i64 (((k + c t) : Nat) : Int)) :: v12 :: u13 :: v14 :: v15 :: v16 :: v17 :: u18 :: u19 :: u20 :: u21 :: u22 :: u23 :: u24 :: u25 :: u26 :: u27 :: u28 :: u29 :: u30 :: u31 :: u32 :: u33 :: u34 :: u35 :: u36 :: u37 :: u38 :: u39 :: u40 :: u41 :: u42 :: u43 :: u44 :: u45 :: u46 :: u47 :: u48 :: u49 :: u50 :: u51 :: u52 :: u53 :: u54 :: u55 :: u56 :: u57 :: u58 :: u59 :: u60 :: u61 :: u62 :: u63 :: u64 :: u65 :: u66 :: u67 :: u68 :: (.int .i64 (((t + 1) : Nat) : Int)) :: v70 :: v71 :: v72 :: v73 :: v74 :: v75 :: v76 :: v77 :: v78 :: v79 :: v80 :: v81 :: v82 :: v83 :: v84 :: v85 :: v86 :: v87 :: v88 :: v89 :: v90 :: v91 :: v92 :: v93 :: v94 :: v95 :: v96 :: v97 :: v98 :: v99 :: v100 :: v101 :: v102 :: v103 :: v104 :: v105 :: v106 :: v107 :: v108 :: v109 :: v110 :: v111 :: v112 :: v113 :: v114 :: v115 :: u116 :: u117 :: u118 :: u119 :: u120 :: u121 :: u122 :: u123 :: u124 :: u125 :: u126 :: u127 :: u128 :: u129 :: []), []⟩ V)
    (hX : ∀ (v4 v12 v14 v15 v16 v17 v70 v71 v72 v73 v74 v75 v76 v77 v78 v79 v80 v81 v82 v83 v84 v85 v86 v87 v88 v89 v90 v91 v92 v93 v94 v95 v96 v97 v98 v99 v100 v101 v102 v103 v104 v105 v106 v107 v108 v109 v110 v111 v112 v113 v114 v115 : Value), (t = 3) → Q0 (.exit 2) ⟨List.toArray (u0 :: (.slice A2 nk c2) :: u2 :: u3 :: v4 :: (.pointer (some ⟨b, 0, none⟩)) :: u6 :: (.pointer (some ⟨pb, 0, none⟩)) :: u8 :: u9 :: u10 :: (.int .i64 ((k : Nat) : Int)) :: v12 :: u13 :: v14 :: v15 :: v16 :: v17 :: u18 :: u19 :: u20 :: u21 :: u22 :: u23 :: u24 :: u25 :: u26 :: u27 :: u28 :: u29 :: u30 :: u31 :: u32 :: u33 :: u34 :: u35 :: u36 :: u37 :: u38 :: u39 :: u40 :: u41 :: u42 :: u43 :: u44 :: u45 :: u46 :: u47 :: u48 :: u49 :: u50 :: u51 :: u52 :: u53 :: u54 :: u55 :: u56 :: u57 :: u58 :: u59 :: u60 :: u61 :: u62 :: u63 :: u64 :: u65 :: u66 :: u67 :: u68 :: (.int .i64 ((t : Nat) : Int)) :: v70 :: v71 :: v72 :: v73 :: v74 :: v75 :: v76 :: v77 :: v78 :: v79 :: v80 :: v81 :: v82 :: v83 :: v84 :: v85 :: v86 :: v87 :: v88 :: v89 :: v90 :: v91 :: v92 :: v93 :: v94 :: v95 :: v96 :: v97 :: v98 :: v99 :: v100 :: v101 :: v102 :: v103 :: v104 :: v105 :: v106 :: v107 :: v108 :: v109 :: v110 :: v111 :: v112 :: v113 :: v114 :: v115 :: u116 :: u117 :: u118 :: u119 :: u120 :: u121 :: u122 :: u123 :: u124 :: u125 :: u126 :: u127 :: u128 :: u129 :: []), []⟩ w) :
    Code.wp Try.prog (sub [1, 1, 1, 1, 1, 1, 1, 0, 1, 0, 0] codeBC) (Exit.then K Q0) ⟨List.toArray (u0 :: (.slice A2 nk c2) :: u2 :: u3 :: u4 :: (.pointer (some ⟨b, 0, none⟩)) :: u6 :: (.pointer (some ⟨pb, 0, none⟩)) :: u8 :: u9 :: u10 :: (.int .i64 ((k : Nat) : Int)) :: u12 :: u13 :: u14 :: u15 :: u16 :: u17 :: u18 :: u19 :: u20 :: u21 :: u22 :: u23 :: u24 :: u25 :: u26 :: u27 :: u28 :: u29 :: u30 :: u31 :: u32 :: u33 :: u34 :: u35 :: u36 :: u37 :: u38 :: u39 :: u40 :: u41 :: u42 :: u43 :: u44 :: u45 :: u46 :: u47 :: u48 :: u49 :: u50 :: u51 :: u52 :: u53 :: u54 :: u55 :: u56 :: u57 :: u58 :: u59 :: u60 :: u61 :: u62 :: u63 :: u64 :: u65 :: u66 :: u67 :: u68 :: (.int .i64 ((t : Nat) : Int)) :: u70 :: u71 :: u72 :: u73 :: u74 :: u75 :: u76 :: u77 :: u78 :: u79 :: u80 :: u81 :: u82 :: u83 :: u84 :: u85 :: u86 :: u87 :: u88 :: u89 :: u90 :: u91 :: u92 :: u93 :: u94 :: u95 :: u96 :: u97 :: u98 :: u99 :: u100 :: u101 :: u102 :: u103 :: u104 :: u105 :: u106 :: u107 :: u108 :: u109 :: u110 :: u111 :: u112 :: u113 :: u114 :: u115 :: u116 :: u117 :: u118 :: u119 :: u120 :: u121 :: u122 :: u123 :: u124 :: u125 :: u126 :: u127 :: u128 :: u129 :: []), []⟩ w := by
  have HK := Lib.hid hK
  have HX := Lib.hid hX
  clear hK hX
  conv => arg 2; whnf
  obtain ⟨ht, hkk, hp⟩ := hI
  by_cases hlt : t < 3
  · have i1 : (t : Int) < 3 := by omega
    have i0 : (0 : Int) ≤ (t : Int) := by omega
    have hcell := hp.cell hlt
    obtain ⟨Av, cv, hv, hcapd, _⟩ := own_form (hp.own t hlt)
    rw [hv] at hcell
    have hc20 := hcs t hlt
    have Hp := Lib.hid hp
    have Hv := Lib.hid hv
    have hsm : sumC c t ≤ 60 := by
      have h0 := hcs 0 (by omega)
      have h1 := hcs 1 (by omega)
      have h2 := hcs 2 (by omega)
      match t, hlt with
      | 0, _ => exact Nat.zero_le _
      | 1, _ => show 0 + c 0 ≤ 60; omega
      | 2, _ => show 0 + c 0 + c 1 ≤ 60; omega
    have hw : IntKind.i64.wrap ((t : Int) + 1) = ((t + 1 : Nat) : Int) := by rw [IntKind.wrap_i64]; omega
    have Hkk := Lib.hid hkk
    clear hp hv HX hcs hkk
    go_upto_block 4 with fail
    refine wp_block ?_
    refine bcC (t := t) (n := c t) (pb := pb) (v := v) (m := m) (ks := ks) _ _ _ _ _ _ _ _ _ _ _ _ _ _ _ _ _ _ _ _ _ _ _ _ _ _ _ _ _ _ _ _ _ _ _ _ _ _ _ _ _ _ _ _ _ _ _ _ _ _ _ _ _ _ _ _ _ _ _ _ _ _ _ _ _ _ _ _ _ _ _ _ _ _ _ _ _ _ _ _ _ _ _ _ _ _ _ _ _ _ _ _ _ _ _ _ _ _ _ _ _ _ _ _ _ _ _ _ _ _ _ _ _ _ _ _ _ _ _ _ _ _ _ _ hnk hkl hks hlt rfl hc20 Hv.out hsm ⟨Nat.zero_le _, Hkk.out, Hp.out⟩ (fun v4 v14 v15 v16 v17 v77 v78 v79 v80 v81 v82 v83 v84 v85 v86 v87 v88 v89 v90 v91 v92 v93 v94 v95 v96 v97 v98 v99 v100 v101 v102 v103 v104 v105 v106 v107 v108 v109 v110 v111 v112 v113 v114 j k2 V hI hx => ?_)
    obtain ⟨_, hk2, hp2⟩ := hI
    subst hx
    rw [← Hkk.out] at hk2
    have Hp2 := Lib.hid hp2
    have Hk2 := Lib.hid hk2
    clear hp2 hk2
    go_wp2_with fail
    rw [Hk2.out]
    exact HK.out _ _ _ _ _ _ _ _ _ _ _ _ _ _ _ _ _ _ _ _ _ _ _ _ _ _ _ _ _ _ _ _ _ _ _ _ _ _ _ _ _ _ _ _ _ _ _ _ _ _ _ _ _ ⟨by omega, by rw [Hkk.out]; rfl, Hp2.out⟩ (by omega)
  · have Hin := Lib.hid (show t = 3 by omega)
    have i1 : ¬ (t : Int) < 3 := by omega
    clear HK hp hks hkk hcs hnk
    go_wp2_with fail
    exact HX.out _ _ _ _ _ _ _ _ _ _ _ _ _ _ _ _ _ _ _ _ _ _ _ _ _ _ _ _ _ _ _ _ _ _ _ _ _ _ _ _ _ _ _ _ _ _ _ _ _ _ _ _ Hin.out
set_option maxRecDepth 100000 in
set_option maxHeartbeats 3200000 in
theorem bcB {W : World} {b pb m nk c2 : Nat} {A2 : Option Addr} {ks : List Bool} {c : Nat → Nat} {v : Nat → Value} {H : BH}  {w : World} (u0 u2 u3 u4 u6 u8 u9 u10 u12 u13 u14 u15 u16 u17 u18 u19 u20 u21 u22 u23 u24 u25 u26 u27 u28 u29 u30 u31 u32 u33 u34 u35 u36 u37 u38 u39 u40 u41 u42 u43 u44 u45 u46 u47 u48 u49 u50 u51 u52 u53 u54 u55 u56 u57 u58 u59 u60 u61 u62 u63 u64 u65 u66 u67 u68 u70 u71 u72 u73 u74 u75 u76 u77 u78 u79 u80 u81 u82 u83 u84 u85 u86 u87 u88 u89 u90 u91 u92 u93 u94 u95 u96 u97 u98 u99 u100 u101 u102 u103 u104 u105 u106 u107 u108 u109 u110 u111 u112 u113 u114 u115 u116 u117 u118 u119 u120 u121 u122 u123 u124 u125 u126 u127 u128 u129 : Value) (Q : Exit → Act → World → Prop) (hnk : nk = ks.length) (hkl : nk ≤ 9223372036854775807) (hks : RdO W W.heap.size A2 ks) (hcs : ∀ d, d < 3 → c d ≤ 20) (hI : (0 ≤ 3 ∧ 0 = sumC c 0 ∧ PD W w b H ((NB c m).crash ks) pb c v))
    (hX : ∀ (v4 v12 v14 v15 v16 v17 v70 v71 v72 v73 v74 v75 v76 v77 v78 v79 v80 v81 v82 v83 v84 v85 v86 v87 v88 v89 v90 v91 v92 v93 v94 v95 v96 v97 v98 v99 v100 v101 v102 v103 v104 v105 v106 v107 v108 v109 v110 v111 v112 v113 v114 v115 : Value) (t : Nat) (k : Nat) (V : World), (t ≤ 3 ∧ k = sumC c t ∧ PD W V b H ((NB c m).crash ks) pb c v) → (t = 3) → Q (.exit 2) ⟨List.toArray (u0 :: (.slice A2 nk c2) :: u2 :: u3 :: v4 :: (.pointer (some ⟨b, 0, none⟩)) :: u6 :: (.pointer (some ⟨pb, 0, none⟩)) :: u8 :: u9 :: u10 :: (.int .i64 ((k : Nat) : Int)) :: v12 :: u13 :: v14 :: v15 :: v16 :: v17 :: u18 :: u19 :: u20 :: u21 :: u22 :: u23 :: u24 :: u25 :: u26 :: u27 :: u28 :: u29 :: u30 :: u31 :: u32 :: u33 :: u34 :: u35 :: u36 :: u37 :: u38 :: u39 :: u40 :: u41 :: u42 :: u43 :: u44 :: u45 :: u46 :: u47 :: u48 :: u49 :: u50 :: u51 :: u52 :: u53 :: u54 :: u55 :: u56 :: u57 :: u58 :: u59 :: u60 :: u61 :: u62 :: u63 :: u64 :: u65 :: u66 :: u67 :: u68 :: (.int .i64 ((t : Nat) : Int)) :: v70 :: v71 :: v72 :: v73 :: v74 :: v75 :: v76 :: v77 :: v78 :: v79 :: v80 :: v81 :: v82 :: v83 :: v84 :: v85 :: v86 :: v87 :: v88 :: v89 :: v90 :: v91 :: v92 :: v93 :: v94 :: v95 :: v96 :: v97 :: v98 :: v99 :: v100 :: v101 :: v102 :: v103 :: v104 :: v105 :: v106 :: v107 :: v108 :: v109 :: v110 :: v111 :: v112 :: v113 :: v114 :: v115 :: u116 :: u117 :: u118 :: u119 :: u120 :: u121 :: u122 :: u123 :: u124 :: u125 :: u126 :: u127 :: u128 :: u129 :: []), []⟩ V) :
    Code.wp Try.prog (.loop (sub [1, 1, 1, 1, 1, 1, 1, 0, 1, 0, 0] codeBC)) Q ⟨List.toArray (u0 :: (.slice A2 nk c2) :: u2 :: u3 :: u4 :: (.pointer (some ⟨b, 0, none⟩)) :: u6 :: (.pointer (some ⟨pb, 0, none⟩)) :: u8 :: u9 :: u10 :: (.int .i64 ((0 : Nat) : Int)) :: u12 :: u13 :: u14 :: u15 :: u16 :: u17 :: u18 :: u19 :: u20 :: u21 :: u22 :: u23 :: u24 :: u25 :: u26 :: u27 :: u28 :: u29 :: u30 :: u31 :: u32 :: u33 :: u34 :: u35 :: u36 :: u37 :: u38 :: u39 :: u40 :: u41 :: u42 :: u43 :: u44 :: u45 :: u46 :: u47 :: u48 :: u49 :: u50 :: u51 :: u52 :: u53 :: u54 :: u55 :: u56 :: u57 :: u58 :: u59 :: u60 :: u61 :: u62 :: u63 :: u64 :: u65 :: u66 :: u67 :: u68 :: (.int .i64 ((0 : Nat) : Int)) :: u70 :: u71 :: u72 :: u73 :: u74 :: u75 :: u76 :: u77 :: u78 :: u79 :: u80 :: u81 :: u82 :: u83 :: u84 :: u85 :: u86 :: u87 :: u88 :: u89 :: u90 :: u91 :: u92 :: u93 :: u94 :: u95 :: u96 :: u97 :: u98 :: u99 :: u100 :: u101 :: u102 :: u103 :: u104 :: u105 :: u106 :: u107 :: u108 :: u109 :: u110 :: u111 :: u112 :: u113 :: u114 :: u115 :: u116 :: u117 :: u118 :: u119 :: u120 :: u121 :: u122 :: u123 :: u124 :: u125 :: u126 :: u127 :: u128 :: u129 :: []), []⟩ w := by
  refine wp_loop_ghost (fun gk a V => ∀ C : Prop, (∀ (u4 u12 u14 u15 u16 u17 u70 u71 u72 u73 u74 u75 u76 u77 u78 u79 u80 u81 u82 u83 u84 u85 u86 u87 u88 u89 u90 u91 u92 u93 u94 u95 u96 u97 u98 u99 u100 u101 u102 u103 u104 u105 u106 u107 u108 u109 u110 u111 u112 u113 u114 u115 : Value) (t : Nat) (k : Nat), gk = 3 - t → (t ≤ 3 ∧ k = sumC c t ∧ PD W V b H ((NB c m).crash ks) pb c v) → a = ⟨List.toArray (u0 :: (.slice A2 nk c2) :: u2 :: u3 :: u4 :: (.pointer (some ⟨b, 0, none⟩)) :: u6 :: (.pointer (some ⟨pb, 0, none⟩)) :: u8 :: u9 :: u10 :: (.int .i64 ((k : Nat) : Int)) :: u12 :: u13 :: u14 :: u15 :: u16 :: u17 :: u18 :: u19 :: u20 :: u21 :: u22 :: u23 :: u24 :: u25 :: u26 :: u27 :: u28 :: u29 :: u30 :: u31 :: u32 :: u33 :: u34 :: u35 :: u36 :: u37 :: u38 :: u39 :: u40 :: u41 :: u42 :: u43 :: u44 :: u45 :: u46 :: u47 :: u48 :: u49 :: u50 :: u51 :: u52 :: u53 :: u54 :: u55 :: u56 :: u57 :: u58 :: u59 :: u60 :: u61 :: u62 :: u63 :: u64 :: u65 :: u66 :: u67 :: u68 :: (.int .i64 ((t : Nat) : Int)) :: u70 :: u71 :: u72 :: u73 :: u74 :: u75 :: u76 :: u77 :: u78 :: u79 :: u80 :: u81 :: u82 :: u83 :: u84 :: u85 :: u86 :: u87 :: u88 :: u89 :: u90 :: u91 :: u92 :: u93 :: u94 :: u95 :: u96 :: u97 :: u98 :: u99 :: u100 :: u101 :: u102 :: u103 :: u104 :: u105 :: u106 :: u107 :: u108 :: u109 :: u110 :: u111 :: u112 :: u113 :: u114 :: u115 :: u116 :: u117 :: u118 :: u119 :: u120 :: u121 :: u122 :: u123 :: u124 :: u125 :: u126 :: u127 :: u128 :: u129 :: []), []⟩ → C) → C) (3 - 0) ?_ ?_
  · intro C hC
    exact hC _ _ _ _ _ _ _ _ _ _ _ _ _ _ _ _ _ _ _ _ _ _ _ _ _ _ _ _ _ _ _ _ _ _ _ _ _ _ _ _ _ _ _ _ _ _ _ _ _ _ _ _ (0) (0) rfl hI rfl
  · intro gk a V hI'
    refine hI' _ ?_
    intro u4 u12 u14 u15 u16 u17 u70 u71 u72 u73 u74 u75 u76 u77 u78 u79 u80 u81 u82 u83 u84 u85 u86 u87 u88 u89 u90 u91 u92 u93 u94 u95 u96 u97 u98 u99 u100 u101 u102 u103 u104 u105 u106 u107 u108 u109 u110 u111 u112 u113 u114 u115 t k hk hinv ha
    subst ha
    subst hk
    refine bcBb _ _ _ _ _ _ _ _ _ _ _ _ _ _ _ _ _ _ _ _ _ _ _ _ _ _ _ _ _ _ _ _ _ _ _ _ _ _ _ _ _ _ _ _ _ _ _ _ _ _ _ _ _ _ _ _ _ _ _ _ _ _ _ _ _ _ _ _ _ _ _ _ _ _ _ _ _ _ _ _ _ _ _ _ _ _ _ _ _ _ _ _ _ _ _ _ _ _ _ _ _ _ _ _ _ _ _ _ _ _ _ _ _ _ _ _ _ _ _ _ _ _ _ _ _ _ _ hnk hkl hks hcs hinv (fun v4 v12 v14 v15 v16 v17 v70 v71 v72 v73 v74 v75 v76 v77 v78 v79 v80 v81 v82 v83 v84 v85 v86 v87 v88 v89 v90 v91 v92 v93 v94 v95 v96 v97 v98 v99 v100 v101 v102 v103 v104 v105 v106 v107 v108 v109 v110 v111 v112 v113 v114 v115  V2 h2 hm => ?_) (fun v4 v12 v14 v15 v16 v17 v70 v71 v72 v73 v74 v75 v76 v77 v78 v79 v80 v81 v82 v83 v84 v85 v86 v87 v88 v89 v90 v91 v92 v93 v94 v95 v96 v97 v98 v99 v100 v101 v102 v103 v104 v105 v106 v107 v108 v109 v110 v111 v112 v113 v114 v115 hx => hX v4 v12 v14 v15 v16 v17 v70 v71 v72 v73 v74 v75 v76 v77 v78 v79 v80 v81 v82 v83 v84 v85 v86 v87 v88 v89 v90 v91 v92 v93 v94 v95 v96 v97 v98 v99 v100 v101 v102 v103 v104 v105 v106 v107 v108 v109 v110 v111 v112 v113 v114 v115 t k V hinv hx)
    refine ⟨_, hm, fun C hC => ?_⟩
    exact hC v4 v12 v14 v15 v16 v17 v70 v71 v72 v73 v74 v75 v76 v77 v78 v79 v80 v81 v82 v83 v84 v85 v86 v87 v88 v89 v90 v91 v92 v93 v94 v95 v96 v97 v98 v99 v100 v101 v102 v103 v104 v105 v106 v107 v108 v109 v110 v111 v112 v113 v114 v115 ((t + 1)) ((k + c t)) rfl h2 rfl
end Go.Proofs.Ytpiilfgikgkneaa
