/- Texts put together: UpdKit, UpdWakes, UpdateErrorsLoops, UpdCrash. -/
import Derived.Test.YtenkkdnepmoihaaGreatDoorUebj
import Derived.Test.YtenkkdnepmoihaaGreatDoorUebi
import Derived.Test.YtenkkdnepmoihaaGreatDoorUebk
section
set_option maxRecDepth 20000
set_option linter.unusedVariables false
set_option linter.unusedSimpArgs false
namespace Go.Proofs.YtenkkdnepmoihaaGreatDoor
open Go.RowKit

section
variable {W w w' : World} {b : Nat} {H : BH} {N : Bch} {K : List (Nat × Obj)} {R : List (Option Addr × List (List UInt8))} {S : List (Option Addr × List UInt8)}
end
/-- A bench with power, no disk of which has failed. -/
structure Up (M : Bch) (D : Nat) : Prop where
  n : M.n = D
  dn : M.down = false
  f : ∀ i, i < D → (M.D i).f = false
end Go.Proofs.YtenkkdnepmoihaaGreatDoor
end
section
set_option maxRecDepth 20000
set_option linter.unusedVariables false
set_option linter.unusedSimpArgs false
namespace Go.Proofs.YtenkkdnepmoihaaGreatDoor
open Go.RowKit

theorem gr531 : Gr 0 5 1 0 3 (roF 5 ((3 : Nat) : Int) 1 0) 2 := by
  have hok : plOk 5 ((3 : Nat) : Int) 1 0 = true := by decide
  have R := ro_of hok
  exact ⟨hok, R, rfl, rfl, rfl, R.hF, by omega, by omega, by omega, by omega, by omega, .inl ⟨rfl, rfl⟩, R.wd, by omega, by omega, by omega, by omega, by omega⟩
theorem new_arr : Arr (Bch.new 3) 3 [true, true, true] 5 1 2 (fun _ => List.replicate 2 (zeroL 32)) := by
  refine ⟨⟨rfl, goodB_new 3, fun i hi t ht _ => ?_⟩, ⟨fun _ => by simp, fun _ => rep_mem⟩⟩
  show secAt Dsk.new.now (36 + t) = _
  rw [new_now, sec_zero (by omega)]
  have g := gr531.at ht
  show _ = (fillL 3 (roF 5 ((3 : Nat) : Int) 1 (t : Int)) (List.replicate 2 (zeroL 32))).getD i []
  rw [zeros_fill g.hF (by omega) (by omega) hi]
  rfl
theorem wakes_plan {x : List UInt8} (hx : x.length = 32) : upE (Bch.new 3) [true, true, true] 5 3 1 3 x = 0 ∧ (upL (Bch.new 3) [true, true, true] 5 3 1 3 x).length = 2 ∧ fillOk 5 3 1 (plOfR 5 3 1 3) (upX (Bch.new 3) [true, true, true] 5 3 1 3 x) = true := by
  have hsv : ∀ i, i < 3 → srvD (Bch.new 3) [true, true, true] i = true := fun i hi => srvD_mk hi (match i, hi with
    | 0, _ => rfl
    | 1, _ => rfl
    | 2, _ => rfl) rfl
  have hc : ((cntB 3 (fun i => !srvD (Bch.new 3) [true, true, true] i) : Nat) : Int) ≤ 5 - 4 := by
    rw [cntB_none fun i hi => by rw [hsv i hi]; rfl]; decide
  have hr : (1 : Nat) < 16 := by omega
  have hE := new_arr.ok gr531 hr hc
  have e3 : plN 5 ((3 : Nat) : Int) 1 ((1 : Nat) : Int) ((1 : Nat) : Int) = 3 := by decide
  obtain ⟨h0, h1, _⟩ := up_at (k := 1) (gr531.at hr) (by omega) hx hE
  rw [e3] at h0 h1
  refine ⟨h0, ?_, new_arr.fok gr531 hx h0⟩
  show (upL (Bch.new 3) [true, true, true] 5 ((3 : Nat) : Int) 1 3 x).length = 2
  rw [h1]
  have hk := (ksL_facts (k := 1) (gr531.at hr) (by omega)).2.2.1
  unfold upIts
  rw [List.length_map, List.filter_eq_self.2 fun i hi => hsv i (hk i hi)]
  rfl
set_option maxRecDepth 100000 in
set_option maxHeartbeats 1600000 in
theorem wakesUpd_any (hu : UpdP) (W : World) : Calls Tryz.prog 21 #[] W fun e w' => e = .returned (.bool true) ∧ Below W.heap.size W w' := by
  have hpn := ptr_eq
  have CN := Lib.hid (bp_new 3 W W (Below.refl _ _) (by omega))
  have CSc := Lib.hid (fun V => sector_any 4 V (by omega))
  have hx := sectorB_len 4
  generalize sectorB 4 = x at CSc hx
  obtain ⟨p0, p1, p2⟩ := wakes_plan hx
  have P1 := Lib.hid (show upS (Bch.new 3) [true, true, true] 5 3 1 3 x 1 = 1 from if_neg (by rw [p0]; decide))
  have CP := fun (W w : World) (b : Nat) (H : BH) (h : BP W w b H (Bch.new 3)) (LA : Option Addr) (hr : RdOX (BF b H 3) w LA [true, true, true]) (XA : Option Addr) (hxr : RdB w w.heap.size XA x) => hu.plan W w b H (Bch.new 3) h [true, true, true] LA 3 3 rfl hr 5 3 1 3 ⟨by omega, by omega⟩ ⟨by omega, by omega⟩ ⟨by omega, by omega⟩ ⟨by omega, by omega⟩ XA 32 32 x hx (Nat.le_refl _) hxr 1 ⟨by omega, by omega⟩ (fun _ => p2)
  rw [p0, P1.out, p1] at CP
  have CP := Lib.hid CP
  clear hu p0 p1 p2
  go_enter Tryz.func21, Tryz.ntmps21
  go_wp2_with fail
  refine CN.out.mono ?_
  rintro e w1 ⟨b, H, rfl, hp, _, _⟩
  unfold ptr
  have kk : KS W w1 b H (Bch.new 3) [] [] [] := ⟨⟨hp, fun _ h => absurd h (by simp)⟩, fun _ h => absurd h (by simp), fun _ h => absurd h (by simp)⟩
  have K1 := Lib.hid (kk.add (.cells ([true, true, true].map Value.bool).toArray 4))
  clear kk hp CN
  go_wp2_with fail
  (with_reducible refine (CSc.out _).mono ?_); rintro e w2 ⟨gx, rfl, ho, hb2⟩
  have k2 := K1.out.slice hb2 ho.rdbf
  have CP2 := Lib.hid (CP.out W w2 b H k2.bp (some ⟨w1.heap.size, 0, none⟩) (k2.lv (g := w1.heap.size) (t := 4) (f := (0, 0)) (lv := [true, true, true]) (by simp) rfl (by simp)) (some ⟨gx, 0, none⟩) ho.rdS.1)
  have F2 := k2.bp.bel
  clear k2 ho hb2 CP K1
  go_wp2_with fail
  (with_reducible refine CP2.out.mono ?_); rintro e w3 ⟨A3, c3, rfl, _, _, hb3⟩
  have F3 := F2.trans (hb3.mono F2.size)
  clear hb3 CP2 F2
  go_wp2_with fail
  go_ret
  exact ⟨rfl, F3.alloc F3.size _⟩
end Go.Proofs.YtenkkdnepmoihaaGreatDoor
end
section
set_option linter.unusedVariables false
set_option linter.unusedSimpArgs false
namespace Go.Proofs.YtenkkdnepmoihaaGreatDoor
open Go.RowKit

noncomputable def codeUE : Code := Tryz.f4.body.getD .skip
/-- A row is told just where not more are missing than may be. -/
theorem can_cnt {nn l c : Int} {ρ D F W : Nat} (gr : Gr nn l c (ρ : Int) D F W) (g : Nat → Bool) : canN l (D : Int) c (ρ : Int) D g = decide (((cntB D g : Nat) : Int) ≤ l - 4) := by
  have hW := gr.hW; have hF := gr.hF; have hlv := gr.lv
  have hp := gr.R.pP
  have hq := gr.R.pQ
  rw [gr.eD, gr.eF, gr.eW] at hp hq
  have c1 : cntB D g = cntB D (fun i => g i && !parB l (D : Int) c (ρ : Int) i) + cntB D (fun i => g i && parB l (D : Int) c (ρ : Int) i) := by
    rw [← cntB_disj D _ _ fun i _ => by cases g i <;> cases parB l (D : Int) c (ρ : Int) i <;> rfl]
    exact cntB_congr fun i _ => by cases g i <;> cases parB l (D : Int) c (ρ : Int) i <;> rfl
  have c2 : cntB D (parB l (D : Int) c (ρ : Int)) = cntB D (fun i => parB l (D : Int) c (ρ : Int) i && !g i) + cntB D (fun i => g i && parB l (D : Int) c (ρ : Int) i) := by
    rw [← cntB_disj D _ _ fun i _ => by cases g i <;> cases parB l (D : Int) c (ρ : Int) i <;> rfl]
    exact cntB_congr fun i _ => by cases g i <;> cases parB l (D : Int) c (ρ : Int) i <;> rfl
  have c3 : ((cntB D (parB l (D : Int) c (ρ : Int)) : Nat) : Int) = l - 4 := by
    have a2 := roS_lt (D := D) (F := F) (k := W) hF hW
    rcases hlv with ⟨rfl, hD⟩ | ⟨rfl, hD⟩
    · rw [if_neg (by decide)] at hq
      have e : cntB D (parB 5 (D : Int) c (ρ : Int)) = cntB D (fun i => decide (i = roS D F W) && true) := cntB_congr fun i _ => by
        unfold parB; rw [hp, hq, beq_nat, Bool.and_true]
        rw [show ((i : Int) == -1) = false from by rw [beq_eq_false_iff_ne]; omega, Bool.or_false]
      rw [e, cnt_pick a2 fun _ => true]; rfl
    · rw [if_pos rfl] at hq
      have a3 := roS_lt (D := D) (F := F) (k := W + 1) hF (by omega)
      have n3 : roS D F W ≠ roS D F (W + 1) := fun e => by have := roS_inj hF (by omega) (by omega) e; omega
      have e : cntB D (parB 6 (D : Int) c (ρ : Int)) = cntB D (fun i => (decide (i = roS D F W) || decide (i = roS D F (W + 1))) && true) := cntB_congr fun i _ => by
        unfold parB; rw [hp, hq, beq_nat, beq_nat, Bool.and_true]
      rw [e, cnt_pair a2 a3 n3 fun _ => true]; rfl
  unfold canN
  exact decide_eq_decide.2 (by omega)
theorem Arr.lost {N : Bch} {D : Nat} {lv : List Bool} {nn l c r : Int} {F W ρ : Nat} {ds : Nat → List (List UInt8)} (h : Arr N D lv l c W ds) (gr : Gr nn l c r D F W) (hρ : ρ < 16) (hc : l - 4 < ((cntB D (fun i => !srvD N lv i) : Nat) : Int)) : srdE N lv l (D : Int) c (ρ : Int) = 7 := by
  have h1 := can_some (lv := lv) h.st.std (gr.at hρ) (h.da.len ρ) (h.da.m ρ) rfl
  rw [can_cnt (gr.at hρ), only_ss] at h1
  have e : cntB D (fun i => decide ((i : Int) ∈ gonL (only N lv) lv D)) = cntB D (fun i => !srvD N lv i) := cntB_congr fun i hi => by rw [gonL_has hi, only_srv]
  rw [e, decide_eq_false (by omega)] at h1
  have h2 := h.st.told (gr.at hρ) (h.da.len ρ) (h.da.m ρ) rfl
  rw [← h1, if_neg (by decide)] at h2
  exact h2.1
theorem doS_bad {N : Bch} {lv : List Bool} {l d c n : Int} {x : List UInt8} {s : Int} (h : upE N lv l d c n x = 0) (hs : ¬ (1 ≤ s ∧ s ≤ 2147483647)) : doS N lv l d c n x s = (1, N) := by
  have e : putS N lv s (upL N lv l d c n x) = (1, N) := if_neg (by rw [recOk_no fun q => hs ⟨q.1, q.2.1⟩]; decide)
  unfold doS
  rw [if_neg (by rw [h]; decide), e]
  exact if_pos (show (1 : Int) ≠ 0 by decide)
section
variable {W w : World} {b : Nat} {H : BH} {N : Bch} {K : List (Nat × Obj)} {R : List (Option Addr × List (List UInt8))} {S : List (Option Addr × List UInt8)} (h : KS W w b H N K R S)
include h
/-- What is refused. -/
theorem ks_doNo (hu : UpdC) (ht : TabOk W) (lv : List Bool) (A : Option Addr) (m cp : Nat) (hm : m = lv.length) (hv : RdOX (BF b H N.n) w A lv) (l d c n : Int)
    (hl : -9223372036854775808 ≤ l ∧ l ≤ 9223372036854775807) (hd : -9223372036854775808 ≤ d ∧ d ≤ 9223372036854775807) (hc : -9223372036854775808 ≤ c ∧ c ≤ 9223372036854775807) (hn : -9223372036854775808 ≤ n ∧ n ≤ 9223372036854775807)
    (XA : Option Addr) (xn xc : Nat) (x : List UInt8) (hx : x.length = xn) (hxc : xn ≤ xc) (hr : RdB w w.heap.size XA x) (s : Int) (hs : -9223372036854775808 ≤ s ∧ s ≤ 9223372036854775807)
    (hps : ∀ i, i < N.n → (N.D i).ps.length ≤ 900000) (hdn : N.done ≤ 900000) (E : Int) (hE : upE N lv l d c n x = E) (h0 : E ≠ 0) :
    Calls Tryz.prog 15 #[.pointer (some ⟨b, 0, none⟩), .slice A m cp, .agg #[.int .i64 l, .int .i64 d, .int .i64 c], .int .i64 n, .slice XA xn xc, .int .i64 s] w fun e w' => e = .returned (.int .i64 E) ∧ ∃ H', KS W w' b H' N K R S := by
  have := ks_do h hu ht lv A m cp hm hv l d c n hl hd hc hn XA xn xc x hx hxc hr s hs (fun e => absurd (hE.symm.trans e) h0) hps hdn
  rw [doS_no (by rw [hE]; exact h0), hE] at this
  exact this
theorem ks_doBad (hu : UpdC) (ht : TabOk W) (lv : List Bool) (A : Option Addr) (m cp : Nat) (hm : m = lv.length) (hv : RdOX (BF b H N.n) w A lv) (l d c n : Int)
    (hl : -9223372036854775808 ≤ l ∧ l ≤ 9223372036854775807) (hd : -9223372036854775808 ≤ d ∧ d ≤ 9223372036854775807) (hc : -9223372036854775808 ≤ c ∧ c ≤ 9223372036854775807) (hn : -9223372036854775808 ≤ n ∧ n ≤ 9223372036854775807)
    (XA : Option Addr) (xn xc : Nat) (x : List UInt8) (hx : x.length = xn) (hxc : xn ≤ xc) (hr : RdB w w.heap.size XA x) (s : Int) (hs : -9223372036854775808 ≤ s ∧ s ≤ 9223372036854775807)
    (hf : upE N lv l d c n x = 0 → fillOk l d c (plOfR l d c n) (upX N lv l d c n x) = true) (hps : ∀ i, i < N.n → (N.D i).ps.length ≤ 900000) (hdn : N.done ≤ 900000) (h0 : upE N lv l d c n x = 0) (hb : ¬ (1 ≤ s ∧ s ≤ 2147483647)) :
    Calls Tryz.prog 15 #[.pointer (some ⟨b, 0, none⟩), .slice A m cp, .agg #[.int .i64 l, .int .i64 d, .int .i64 c], .int .i64 n, .slice XA xn xc, .int .i64 s] w fun e w' => e = .returned (.int .i64 1) ∧ ∃ H', KS W w' b H' N K R S := by
  have := ks_do h hu ht lv A m cp hm hv l d c n hl hd hc hn XA xn xc x hx hxc hr s hs hf hps hdn
  rw [doS_bad h0 hb] at this
  exact this
theorem ks_emptyNo (hu : UpdC) (ht : TabOk W) (lv : List Bool) (A : Option Addr) (m cp : Nat) (hm : m = lv.length) (hv : RdOX (BF b H N.n) w A lv) (s : Int) (hs : -9223372036854775808 ≤ s ∧ s ≤ 9223372036854775807) (hps : ∀ i, i < N.n → (N.D i).ps.length ≤ 900000) (hdn : N.done ≤ 900000) (hb : ¬ (1 ≤ s ∧ s ≤ 2147483647)) :
    Calls Tryz.prog 20 #[.pointer (some ⟨b, 0, none⟩), .slice A m cp, .int .i64 s] w fun e w' => e = .returned (.int .i64 1) ∧ ∃ H', KS W w' b H' N K R S := by
  have := ks_empty h hu ht lv A m cp hm hv s hs hps hdn
  rw [show putS N lv s [] = (1, N) from if_neg (by rw [recOk_no fun q => hb ⟨q.1, q.2.1⟩]; decide)] at this
  exact this
end
set_option maxRecDepth 100000 in
set_option maxHeartbeats 3200000 in
theorem ueAb {W0 : World} {a1 c1 b : Nat} {H : BH} {N : Bch} {KL : List (Nat × Obj)} {S : List (Option Addr × List UInt8)} {d : Nat} {w : World} (u0 u1 u2 u3 u6 u7 u8 u9 u10 u11 u12 u13 u14 u15 u16 u18 u19 u20 u21 u22 u23 u24 u25 u26 u27 u28 u29 u30 u31 u32 u33 u34 u35 u36 u37 u38 u39 u40 u41 u42 u43 u44 u45 u46 u47 u48 u49 u50 u51 u52 u53 u54 u55 u56 u57 u58 u59 u60 u61 u62 u63 u64 u65 u66 u67 u68 u69 u70 u71 u72 u73 u74 u75 u76 u77 u78 u79 u80 u81 u82 u83 u84 u85 u86 u87 u88 u89 u90 u91 u92 u93 u94 u95 u96 u97 u98 u99 u100 u101 u102 u103 u104 u105 u106 u107 u108 u109 u110 u111 u112 u113 u114 u115 u116 u117 u118 u119 u120 u121 u122 u123 u124 u125 u126 u127 u128 u129 u130 u131 u132 u133 u134 u135 u136 u137 u138 u139 u140 u141 u142 u143 u144 u145 u146 u147 u148 u149 u150 u151 u152 u153 u154 u155 u156 u157 u158 u159 u160 u161 u162 u163 u164 u165 u166 u167 u168 u169 u170 u171 u172 : Value) (K : Act → World → Prop) (Q0 : Exit → Act → World → Prop) (htr : True) (hI : (d ≤ 2 ∧ (∀ j, j < d → j = a1 ∨ j = c1) ∧ KS W0 w b H N KL [] S))
    (hK : ∀ (v105 v106 v107 v108 v109 v110 v111 v112 v113 v114 : Value)  (V : World), ((d + 1) ≤ 2 ∧ (∀ j, j < (d + 1) → j = a1 ∨ j = c1) ∧ KS W0 V b H N KL [] S) → 3 - (d + 1) < 3 - d → K ⟨List.toArray (u0 :: u1 :: u2 :: u3 :: (.int .i64 ((a1 : Nat) : Int)) :: (.int .i64 ((c1 : Nat) : Int)) :: u6 :: u7 :: u8 :: u9 :: u10 :: u11 :: u12 :: u13 :: u14 :: u15 :: u16 :: (.int .i64 (((d + 1) : Nat) : Int)) :: u18 :: u19 :: u20 :: u21 :: u22 :: u23 :: u24 :: u25 :: u26 :: u27 :: u28 :: u29 :: u30 :: u31 :: u32 :: u33 :: u34 :: u35 :: u36 :: u37 :: u38 :: u39 :: u40 :: u41 :: u42 :: u43 :: u44 :: u45 :: u46 :: u47 :: u48 :: u49 :: u50 :: u51 :: u52 :: u53 :: u54 :: u55 :: u56 :: u57 :: u58 :: u59 :: u60 :: u61 :: u62 :: u63 :: u64 :: u65 :: u66 :: u67 :: u68 :: u69 :: u70 :: u71 :: u72 :: u73 :: u74 :: u75 :: u76 :: u77 :: u78 :: u79 :: u80 :: u81 :: u82 :: u83 :: u84 :: u85 :: u86 :: u87 :: u88 :: u89 :: u90 :: u91 :: u92 :: u93 :: u94 :: u95 :: u96 :: u97 :: u98 :: u99 :: u100 :: u101 :: u102 :: u103 :: u104 :: v105 :: v106 :: v107 :: v108 :: v109 :: v110 :: v111 :: v112 :: v113 :: v114 :: u115 :: u116 :: u117 :: u118 :: u119 :: u120 :: u121 :: u122 :: u123 :: u124 :: u125 :: u126 :: u127 :: u128 :: u129 :: u130 :: u131 :: u132 :: u133 :: u134 :: u135 :: u136 :: u137 :: u138 :: u139 :: u140 :: u141 :: u142 :: u143 :: u144 :: u145 :: u146 :: u147 :: u148 :: u149 :: u150 :: u151 :: u152 :: u153 :: u154 :: u155 :: u156 :: u157 :: u158 :: u159 :: u160 :: u161 :: u162 :: u163 :: u164 :: u165 :: u166 :: u167 :: u168 :: u169 :: u170 :: u171 :: u172 :: []), []⟩ V)
    (hX : ∀ (v105 v106 v107 v108 v109 v110 v111 v112 v113 v114 : Value), (d ≠ a1 ∧ d ≠ c1 ∧ d ≤ 2) → Q0 (.exit 0) ⟨List.toArray (u0 :: u1 :: u2 :: u3 :: (.int .i64 ((a1 : Nat) : Int)) :: (.int .i64 ((c1 : Nat) : Int)) :: u6 :: u7 :: u8 :: u9 :: u10 :: u11 :: u12 :: u13 :: u14 :: u15 :: u16 :: (.int .i64 ((d : Nat) : Int)) :: u18 :: u19 :: u20 :: u21 :: u22 :: u23 :: u24 :: u25 :: u26 :: u27 :: u28 :: u29 :: u30 :: u31 :: u32 :: u33 :: u34 :: u35 :: u36 :: u37 :: u38 :: u39 :: u40 :: u41 :: u42 :: u43 :: u44 :: u45 :: u46 :: u47 :: u48 :: u49 :: u50 :: u51 :: u52 :: u53 :: u54 :: u55 :: u56 :: u57 :: u58 :: u59 :: u60 :: u61 :: u62 :: u63 :: u64 :: u65 :: u66 :: u67 :: u68 :: u69 :: u70 :: u71 :: u72 :: u73 :: u74 :: u75 :: u76 :: u77 :: u78 :: u79 :: u80 :: u81 :: u82 :: u83 :: u84 :: u85 :: u86 :: u87 :: u88 :: u89 :: u90 :: u91 :: u92 :: u93 :: u94 :: u95 :: u96 :: u97 :: u98 :: u99 :: u100 :: u101 :: u102 :: u103 :: u104 :: v105 :: v106 :: v107 :: v108 :: v109 :: v110 :: v111 :: v112 :: v113 :: v114 :: u115 :: u116 :: u117 :: u118 :: u119 :: u120 :: u121 :: u122 :: u123 :: u124 :: u125 :: u126 :: u127 :: u128 :: u129 :: u130 :: u131 :: u132 :: u133 :: u134 :: u135 :: u136 :: u137 :: u138 :: u139 :: u140 :: u141 :: u142 :: u143 :: u144 :: u145 :: u146 :: u147 :: u148 :: u149 :: u150 :: u151 :: u152 :: u153 :: u154 :: u155 :: u156 :: u157 :: u158 :: u159 :: u160 :: u161 :: u162 :: u163 :: u164 :: u165 :: u166 :: u167 :: u168 :: u169 :: u170 :: u171 :: u172 :: []), []⟩ w) :
    Code.wp Tryz.prog (sub [1, 1, 1, 1, 1, 1, 1, 1, 1, 1, 0, 0, 0] codeUE) (Exit.then K Q0) ⟨List.toArray (u0 :: u1 :: u2 :: u3 :: (.int .i64 ((a1 : Nat) : Int)) :: (.int .i64 ((c1 : Nat) : Int)) :: u6 :: u7 :: u8 :: u9 :: u10 :: u11 :: u12 :: u13 :: u14 :: u15 :: u16 :: (.int .i64 ((d : Nat) : Int)) :: u18 :: u19 :: u20 :: u21 :: u22 :: u23 :: u24 :: u25 :: u26 :: u27 :: u28 :: u29 :: u30 :: u31 :: u32 :: u33 :: u34 :: u35 :: u36 :: u37 :: u38 :: u39 :: u40 :: u41 :: u42 :: u43 :: u44 :: u45 :: u46 :: u47 :: u48 :: u49 :: u50 :: u51 :: u52 :: u53 :: u54 :: u55 :: u56 :: u57 :: u58 :: u59 :: u60 :: u61 :: u62 :: u63 :: u64 :: u65 :: u66 :: u67 :: u68 :: u69 :: u70 :: u71 :: u72 :: u73 :: u74 :: u75 :: u76 :: u77 :: u78 :: u79 :: u80 :: u81 :: u82 :: u83 :: u84 :: u85 :: u86 :: u87 :: u88 :: u89 :: u90 :: u91 :: u92 :: u93 :: u94 :: u95 :: u96 :: u97 :: u98 :: u99 :: u100 :: u101 :: u102 :: u103 :: u104 :: u105 :: u106 :: u107 :: u108 :: u109 :: u110 :: u111 :: u112 :: u113 :: u114 :: u115 :: u116 :: u117 :: u118 :: u119 :: u120 :: u121 :: u122 :: u123 :: u124 :: u125 :: u126 :: u127 :: u128 :: u129 :: u130 :: u131 :: u132 :: u133 :: u134 :: u135 :: u136 :: u137 :: u138 :: u139 :: u140 :: u141 :: u142 :: u143 :: u144 :: u145 :: u146 :: u147 :: u148 :: u149 :: u150 :: u151 :: u152 :: u153 :: u154 :: u155 :: u156 :: u157 :: u158 :: u159 :: u160 :: u161 :: u162 :: u163 :: u164 :: u165 :: u166 :: u167 :: u168 :: u169 :: u170 :: u171 :: u172 :: []), []⟩ w := by
  have HK := Lib.hid hK
  have HX := Lib.hid hX
  clear hK hX
  conv => arg 2; whnf
  obtain ⟨hd, hj, hk⟩ := hI
  have Hk := Lib.hid hk
  have Hj := Lib.hid hj
  clear hk hj
  by_cases ha : d = a1
  · have e1 : ((d : Int) == (a1 : Int)) = true := by rw [ha]; exact beq_self_eq_true _
    have h1 : d < 2 := by
      rcases Nat.lt_or_ge d 2 with q | q
      · exact q
      · have := Hj.out 0 (by omega); have := Hj.out 1 (by omega); omega
    clear HX ha
    go_wp2_with fail
    exact HK.out _ _ _ _ _ _ _ _ _ _ _ ⟨by omega, fun j hj => (show j < d ∨ j = d by omega).elim (Hj.out j) fun q => .inl (by have := beq_iff_eq.1 e1; omega), Hk.out⟩ (by omega)
  · have e1 : ((d : Int) == (a1 : Int)) = false := by rw [beq_eq_false_iff_ne]; omega
    by_cases hc : d = c1
    · have e2 : ((d : Int) == (c1 : Int)) = true := by rw [hc]; exact beq_self_eq_true _
      have h1 : d < 2 := by
        rcases Nat.lt_or_ge d 2 with q | q
        · exact q
        · have := Hj.out 0 (by omega); have := Hj.out 1 (by omega); omega
      clear HX hc ha
      go_wp2_with fail
      exact HK.out _ _ _ _ _ _ _ _ _ _ _ ⟨by omega, fun j hj => (show j < d ∨ j = d by omega).elim (Hj.out j) fun q => .inr (by have := beq_iff_eq.1 e2; omega), Hk.out⟩ (by omega)
    · have e2 : ((d : Int) == (c1 : Int)) = false := by rw [beq_eq_false_iff_ne]; omega
      have Hx := Lib.hid (show d ≠ a1 ∧ d ≠ c1 ∧ d ≤ 2 from ⟨ha, hc, hd⟩)
      clear HK ha hc
      go_wp2_with fail
      exact HX.out _ _ _ _ _ _ _ _ _ _ Hx.out
set_option maxRecDepth 100000 in
set_option maxHeartbeats 3200000 in
theorem ueA {W0 : World} {a1 c1 b : Nat} {H : BH} {N : Bch} {KL : List (Nat × Obj)} {S : List (Option Addr × List UInt8)}  {w : World} (u0 u1 u2 u3 u6 u7 u8 u9 u10 u11 u12 u13 u14 u15 u16 u18 u19 u20 u21 u22 u23 u24 u25 u26 u27 u28 u29 u30 u31 u32 u33 u34 u35 u36 u37 u38 u39 u40 u41 u42 u43 u44 u45 u46 u47 u48 u49 u50 u51 u52 u53 u54 u55 u56 u57 u58 u59 u60 u61 u62 u63 u64 u65 u66 u67 u68 u69 u70 u71 u72 u73 u74 u75 u76 u77 u78 u79 u80 u81 u82 u83 u84 u85 u86 u87 u88 u89 u90 u91 u92 u93 u94 u95 u96 u97 u98 u99 u100 u101 u102 u103 u104 u105 u106 u107 u108 u109 u110 u111 u112 u113 u114 u115 u116 u117 u118 u119 u120 u121 u122 u123 u124 u125 u126 u127 u128 u129 u130 u131 u132 u133 u134 u135 u136 u137 u138 u139 u140 u141 u142 u143 u144 u145 u146 u147 u148 u149 u150 u151 u152 u153 u154 u155 u156 u157 u158 u159 u160 u161 u162 u163 u164 u165 u166 u167 u168 u169 u170 u171 u172 : Value) (Q : Exit → Act → World → Prop) (htr : True) (hI : (0 ≤ 2 ∧ (∀ j, j < 0 → j = a1 ∨ j = c1) ∧ KS W0 w b H N KL [] S))
    (hX : ∀ (v105 v106 v107 v108 v109 v110 v111 v112 v113 v114 : Value) (d : Nat) (V : World), (d ≤ 2 ∧ (∀ j, j < d → j = a1 ∨ j = c1) ∧ KS W0 V b H N KL [] S) → (d ≠ a1 ∧ d ≠ c1 ∧ d ≤ 2) → Q (.exit 0) ⟨List.toArray (u0 :: u1 :: u2 :: u3 :: (.int .i64 ((a1 : Nat) : Int)) :: (.int .i64 ((c1 : Nat) : Int)) :: u6 :: u7 :: u8 :: u9 :: u10 :: u11 :: u12 :: u13 :: u14 :: u15 :: u16 :: (.int .i64 ((d : Nat) : Int)) :: u18 :: u19 :: u20 :: u21 :: u22 :: u23 :: u24 :: u25 :: u26 :: u27 :: u28 :: u29 :: u30 :: u31 :: u32 :: u33 :: u34 :: u35 :: u36 :: u37 :: u38 :: u39 :: u40 :: u41 :: u42 :: u43 :: u44 :: u45 :: u46 :: u47 :: u48 :: u49 :: u50 :: u51 :: u52 :: u53 :: u54 :: u55 :: u56 :: u57 :: u58 :: u59 :: u60 :: u61 :: u62 :: u63 :: u64 :: u65 :: u66 :: u67 :: u68 :: u69 :: u70 :: u71 :: u72 :: u73 :: u74 :: u75 :: u76 :: u77 :: u78 :: u79 :: u80 :: u81 :: u82 :: u83 :: u84 :: u85 :: u86 :: u87 :: u88 :: u89 :: u90 :: u91 :: u92 :: u93 :: u94 :: u95 :: u96 :: u97 :: u98 :: u99 :: u100 :: u101 :: u102 :: u103 :: u104 :: v105 :: v106 :: v107 :: v108 :: v109 :: v110 :: v111 :: v112 :: v113 :: v114 :: u115 :: u116 :: u117 :: u118 :: u119 :: u120 :: u121 :: u122 :: u123 :: u124 :: u125 :: u126 :: u127 :: u128 :: u129 :: u130 :: u131 :: u132 :: u133 :: u134 :: u135 :: u136 :: u137 :: u138 :: u139 :: u140 :: u141 :: u142 :: u143 :: u144 :: u145 :: u146 :: u147 :: u148 :: u149 :: u150 :: u151 :: u152 :: u153 :: u154 :: u155 :: u156 :: u157 :: u158 :: u159 :: u160 :: u161 :: u162 :: u163 :: u164 :: u165 :: u166 :: u167 :: u168 :: u169 :: u170 :: u171 :: u172 :: []), []⟩ V) :
    Code.wp Tryz.prog (.loop (sub [1, 1, 1, 1, 1, 1, 1, 1, 1, 1, 0, 0, 0] codeUE)) Q ⟨List.toArray (u0 :: u1 :: u2 :: u3 :: (.int .i64 ((a1 : Nat) : Int)) :: (.int .i64 ((c1 : Nat) : Int)) :: u6 :: u7 :: u8 :: u9 :: u10 :: u11 :: u12 :: u13 :: u14 :: u15 :: u16 :: (.int .i64 ((0 : Nat) : Int)) :: u18 :: u19 :: u20 :: u21 :: u22 :: u23 :: u24 :: u25 :: u26 :: u27 :: u28 :: u29 :: u30 :: u31 :: u32 :: u33 :: u34 :: u35 :: u36 :: u37 :: u38 :: u39 :: u40 :: u41 :: u42 :: u43 :: u44 :: u45 :: u46 :: u47 :: u48 :: u49 :: u50 :: u51 :: u52 :: u53 :: u54 :: u55 :: u56 :: u57 :: u58 :: u59 :: u60 :: u61 :: u62 :: u63 :: u64 :: u65 :: u66 :: u67 :: u68 :: u69 :: u70 :: u71 :: u72 :: u73 :: u74 :: u75 :: u76 :: u77 :: u78 :: u79 :: u80 :: u81 :: u82 :: u83 :: u84 :: u85 :: u86 :: u87 :: u88 :: u89 :: u90 :: u91 :: u92 :: u93 :: u94 :: u95 :: u96 :: u97 :: u98 :: u99 :: u100 :: u101 :: u102 :: u103 :: u104 :: u105 :: u106 :: u107 :: u108 :: u109 :: u110 :: u111 :: u112 :: u113 :: u114 :: u115 :: u116 :: u117 :: u118 :: u119 :: u120 :: u121 :: u122 :: u123 :: u124 :: u125 :: u126 :: u127 :: u128 :: u129 :: u130 :: u131 :: u132 :: u133 :: u134 :: u135 :: u136 :: u137 :: u138 :: u139 :: u140 :: u141 :: u142 :: u143 :: u144 :: u145 :: u146 :: u147 :: u148 :: u149 :: u150 :: u151 :: u152 :: u153 :: u154 :: u155 :: u156 :: u157 :: u158 :: u159 :: u160 :: u161 :: u162 :: u163 :: u164 :: u165 :: u166 :: u167 :: u168 :: u169 :: u170 :: u171 :: u172 :: []), []⟩ w := by
  refine wp_loop_ghost (fun gk a V => ∀ C : Prop, (∀ (u105 u106 u107 u108 u109 u110 u111 u112 u113 u114 : Value) (d : Nat), gk = 3 - d → (d ≤ 2 ∧ (∀ j, j < d → j = a1 ∨ j = c1) ∧ KS W0 V b H N KL [] S) → a = ⟨List.toArray (u0 :: u1 :: u2 :: u3 :: (.int .i64 ((a1 : Nat) : Int)) :: (.int .i64 ((c1 : Nat) : Int)) :: u6 :: u7 :: u8 :: u9 :: u10 :: u11 :: u12 :: u13 :: u14 :: u15 :: u16 :: (.int .i64 ((d : Nat) : Int)) :: u18 :: u19 :: u20 :: u21 :: u22 :: u23 :: u24 :: u25 :: u26 :: u27 :: u28 :: u29 :: u30 :: u31 :: u32 :: u33 :: u34 :: u35 :: u36 :: u37 :: u38 :: u39 :: u40 :: u41 :: u42 :: u43 :: u44 :: u45 :: u46 :: u47 :: u48 :: u49 :: u50 :: u51 :: u52 :: u53 :: u54 :: u55 :: u56 :: u57 :: u58 :: u59 :: u60 :: u61 :: u62 :: u63 :: u64 :: u65 :: u66 :: u67 :: u68 :: u69 :: u70 :: u71 :: u72 :: u73 :: u74 :: u75 :: u76 :: u77 :: u78 :: u79 :: u80 :: u81 :: u82 :: u83 :: u84 :: u85 :: u86 :: u87 :: u88 :: u89 :: u90 :: u91 :: u92 :: u93 :: u94 :: u95 :: u96 :: u97 :: u98 :: u99 :: u100 :: u101 :: u102 :: u103 :: u104 :: u105 :: u106 :: u107 :: u108 :: u109 :: u110 :: u111 :: u112 :: u113 :: u114 :: u115 :: u116 :: u117 :: u118 :: u119 :: u120 :: u121 :: u122 :: u123 :: u124 :: u125 :: u126 :: u127 :: u128 :: u129 :: u130 :: u131 :: u132 :: u133 :: u134 :: u135 :: u136 :: u137 :: u138 :: u139 :: u140 :: u141 :: u142 :: u143 :: u144 :: u145 :: u146 :: u147 :: u148 :: u149 :: u150 :: u151 :: u152 :: u153 :: u154 :: u155 :: u156 :: u157 :: u158 :: u159 :: u160 :: u161 :: u162 :: u163 :: u164 :: u165 :: u166 :: u167 :: u168 :: u169 :: u170 :: u171 :: u172 :: []), []⟩ → C) → C) (3 - 0) ?_ ?_
  · intro C hC
    exact hC _ _ _ _ _ _ _ _ _ _ (0) rfl hI rfl
  · intro gk a V hI'
    refine hI' _ ?_
    intro u105 u106 u107 u108 u109 u110 u111 u112 u113 u114 d hk hinv ha
    subst ha
    subst hk
    refine ueAb _ _ _ _ _ _ _ _ _ _ _ _ _ _ _ _ _ _ _ _ _ _ _ _ _ _ _ _ _ _ _ _ _ _ _ _ _ _ _ _ _ _ _ _ _ _ _ _ _ _ _ _ _ _ _ _ _ _ _ _ _ _ _ _ _ _ _ _ _ _ _ _ _ _ _ _ _ _ _ _ _ _ _ _ _ _ _ _ _ _ _ _ _ _ _ _ _ _ _ _ _ _ _ _ _ _ _ _ _ _ _ _ _ _ _ _ _ _ _ _ _ _ _ _ _ _ _ _ _ _ _ _ _ _ _ _ _ _ _ _ _ _ _ _ _ _ _ _ _ _ _ _ _ _ _ _ _ _ _ _ _ _ _ _ _ _ _ _ _ _ _ _ htr hinv (fun v105 v106 v107 v108 v109 v110 v111 v112 v113 v114  V2 h2 hm => ?_) (fun v105 v106 v107 v108 v109 v110 v111 v112 v113 v114 hx => hX v105 v106 v107 v108 v109 v110 v111 v112 v113 v114 d V hinv hx)
    refine ⟨_, hm, fun C hC => ?_⟩
    exact hC v105 v106 v107 v108 v109 v110 v111 v112 v113 v114 ((d + 1)) rfl h2 rfl
set_option maxRecDepth 100000 in
set_option maxHeartbeats 3200000 in
theorem ueBb {W0 : World} {l c : Int} {D b gb gl : Nat} {lv : List Bool} {H : BH} {N : Bch} {S : List (Option Addr × List UInt8)} {i : Nat} {cn : Nat} {w : World} (u0 u1 u2 u3 u4 u5 u6 u7 u8 u9 u10 u11 u12 u13 u14 u15 u16 u17 u19 u20 u21 u22 u23 u24 u25 u26 u27 u28 u29 u30 u31 u32 u33 u34 u35 u36 u37 u38 u39 u40 u41 u42 u43 u44 u45 u46 u47 u48 u49 u50 u51 u52 u53 u54 u55 u56 u57 u58 u59 u60 u61 u62 u63 u64 u65 u66 u67 u68 u69 u70 u71 u72 u73 u74 u75 u76 u77 u78 u79 u80 u81 u82 u83 u84 u85 u86 u87 u88 u89 u90 u91 u92 u93 u94 u95 u96 u97 u98 u99 u100 u101 u102 u103 u104 u105 u106 u107 u108 u109 u110 u111 u112 u113 u114 u115 u116 u117 u118 u119 u120 u121 u122 u123 u124 u125 u126 u130 u131 u132 u133 u134 u135 u136 u137 u138 u139 u140 u141 u142 u143 u144 u145 u146 u147 u148 u149 u150 u151 u152 u153 u154 u155 u156 u157 u158 u159 u160 u161 u162 u163 u164 u165 u166 u167 u168 u169 u170 u171 u172 : Value) (K : Act → World → Prop) (Q0 : Exit → Act → World → Prop) (hll : lv.length = D) (hd8 : D ≤ 8) (hI : (i ≤ D ∧ cn = cntB i (fun j => !lv.getD j false) ∧ KS W0 w b H N [(gl, Obj.cells (lv.map Value.bool).toArray 4 (0, 0)), (gb, Obj.cells #[.int .i64 l, .int .i64 (D : Int), .int .i64 c] 24 (0, 0))] [] S))
    (hK : ∀ (v20 v130 v131 v132 v133 v134 v135 v136 v137 : Value) (cn2 : Nat) (V : World), ((i + 1) ≤ D ∧ cn2 = cntB (i + 1) (fun j => !lv.getD j false) ∧ KS W0 V b H N [(gl, Obj.cells (lv.map Value.bool).toArray 4 (0, 0)), (gb, Obj.cells #[.int .i64 l, .int .i64 (D : Int), .int .i64 c] 24 (0, 0))] [] S) → D - (i + 1) < D - i → K ⟨List.toArray (u0 :: u1 :: u2 :: u3 :: u4 :: u5 :: u6 :: u7 :: u8 :: u9 :: u10 :: u11 :: u12 :: u13 :: u14 :: u15 :: u16 :: u17 :: (.int .i64 ((cn2 : Nat) : Int)) :: u19 :: v20 :: u21 :: u22 :: u23 :: u24 :: u25 :: u26 :: u27 :: u28 :: u29 :: u30 :: u31 :: u32 :: u33 :: u34 :: u35 :: u36 :: u37 :: u38 :: u39 :: u40 :: u41 :: u42 :: u43 :: u44 :: u45 :: u46 :: u47 :: u48 :: u49 :: u50 :: u51 :: u52 :: u53 :: u54 :: u55 :: u56 :: u57 :: u58 :: u59 :: u60 :: u61 :: u62 :: u63 :: u64 :: u65 :: u66 :: u67 :: u68 :: u69 :: u70 :: u71 :: u72 :: u73 :: u74 :: u75 :: u76 :: u77 :: u78 :: u79 :: u80 :: u81 :: u82 :: u83 :: u84 :: u85 :: u86 :: u87 :: u88 :: u89 :: u90 :: u91 :: u92 :: u93 :: u94 :: u95 :: u96 :: u97 :: u98 :: u99 :: u100 :: u101 :: u102 :: u103 :: u104 :: u105 :: u106 :: u107 :: u108 :: u109 :: u110 :: u111 :: u112 :: u113 :: u114 :: u115 :: u116 :: u117 :: u118 :: u119 :: u120 :: u121 :: u122 :: u123 :: u124 :: u125 :: u126 :: (.slice (some ⟨gl, 0, none⟩) D D) :: (.int .i64 (D : Int)) :: (.int .i64 (((i + 1) : Nat) : Int)) :: v130 :: v131 :: v132 :: v133 :: v134 :: v135 :: v136 :: v137 :: u138 :: u139 :: u140 :: u141 :: u142 :: u143 :: u144 :: u145 :: u146 :: u147 :: u148 :: u149 :: u150 :: u151 :: u152 :: u153 :: u154 :: u155 :: u156 :: u157 :: u158 :: u159 :: u160 :: u161 :: u162 :: u163 :: u164 :: u165 :: u166 :: u167 :: u168 :: u169 :: u170 :: u171 :: u172 :: []), []⟩ V)
    (hX : ∀ (v20 v130 v131 v132 v133 v134 v135 v136 v137 : Value), (i = D) → Q0 (.exit 2) ⟨List.toArray (u0 :: u1 :: u2 :: u3 :: u4 :: u5 :: u6 :: u7 :: u8 :: u9 :: u10 :: u11 :: u12 :: u13 :: u14 :: u15 :: u16 :: u17 :: (.int .i64 ((cn : Nat) : Int)) :: u19 :: v20 :: u21 :: u22 :: u23 :: u24 :: u25 :: u26 :: u27 :: u28 :: u29 :: u30 :: u31 :: u32 :: u33 :: u34 :: u35 :: u36 :: u37 :: u38 :: u39 :: u40 :: u41 :: u42 :: u43 :: u44 :: u45 :: u46 :: u47 :: u48 :: u49 :: u50 :: u51 :: u52 :: u53 :: u54 :: u55 :: u56 :: u57 :: u58 :: u59 :: u60 :: u61 :: u62 :: u63 :: u64 :: u65 :: u66 :: u67 :: u68 :: u69 :: u70 :: u71 :: u72 :: u73 :: u74 :: u75 :: u76 :: u77 :: u78 :: u79 :: u80 :: u81 :: u82 :: u83 :: u84 :: u85 :: u86 :: u87 :: u88 :: u89 :: u90 :: u91 :: u92 :: u93 :: u94 :: u95 :: u96 :: u97 :: u98 :: u99 :: u100 :: u101 :: u102 :: u103 :: u104 :: u105 :: u106 :: u107 :: u108 :: u109 :: u110 :: u111 :: u112 :: u113 :: u114 :: u115 :: u116 :: u117 :: u118 :: u119 :: u120 :: u121 :: u122 :: u123 :: u124 :: u125 :: u126 :: (.slice (some ⟨gl, 0, none⟩) D D) :: (.int .i64 (D : Int)) :: (.int .i64 ((i : Nat) : Int)) :: v130 :: v131 :: v132 :: v133 :: v134 :: v135 :: v136 :: v137 :: u138 :: u139 :: u140 :: u141 :: u142 :: u143 :: u144 :: u145 :: u146 :: u147 :: u148 :: u149 :: u150 :: u151 :: u152 :: u153 :: u154 :: u155 :: u156 :: u157 :: u158 :: u159 :: u160 :: u161 :: u162 :: u163 :: u164 :: u165 :: u166 :: u167 :: u168 :: u169 :: u170 :: u171 :: u172 :: []), []⟩ w) :
    Code.wp Tryz.prog (sub [1, 1, 1, 1, 1, 1, 1, 1, 1, 1, 1, 1, 1, 1, 0, 1, 0, 0] codeUE) (Exit.then K Q0) ⟨List.toArray (u0 :: u1 :: u2 :: u3 :: u4 :: u5 :: u6 :: u7 :: u8 :: u9 :: u10 :: u11 :: u12 :: u13 :: u14 :: u15 :: u16 :: u17 :: (.int .i64 ((cn : Nat) : Int)) :: u19 :: u20 :: u21 :: u22 :: u23 :: u24 :: u25 :: u26 :: u27 :: u28 :: u29 :: u30 :: u31 :: u32 :: u33 :: u34 :: u35 :: u36 :: u37 :: u38 :: u39 :: u40 :: u41 :: u42 :: u43 :: u44 :: u45 :: u46 :: u47 :: u48 :: u49 :: u50 :: u51 :: u52 :: u53 :: u54 :: u55 :: u56 :: u57 :: u58 :: u59 :: u60 :: u61 :: u62 :: u63 :: u64 :: u65 :: u66 :: u67 :: u68 :: u69 :: u70 :: u71 :: u72 :: u73 :: u74 :: u75 :: u76 :: u77 :: u78 :: u79 :: u80 :: u81 :: u82 :: u83 :: u84 :: u85 :: u86 :: u87 :: u88 :: u89 :: u90 :: u91 :: u92 :: u93 :: u94 :: u95 :: u96 :: u97 :: u98 :: u99 :: u100 :: u101 :: u102 :: u103 :: u104 :: u105 :: u106 :: u107 :: u108 :: u109 :: u110 :: u111 :: u112 :: u113 :: u114 :: u115 :: u116 :: u117 :: u118 :: u119 :: u120 :: u121 :: u122 :: u123 :: u124 :: u125 :: u126 :: (.slice (some ⟨gl, 0, none⟩) D D) :: (.int .i64 (D : Int)) :: (.int .i64 ((i : Nat) : Int)) :: u130 :: u131 :: u132 :: u133 :: u134 :: u135 :: u136 :: u137 :: u138 :: u139 :: u140 :: u141 :: u142 :: u143 :: u144 :: u145 :: u146 :: u147 :: u148 :: u149 :: u150 :: u151 :: u152 :: u153 :: u154 :: u155 :: u156 :: u157 :: u158 :: u159 :: u160 :: u161 :: u162 :: u163 :: u164 :: u165 :: u166 :: u167 :: u168 :: u169 :: u170 :: u171 :: u172 :: []), []⟩ w := by
  have HK := Lib.hid hK
  have HX := Lib.hid hX
  clear hK hX
  conv => arg 2; whnf
  obtain ⟨hi, hcn, hk⟩ := hI
  have Hk := Lib.hid hk
  by_cases hlt : i < D
  · have i0 : (0 : Int) ≤ (i : Int) := by omega
    have i1 : (i : Int) < (D : Int) := by omega
    have hc : w.cell? ⟨gl, i, none⟩ = some (.bool (lv.getD i false)) := by
      have h1 := (hk.kx.kp (gl, Obj.cells (lv.map Value.bool).toArray 4 (0, 0)) (by simp)).1
      rw [cell_of_row w gl i _ _ _ h1, List.getElem?_toArray, List.getElem?_map, List.getElem?_eq_getElem (by omega)]
      simp [List.getD_eq_getElem?_getD, show i < lv.length by omega]
    have hs := cntB_succ i (fun j => !lv.getD j false)
    rw [← hcn] at hs
    have hcn8 : cn ≤ 8 := by rw [hcn]; have := cntB_le i (fun j => !lv.getD j false); omega
    generalize lv.getD i false = v at hc hs
    have Hs := Lib.hid hs
    clear hk HX hs hcn
    cases v with
    | true =>
      go_wp2_with fail
      exact HK.out _ _ _ _ _ _ _ _ _ cn _ ⟨by omega, by rw [Hs.out]; rfl, Hk.out⟩ (by omega)
    | false =>
      go_wp2_with fail
      exact HK.out _ _ _ _ _ _ _ _ _ (cn + 1) _ ⟨by omega, by rw [Hs.out]; rfl, Hk.out⟩ (by omega)
  · have i1 : ¬ (i : Int) < (D : Int) := by omega
    have Hin := Lib.hid (show i = D by omega)
    clear HK hk hcn
    go_wp2_with fail
    exact HX.out _ _ _ _ _ _ _ _ _ Hin.out
set_option maxRecDepth 100000 in
set_option maxHeartbeats 3200000 in
theorem ueB {W0 : World} {l c : Int} {D b gb gl : Nat} {lv : List Bool} {H : BH} {N : Bch} {S : List (Option Addr × List UInt8)}  {w : World} (u0 u1 u2 u3 u4 u5 u6 u7 u8 u9 u10 u11 u12 u13 u14 u15 u16 u17 u19 u20 u21 u22 u23 u24 u25 u26 u27 u28 u29 u30 u31 u32 u33 u34 u35 u36 u37 u38 u39 u40 u41 u42 u43 u44 u45 u46 u47 u48 u49 u50 u51 u52 u53 u54 u55 u56 u57 u58 u59 u60 u61 u62 u63 u64 u65 u66 u67 u68 u69 u70 u71 u72 u73 u74 u75 u76 u77 u78 u79 u80 u81 u82 u83 u84 u85 u86 u87 u88 u89 u90 u91 u92 u93 u94 u95 u96 u97 u98 u99 u100 u101 u102 u103 u104 u105 u106 u107 u108 u109 u110 u111 u112 u113 u114 u115 u116 u117 u118 u119 u120 u121 u122 u123 u124 u125 u126 u130 u131 u132 u133 u134 u135 u136 u137 u138 u139 u140 u141 u142 u143 u144 u145 u146 u147 u148 u149 u150 u151 u152 u153 u154 u155 u156 u157 u158 u159 u160 u161 u162 u163 u164 u165 u166 u167 u168 u169 u170 u171 u172 : Value) (Q : Exit → Act → World → Prop) (hll : lv.length = D) (hd8 : D ≤ 8) (hI : (0 ≤ D ∧ 0 = cntB 0 (fun j => !lv.getD j false) ∧ KS W0 w b H N [(gl, Obj.cells (lv.map Value.bool).toArray 4 (0, 0)), (gb, Obj.cells #[.int .i64 l, .int .i64 (D : Int), .int .i64 c] 24 (0, 0))] [] S))
    (hX : ∀ (v20 v130 v131 v132 v133 v134 v135 v136 v137 : Value) (i : Nat) (cn : Nat) (V : World), (i ≤ D ∧ cn = cntB i (fun j => !lv.getD j false) ∧ KS W0 V b H N [(gl, Obj.cells (lv.map Value.bool).toArray 4 (0, 0)), (gb, Obj.cells #[.int .i64 l, .int .i64 (D : Int), .int .i64 c] 24 (0, 0))] [] S) → (i = D) → Q (.exit 2) ⟨List.toArray (u0 :: u1 :: u2 :: u3 :: u4 :: u5 :: u6 :: u7 :: u8 :: u9 :: u10 :: u11 :: u12 :: u13 :: u14 :: u15 :: u16 :: u17 :: (.int .i64 ((cn : Nat) : Int)) :: u19 :: v20 :: u21 :: u22 :: u23 :: u24 :: u25 :: u26 :: u27 :: u28 :: u29 :: u30 :: u31 :: u32 :: u33 :: u34 :: u35 :: u36 :: u37 :: u38 :: u39 :: u40 :: u41 :: u42 :: u43 :: u44 :: u45 :: u46 :: u47 :: u48 :: u49 :: u50 :: u51 :: u52 :: u53 :: u54 :: u55 :: u56 :: u57 :: u58 :: u59 :: u60 :: u61 :: u62 :: u63 :: u64 :: u65 :: u66 :: u67 :: u68 :: u69 :: u70 :: u71 :: u72 :: u73 :: u74 :: u75 :: u76 :: u77 :: u78 :: u79 :: u80 :: u81 :: u82 :: u83 :: u84 :: u85 :: u86 :: u87 :: u88 :: u89 :: u90 :: u91 :: u92 :: u93 :: u94 :: u95 :: u96 :: u97 :: u98 :: u99 :: u100 :: u101 :: u102 :: u103 :: u104 :: u105 :: u106 :: u107 :: u108 :: u109 :: u110 :: u111 :: u112 :: u113 :: u114 :: u115 :: u116 :: u117 :: u118 :: u119 :: u120 :: u121 :: u122 :: u123 :: u124 :: u125 :: u126 :: (.slice (some ⟨gl, 0, none⟩) D D) :: (.int .i64 (D : Int)) :: (.int .i64 ((i : Nat) : Int)) :: v130 :: v131 :: v132 :: v133 :: v134 :: v135 :: v136 :: v137 :: u138 :: u139 :: u140 :: u141 :: u142 :: u143 :: u144 :: u145 :: u146 :: u147 :: u148 :: u149 :: u150 :: u151 :: u152 :: u153 :: u154 :: u155 :: u156 :: u157 :: u158 :: u159 :: u160 :: u161 :: u162 :: u163 :: u164 :: u165 :: u166 :: u167 :: u168 :: u169 :: u170 :: u171 :: u172 :: []), []⟩ V) :
    Code.wp Tryz.prog (.loop (sub [1, 1, 1, 1, 1, 1, 1, 1, 1, 1, 1, 1, 1, 1, 0, 1, 0, 0] codeUE)) Q ⟨List.toArray (u0 :: u1 :: u2 :: u3 :: u4 :: u5 :: u6 :: u7 :: u8 :: u9 :: u10 :: u11 :: u12 :: u13 :: u14 :: u15 :: u16 :: u17 :: (.int .i64 ((0 : Nat) : Int)) :: u19 :: u20 :: u21 :: u22 :: u23 :: u24 :: u25 :: u26 :: u27 :: u28 :: u29 :: u30 :: u31 :: u32 :: u33 :: u34 :: u35 :: u36 :: u37 :: u38 :: u39 :: u40 :: u41 :: u42 :: u43 :: u44 :: u45 :: u46 :: u47 :: u48 :: u49 :: u50 :: u51 :: u52 :: u53 :: u54 :: u55 :: u56 :: u57 :: u58 :: u59 :: u60 :: u61 :: u62 :: u63 :: u64 :: u65 :: u66 :: u67 :: u68 :: u69 :: u70 :: u71 :: u72 :: u73 :: u74 :: u75 :: u76 :: u77 :: u78 :: u79 :: u80 :: u81 :: u82 :: u83 :: u84 :: u85 :: u86 :: u87 :: u88 :: u89 :: u90 :: u91 :: u92 :: u93 :: u94 :: u95 :: u96 :: u97 :: u98 :: u99 :: u100 :: u101 :: u102 :: u103 :: u104 :: u105 :: u106 :: u107 :: u108 :: u109 :: u110 :: u111 :: u112 :: u113 :: u114 :: u115 :: u116 :: u117 :: u118 :: u119 :: u120 :: u121 :: u122 :: u123 :: u124 :: u125 :: u126 :: (.slice (some ⟨gl, 0, none⟩) D D) :: (.int .i64 (D : Int)) :: (.int .i64 ((0 : Nat) : Int)) :: u130 :: u131 :: u132 :: u133 :: u134 :: u135 :: u136 :: u137 :: u138 :: u139 :: u140 :: u141 :: u142 :: u143 :: u144 :: u145 :: u146 :: u147 :: u148 :: u149 :: u150 :: u151 :: u152 :: u153 :: u154 :: u155 :: u156 :: u157 :: u158 :: u159 :: u160 :: u161 :: u162 :: u163 :: u164 :: u165 :: u166 :: u167 :: u168 :: u169 :: u170 :: u171 :: u172 :: []), []⟩ w := by
  refine wp_loop_ghost (fun gk a V => ∀ C : Prop, (∀ (u20 u130 u131 u132 u133 u134 u135 u136 u137 : Value) (i : Nat) (cn : Nat), gk = D - i → (i ≤ D ∧ cn = cntB i (fun j => !lv.getD j false) ∧ KS W0 V b H N [(gl, Obj.cells (lv.map Value.bool).toArray 4 (0, 0)), (gb, Obj.cells #[.int .i64 l, .int .i64 (D : Int), .int .i64 c] 24 (0, 0))] [] S) → a = ⟨List.toArray (u0 :: u1 :: u2 :: u3 :: u4 :: u5 :: u6 :: u7 :: u8 :: u9 :: u10 :: u11 :: u12 :: u13 :: u14 :: u15 :: u16 :: u17 :: (.int .i64 ((cn : Nat) : Int)) :: u19 :: u20 :: u21 :: u22 :: u23 :: u24 :: u25 :: u26 :: u27 :: u28 :: u29 :: u30 :: u31 :: u32 :: u33 :: u34 :: u35 :: u36 :: u37 :: u38 :: u39 :: u40 :: u41 :: u42 :: u43 :: u44 :: u45 :: u46 :: u47 :: u48 :: u49 :: u50 :: u51 :: u52 :: u53 :: u54 :: u55 :: u56 :: u57 :: u58 :: u59 :: u60 :: u61 :: u62 :: u63 :: u64 :: u65 :: u66 :: u67 :: u68 :: u69 :: u70 :: u71 :: u72 :: u73 :: u74 :: u75 :: u76 :: u77 :: u78 :: u79 :: u80 :: u81 :: u82 :: u83 :: u84 :: u85 :: u86 :: u87 :: u88 :: u89 :: u90 :: u91 :: u92 :: u93 :: u94 :: u95 :: u96 :: u97 :: u98 :: u99 :: u100 :: u101 :: u102 :: u103 :: u104 :: u105 :: u106 :: u107 :: u108 :: u109 :: u110 :: u111 :: u112 :: u113 :: u114 :: u115 :: u116 :: u117 :: u118 :: u119 :: u120 :: u121 :: u122 :: u123 :: u124 :: u125 :: u126 :: (.slice (some ⟨gl, 0, none⟩) D D) :: (.int .i64 (D : Int)) :: (.int .i64 ((i : Nat) : Int)) :: u130 :: u131 :: u132 :: u133 :: u134 :: u135 :: u136 :: u137 :: u138 :: u139 :: u140 :: u141 :: u142 :: u143 :: u144 :: u145 :: u146 :: u147 :: u148 :: u149 :: u150 :: u151 :: u152 :: u153 :: u154 :: u155 :: u156 :: u157 :: u158 :: u159 :: u160 :: u161 :: u162 :: u163 :: u164 :: u165 :: u166 :: u167 :: u168 :: u169 :: u170 :: u171 :: u172 :: []), []⟩ → C) → C) (D - 0) ?_ ?_
  · intro C hC
    exact hC _ _ _ _ _ _ _ _ _ (0) (0) rfl hI rfl
  · intro gk a V hI'
    refine hI' _ ?_
    intro u20 u130 u131 u132 u133 u134 u135 u136 u137 i cn hk hinv ha
    subst ha
    subst hk
    refine ueBb _ _ _ _ _ _ _ _ _ _ _ _ _ _ _ _ _ _ _ _ _ _ _ _ _ _ _ _ _ _ _ _ _ _ _ _ _ _ _ _ _ _ _ _ _ _ _ _ _ _ _ _ _ _ _ _ _ _ _ _ _ _ _ _ _ _ _ _ _ _ _ _ _ _ _ _ _ _ _ _ _ _ _ _ _ _ _ _ _ _ _ _ _ _ _ _ _ _ _ _ _ _ _ _ _ _ _ _ _ _ _ _ _ _ _ _ _ _ _ _ _ _ _ _ _ _ _ _ _ _ _ _ _ _ _ _ _ _ _ _ _ _ _ _ _ _ _ _ _ _ _ _ _ _ _ _ _ _ _ _ _ _ _ _ _ _ _ _ _ _ _ hll hd8 hinv (fun v20 v130 v131 v132 v133 v134 v135 v136 v137 cn2 V2 h2 hm => ?_) (fun v20 v130 v131 v132 v133 v134 v135 v136 v137 hx => hX v20 v130 v131 v132 v133 v134 v135 v136 v137 i cn V hinv hx)
    refine ⟨_, hm, fun C hC => ?_⟩
    exact hC v20 v130 v131 v132 v133 v134 v135 v136 v137 ((i + 1)) (cn2) rfl h2 rfl
end Go.Proofs.YtenkkdnepmoihaaGreatDoor
end
section
set_option linter.unusedVariables false
set_option linter.unusedSimpArgs false
namespace Go.Proofs.YtenkkdnepmoihaaGreatDoor

section
variable {N : Bch} {D : Nat} {lv : List Bool} {nn l c r : Int} {F W ρ k : Nat} {ds : Nat → List (List UInt8)} {x : List UInt8}
end
end Go.Proofs.YtenkkdnepmoihaaGreatDoor
end
