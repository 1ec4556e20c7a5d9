/- Texts put together: BchDown, DskCrash, BchCrash, BchP, StripeErrorsLoop. -/
import Derived.Test.YtadfimimkkimmaaSaaal
import Derived.Test.YtadfimimkkimmaaSaaaj
import Derived.Test.YtadfimimkkimmaaSaaam
import Derived.Test.YtadfimimkkimmaaSaaaq
section
namespace Go.Proofs.Ytadfimimkkimmaa
open Go.RowKit

section
variable (B b : Nat) (H : BH) (N : Bch) (w : World) (h : BAt w B b H N)
include h
end
end Go.Proofs.Ytadfimimkkimmaa
end
section
namespace Go.Proofs.Ytadfimimkkimmaa
open Go.RowKit

end Go.Proofs.Ytadfimimkkimmaa
end
section
namespace Go.Proofs.Ytadfimimkkimmaa
open Go.RowKit

theorem Bch.crTo_zero (N : Bch) (ks : List Bool) : N.crTo ks 0 = N := rfl
theorem Bch.crTo_at (N : Bch) (ks : List Bool) (k : Nat) : (N.crTo ks k).D k = N.D k := if_neg (Nat.lt_irrefl k)
theorem Bch.crTo_succ (N : Bch) (ks : List Bool) (k : Nat) : (N.crTo ks k).set k ((N.D k).crash (ks.drop (offs N.D k))) = N.crTo ks (k + 1) := by
  unfold Bch.set Bch.crTo
  congr 1
  funext j
  show upd (fun i => if i < k then (N.D i).crash (ks.drop (offs N.D i)) else N.D i) k _ j = if j < k + 1 then _ else _
  by_cases e : j = k
  · subst e; rw [upd_same, if_pos (by omega)]
  · rw [upd_other _ _ e]
    show (if j < k then _ else _) = _
    by_cases c : j < k
    · rw [if_pos c, if_pos (by omega)]
    · rw [if_neg c, if_neg (by omega)]
theorem RdO.chg {F : Nat → Prop} {w w' : World} {B : Nat} {A : Option Addr} {ks : List Bool} (h : RdO w B A ks) (hc : Chg F w w') (hB : B ≤ w.heap.size) (hn : ∀ a, 0 < ks.length → A = some a → ¬ F a.block) : RdO w' B A ks :=
  ⟨h.1, fun h0 => by
    obtain ⟨b, off, e, hb, hk⟩ := h.2 h0
    refine ⟨b, off, e, hb, fun k hkl => ?_⟩
    rw [← hk k hkl]
    have := hc.block b (by omega) (hn _ h0 e)
    unfold World.cell?
    simp only [this]⟩
theorem RdO.more {w : World} {B B' : Nat} {A : Option Addr} {ks : List Bool} (h : RdO w B A ks) (hB : B ≤ B') : RdO w B' A ks := h.keep hB fun _ _ => rfl
theorem drop_min (ks : List Bool) (o p : Nat) : (ks.drop o).drop (min p (ks.drop o).length) = ks.drop (o + p) := by
  by_cases h : p ≤ (ks.drop o).length
  · rw [Nat.min_eq_left h, List.drop_drop]
  · rw [Nat.min_eq_right (by omega), List.drop_length, List.drop_eq_nil_of_le]
    simp at h
    omega
end Go.Proofs.Ytadfimimkkimmaa
end
section
namespace Go.Proofs.Ytadfimimkkimmaa
open Go.RowKit

section
variable (W w : World) (b : Nat) (H : BH) (N : Bch) (h : BP W w b H N)
include h
end
/-- A slice of yes and no that lay there before is none of a bench's. -/
theorem keep_q {W w : World} {b : Nat} {H : BH} {N : Bch} (h : BP W w b H N) {A : Option Addr} {ks : List Bool} (hk : RdO W W.heap.size A ks) : ∃ q, (0 < ks.length → ∀ a, A = some a → a.block = q) ∧ ¬ BF b H N.n q := by
  by_cases h0 : 0 < ks.length
  · obtain ⟨lb, off, rfl, hlb, _⟩ := hk.2 h0
    exact ⟨lb, fun _ a e => by injection e with e; rw [← e], fun hb => by have := (h.at'.flt hb).1; omega⟩
  · exact ⟨w.heap.size, fun h => absurd h h0, fun hb => by have := (h.at'.flt hb).2; omega⟩
end Go.Proofs.Ytadfimimkkimmaa
end
section
set_option linter.unusedVariables false
set_option linter.unusedSimpArgs false
namespace Go.Proofs.Ytadfimimkkimmaa
open Go.RowKit

noncomputable def codeSE : Code := Try.f4.body.getD .skip
theorem fillOk_false {l d c r : Int} {rs : List (List UInt8)} (h : ¬ (plOk l d c r = true ∧ rs.length = roW l d ∧ ∀ x ∈ rs, x.length = 32)) : fillOk l d c r rs = false := by
  cases e : fillOk l d c r rs with
  | false => rfl
  | true => exact absurd (fillOk_yes e) h
/-- The same slice, several times. -/
theorem rdr_rep {w : World} {A : Option Addr} {x : List UInt8} {m c : Nat} {t : TypeId} {f : Nat × Nat} (n : Nat) (hm : m = x.length) (hn : n ≤ 1000) (h : RdB w w.heap.size A x) :
    RdR (w.alloc (.cells (List.replicate n (.slice A m c)).toArray t f)) (w.alloc (.cells (List.replicate n (.slice A m c)).toArray t f)).heap.size (some ⟨w.heap.size, 0, none⟩) (List.replicate n x) := by
  subst hm
  refine rdr_cells (hp_new _ _ _ rfl) (by simp) (by simp; omega) fun k hk => ?_
  rw [List.length_replicate] at hk
  have e : (List.replicate n x).getD k [] = x := by simp [List.getD_eq_getElem?_getD, hk]
  rw [e]
  exact ⟨A, c, by simp [hk], (h.below (below1 w _) (Nat.le_refl _)).more (by simp)⟩
section
variable {W w : World} {b : Nat} {H : BH} {N : Bch} {K : List (Nat × Obj)} {R : List (Option Addr × List (List UInt8))} {S : List (Option Addr × List UInt8)} (h : KS W w b H N K R S)
include h
/-- What may not be written. -/
theorem ks_refused (lv : List Bool) (A : Option Addr) (m cp : Nat) (hm : m = lv.length) (hv : RdOX (BF b H N.n) w A lv) (A2 : Option Addr) (rs : List (List UInt8)) (n2 cp2 : Nat) (hn2 : rs.length = n2) (h28 : n2 ≤ 1000000) (hrd : RdR w w.heap.size A2 rs) (l d c r : Int)
    (hl : -9223372036854775808 ≤ l ∧ l ≤ 9223372036854775807) (hd : -9223372036854775808 ≤ d ∧ d ≤ 9223372036854775807) (hc : -9223372036854775808 ≤ c ∧ c ≤ 9223372036854775807) (hr : -9223372036854775808 ≤ r ∧ r ≤ 9223372036854775807)
    (hps : ∀ i, i < N.n → (N.D i).ps.length ≤ 1999990) (hdn : N.done ≤ 1999990) (hno : fillOk l d c r rs = false) :
    Calls Try.prog 14 #[.pointer (some ⟨b, 0, none⟩), .slice A m cp, .agg #[.int .i64 l, .int .i64 d, .int .i64 c], .int .i64 r, .slice A2 n2 cp2] w fun e w' => e = .returned (.int .i64 1) ∧ ∃ H', KS W w' b H' N K R S := by
  have e : swrS N lv l d c r rs = (1, N) := if_pos hno
  have := ks_write h lv A m cp hm hv A2 rs n2 cp2 hn2 h28 hrd l d c r hl hd hc hr hps hdn
  rwa [e] at this
end
theorem ones_lv {i : Nat} (h : i < 4) : [true, true, true, true].getD i false = true := by
  match i, h with
  | 0, _ => rfl
  | 1, _ => rfl
  | 2, _ => rfl
  | 3, _ => rfl
/-- Where the power goes. -/
structure SpG (N M : Bch) (k i : Nat) : Prop where
  n : M.n = N.n
  dn : M.down = false
  lf : M.left = (k : Int) - i
  f : ∀ j, (M.D j).f = (N.D j).f
theorem write_f (N : Bch) (d k : Int) (x : List UInt8) (j : Nat) : ((N.write d k x).D j).f = (N.D j).f := by
  unfold Bch.write
  repeat' split
  · rfl
  · rfl
  · rw [Bch.count_D]
  · rw [Bch.count_D]
    show ((upd N.D d.toNat _) j).f = _
    by_cases e : j = d.toNat
    · subst e; rw [upd_same]; rfl
    · rw [upd_other _ _ e]
theorem sp_to {N : Bch} {lv : List Bool} {a D k : Nat} {xs : List (List UInt8)} (ha : a < 52) (hx : ∀ i, i < D → (xs.getD i []).length = 32) (hd : N.down = false) (hl : N.left = (k : Int)) (hs : ∀ i, i < D → srvD N lv i = true) : ∀ i, i ≤ D → i ≤ k → (swTo lv a xs N i).1 = 0 ∧ SpG N (swTo lv a xs N i).2 k i
  | 0, _, _ => ⟨rfl, rfl, hd, by rw [show (swTo lv a xs N 0).2 = N from rfl, hl]; omega, fun j => rfl⟩
  | i + 1, hi, hk => by
    obtain ⟨h0, g⟩ := sp_to ha hx hd hl hs i (by omega) (by omega)
    have hs1 : srvD (swTo lv a xs N i).2 lv i = true := (srvD_congr g.n (g.f i)).trans (hs i (by omega))
    obtain ⟨s1, s2, s3⟩ := srvD_yes hs1
    have hne : (swTo lv a xs N i).2.left ≠ 0 := by rw [g.lf]; omega
    have hw := Bch.write_ok (N := (swTo lv a xs N i).2) (d := i) (k := a) (x := xs.getD i []) s1 ha (hx i (by omega)) s3 g.dn hne
    rw [swTo_goes h0 hs1]
    refine ⟨hw.1, ?_⟩
    show SpG N ((swTo lv a xs N i).2.write (i : Int) (a : Int) (xs.getD i [])) k (i + 1)
    refine ⟨(Bch.write_n _ _ _ _).trans g.n, ?_, ?_, fun j => (write_f _ _ _ _ j).trans (g.f j)⟩
    · rw [hw.2]; unfold Bch.count; rw [if_neg (by exact hne)]; exact g.dn
    · rw [hw.2]; unfold Bch.count; rw [if_neg (by exact hne)]
      show (if (swTo lv a xs N i).2.left = -1 then (-1 : Int) else (swTo lv a xs N i).2.left - 1) = _
      rw [if_neg (by rw [g.lf]; omega), g.lf]; omega
theorem sp_end {N : Bch} {lv : List Bool} {a D k : Nat} {xs : List (List UInt8)} (ha : a < 52) (hx : ∀ i, i < D → (xs.getD i []).length = 32) (hd : N.down = false) (hl : N.left = (k : Int)) (hs : ∀ i, i < D → srvD N lv i = true) (hk : k < D) : (swTo lv a xs N D).1 = 6 ∧ (swTo lv a xs N D).2.down = true ∧ (swTo lv a xs N D).2.n = N.n ∧ ∀ j, ((swTo lv a xs N D).2.D j).f = (N.D j).f := by
  obtain ⟨h0, g⟩ := sp_to ha hx hd hl hs k (by omega) (Nat.le_refl _)
  have hs1 : srvD (swTo lv a xs N k).2 lv k = true := (srvD_congr g.n (g.f k)).trans (hs k hk)
  obtain ⟨s1, s2, s3⟩ := srvD_yes hs1
  have hl0 : (swTo lv a xs N k).2.left = 0 := by rw [g.lf]; omega
  have hp : (swTo lv a xs N k).2.powE (k : Int) = 0 := Bch.powE_ok (Bch.pickE_ok (by omega) (by omega)) g.dn
  have ht : takeE ((swTo lv a xs N k).2.at_ (k : Int)).f (a : Int) (xs.getD k []).length = 0 := by
    rw [hx k hk, show ((swTo lv a xs N k).2.at_ (k : Int)).f = false from s3]; exact takeE_ok (by omega) (by omega)
  have e1 : (swTo lv a xs N (k + 1)).1 = 6 := by
    rw [swTo_goes h0 hs1]
    show (swTo lv a xs N k).2.writeE (k : Int) (a : Int) _ = 6
    unfold Bch.writeE Bch.countE
    rw [if_neg (by simp [hp]), if_neg (fun h => h ht), if_pos hl0]
  have e2 : (swTo lv a xs N (k + 1)).2 = { (swTo lv a xs N k).2 with down := true } := by
    rw [swTo_goes h0 hs1]
    show (swTo lv a xs N k).2.write (k : Int) (a : Int) _ = _
    unfold Bch.write
    rw [if_neg (by simp [hp]), if_neg (fun h => h ht), if_pos hl0]
    unfold Bch.count; rw [if_pos hl0]
  rw [swTo_stop (i := k + 1) (by rw [e1]; decide) D (by omega), e2]
  exact ⟨e1, rfl, g.n, g.f⟩
theorem ok5420 : plOk 5 4 2 0 = true := by decide
theorem limit4 {k : Nat} (hk : k < 4) {x : List UInt8} (hx : x.length = 32) : ∃ N1, swrS ((Bch.new 4).limit (k : Int)) [true, true, true, true] 5 4 2 0 [x, x, x] = (6, N1) ∧ N1.down = true ∧ N1.n = 4 ∧ (∀ i, i < 4 → srvD N1 [true, true, true, true] i = true) := by
  have hN : (Bch.new 4).limit (k : Int) = { Bch.new 4 with left := (k : Int) } := by
    unfold Bch.limit
    rw [if_neg (by decide), show max (k : Int) (-1) = (k : Int) by omega]
  rw [hN]
  have hall : ∀ y ∈ [x, x, x], y.length = 32 := fun y hy => by
    simp only [List.mem_cons, List.not_mem_nil, or_false] at hy
    rcases hy with rfl | rfl | rfl <;> exact hx
  have hok : fillOk 5 4 2 0 [x, x, x] = true := fillOk_mk ok5420 rfl hall
  have hs : ∀ i, i < 4 → srvD ({ Bch.new 4 with left := (k : Int) } : Bch) [true, true, true, true] i = true := fun i hi => srvD_mk hi (ones_lv hi) rfl
  obtain ⟨e1, e2, e3, e4⟩ := sp_end (N := { Bch.new 4 with left := (k : Int) }) (lv := [true, true, true, true]) (a := 36) (D := 4) (k := k) (xs := fillL (roD 4) (roF 5 4 2 0) [x, x, x]) (by omega) (fun i hi => fill_32 hok hi) rfl rfl hs hk
  refine ⟨(swTo [true, true, true, true] 36 (fillL (roD 4) (roF 5 4 2 0) [x, x, x]) { Bch.new 4 with left := (k : Int) } 4).2, ?_, e2, e3, fun i hi => ?_⟩
  · unfold swrS
    rw [if_neg (by rw [hok]; decide)]
    show swTo [true, true, true, true] 36 (fillL (roD 4) (roF 5 4 2 0) [x, x, x]) { Bch.new 4 with left := (k : Int) } 4 = _
    rw [← e1]
  · exact (srvD_congr e3 (e4 i)).trans (hs i hi)
theorem down_read {N : Bch} {lv : List Bool} (hd : N.down = true) (hs : ∀ i, i < 4 → srvD N lv i = true) : srdE N lv 5 4 2 0 = 6 ∧ srdL N lv 5 4 2 0 = [] := srdE_down ok5420 hd (anyS_yes (i := 0) (by show 0 < 4; omega) (hs 0 (by omega)))
theorem down_one {N : Bch} {lv : List Bool} (hd : N.down = true) (hs : ∀ i, i < 4 → srvD N lv i = true) : soneE N lv 5 4 2 0 = 6 ∧ soneB N lv 5 4 2 0 = [] := by
  obtain ⟨h1, h2⟩ := soneE_own (N := N) (lv := lv) (l := 5) (d := 4) (c := 2) (n := 0) (by decide) (by rw [show (plOfD 5 4 2 0).toNat = 0 from by decide]; exact hs 0 (by omega))
  rw [if_pos hd] at h1 h2
  exact ⟨h1, h2⟩
theorem down_flush {N : Bch} {lv : List Bool} (hd : N.down = true) (hn : N.n = 4) (hl : lv.getD 0 false = true) : (sflS N lv).1 = 6 := by
  have hw : (flF N 0).1 = 6 := by
    show N.flushE _ = 6
    have hp : N.powE ((0 : Nat) : Int) = 6 := Bch.powE_down (Bch.pickE_ok (by omega) (by omega)) hd
    unfold Bch.flushE; rw [if_pos (by rw [hp]; decide), hp]
  have h1 : (onTo flF lv N 1).1 = 6 := by
    rw [onTo_goes (i := 0) rfl hl (by rw [show (onTo flF lv N 0).2 = N from rfl, hw]; decide)]
    exact hw
  unfold sflS
  rw [onTo_stop (i := 1) (by rw [h1]; decide) _ (by omega)]
  exact h1
set_option maxRecDepth 100000 in
set_option maxHeartbeats 3200000 in
theorem seAb {W0 : World} {b gb gl gx gz : Nat} {z0 z1 : Int} {x : List UInt8} {j : Nat} {H : BH} {w : World} (u0 u1 u2 u4 u8 u9 u10 u11 u12 u13 u14 u15 u16 u17 u18 u19 u20 u21 u22 u23 u24 u25 u26 u27 u28 u29 u30 u31 u32 u33 u34 u35 u36 u37 u38 u39 u40 u41 u42 u43 u47 u48 u49 u50 u51 u52 u53 u54 u55 u56 u57 u58 u59 u60 u61 u62 u63 u64 u65 u66 u67 u68 u69 u70 u71 u72 u73 u74 u75 u76 u77 u78 u79 u80 u81 u82 u83 u84 u85 u86 u87 u88 u89 u90 u91 u92 u93 u94 u95 u96 u97 u98 u99 u100 u101 u102 u103 u104 u105 u106 u107 u108 u109 u110 u111 u112 u113 u114 u115 u116 u117 u118 u119 u120 u121 u122 u123 u124 u125 u126 u127 u128 u129 u130 u131 u132 u133 u134 u135 u136 u137 u138 u139 u140 u141 u142 u143 u144 u145 u146 u147 u148 u149 u150 u151 u152 u153 u154 u155 u156 u157 u158 u159 u160 u161 u162 u163 u164 u165 u166 u167 u168 u169 u170 u171 u172 u173 u174 u175 u176 u177 u178 u179 u180 u181 u182 u183 u184 u185 u186 u187 u188 u189 u190 u191 u192 u193 u194 u195 : Value) (K : Act → World → Prop) (Q0 : Exit → Act → World → Prop) (hx : x.length = 32) (hz0 : -1000 ≤ z0 ∧ z0 < 0) (hz1 : 16 ≤ z1 ∧ z1 ≤ 2000) (hI : (j ≤ 2 ∧ KS W0 w b H (Bch.new 4) [(gz, Obj.cells #[.int .i64 z0, .int .i64 z1] 3 (0, 0)), (gb, Obj.cells #[.int .i64 5, .int .i64 4, .int .i64 2] 24 (0, 0)), (gl, Obj.cells ([true, true, true, true].map Value.bool).toArray 4 (0, 0))] [] [(some ⟨gx, 0, none⟩, x)]))
    (hK : ∀ (v2 v9 v10 v11 v47 v48 v49 v50 v51 v52 v53 v54 v55 v56 v57 v58 v59 v60 v61 v62 v63 v64 v65 v66 v67 v68 v69 v70 v71 v72 : Value) (H2 : BH) (V : World), ((j + 1) ≤ 2 ∧ KS W0 V b H2 (Bch.new 4) [(gz, Obj.cells #[.int .i64 z0, .int .i64 z1] 3 (0, 0)), (gb, Obj.cells #[.int .i64 5, .int .i64 4, .int .i64 2] 24 (0, 0)), (gl, Obj.cells ([true, true, true, true].map Value.bool).toArray 4 (0, 0))] [] [(some ⟨gx, 0, none⟩, x)]) → 2 - (j + 1) < 2 - j → K ⟨List.toArray (u0 :: u1 :: v2 :: (.pointer (some ⟨b, 0, none⟩)) :: u4 :: (.slice (some ⟨gl, 0, none⟩) 4 4) :: (.pointer (some ⟨gb, 0, none⟩)) :: (.slice (some ⟨gx, 0, none⟩) 32 32) :: u8 :: v9 :: v10 :: v11 :: u12 :: u13 :: u14 :: u15 :: u16 :: u17 :: u18 :: u19 :: u20 :: u21 :: u22 :: u23 :: u24 :: u25 :: u26 :: u27 :: u28 :: u29 :: u30 :: u31 :: u32 :: u33 :: u34 :: u35 :: u36 :: u37 :: u38 :: u39 :: u40 :: u41 :: u42 :: u43 :: (.slice (some ⟨gz, 0, none⟩) 2 2) :: (.int .i64 2) :: (.int .i64 (((j + 1) : Nat) : Int)) :: v47 :: v48 :: v49 :: v50 :: v51 :: v52 :: v53 :: v54 :: v55 :: v56 :: v57 :: v58 :: v59 :: v60 :: v61 :: v62 :: v63 :: v64 :: v65 :: v66 :: v67 :: v68 :: v69 :: v70 :: v71 :: v72 :: u73 :: u74 :: u75 :: u76 :: u77 :: u78 :: u79 :: u80 :: u81 :: u82 :: u83 :: u84 :: u85 :: u86 :: u87 :: u88 :: u89 :: u90 :: u91 :: u92 :: u93 :: u94 :: u95 :: u96 :: u97 :: u98 :: u99 :: u100 :: u101 :: u102 :: u103 :: u104 :: u105 :: u106 :: u107 :: u108 :: u109 :: u110 :: u111 :: u112 :: u113 :: u114 :: u115 :: u116 :: u117 :: u118 :: u119 :: u120 :: u121 :: u122 :: u123 :: u124 :: u125 :: u126 :: u127 :: u128 :: u129 :: u130 :: u131 :: u132 :: u133 :: u134 :: u135 :: u136 :: u137 :: u138 :: u139 :: u140 :: u141 :: u142 :: u143 :: u144 :: u145 :: u146 :: u147 :: u148 :: u149 :: u150 :: u151 :: u152 :: u153 :: u154 :: u155 :: u156 :: u157 :: u158 :: u159 :: u160 :: u161 :: u162 :: u163 :: u164 :: u165 :: u166 :: u167 :: u168 :: u169 :: u170 :: u171 :: u172 :: u173 :: u174 :: u175 :: u176 :: u177 :: u178 :: u179 :: u180 :: u181 :: u182 :: u183 :: u184 :: u185 :: u186 :: u187 :: u188 :: u189 :: u190 :: u191 :: u192 :: u193 :: u194 :: u195 :: []), []⟩ V)
    (hX : ∀ (v2 v9 v10 v11 v47 v48 v49 v50 v51 v52 v53 v54 v55 v56 v57 v58 v59 v60 v61 v62 v63 v64 v65 v66 v67 v68 v69 v70 v71 v72 : Value), (True) → Q0 (.exit 0) ⟨List.toArray (u0 :: u1 :: v2 :: (.pointer (some ⟨b, 0, none⟩)) :: u4 :: (.slice (some ⟨gl, 0, none⟩) 4 4) :: (.pointer (some ⟨gb, 0, none⟩)) :: (.slice (some ⟨gx, 0, none⟩) 32 32) :: u8 :: v9 :: v10 :: v11 :: u12 :: u13 :: u14 :: u15 :: u16 :: u17 :: u18 :: u19 :: u20 :: u21 :: u22 :: u23 :: u24 :: u25 :: u26 :: u27 :: u28 :: u29 :: u30 :: u31 :: u32 :: u33 :: u34 :: u35 :: u36 :: u37 :: u38 :: u39 :: u40 :: u41 :: u42 :: u43 :: (.slice (some ⟨gz, 0, none⟩) 2 2) :: (.int .i64 2) :: (.int .i64 ((j : Nat) : Int)) :: v47 :: v48 :: v49 :: v50 :: v51 :: v52 :: v53 :: v54 :: v55 :: v56 :: v57 :: v58 :: v59 :: v60 :: v61 :: v62 :: v63 :: v64 :: v65 :: v66 :: v67 :: v68 :: v69 :: v70 :: v71 :: v72 :: u73 :: u74 :: u75 :: u76 :: u77 :: u78 :: u79 :: u80 :: u81 :: u82 :: u83 :: u84 :: u85 :: u86 :: u87 :: u88 :: u89 :: u90 :: u91 :: u92 :: u93 :: u94 :: u95 :: u96 :: u97 :: u98 :: u99 :: u100 :: u101 :: u102 :: u103 :: u104 :: u105 :: u106 :: u107 :: u108 :: u109 :: u110 :: u111 :: u112 :: u113 :: u114 :: u115 :: u116 :: u117 :: u118 :: u119 :: u120 :: u121 :: u122 :: u123 :: u124 :: u125 :: u126 :: u127 :: u128 :: u129 :: u130 :: u131 :: u132 :: u133 :: u134 :: u135 :: u136 :: u137 :: u138 :: u139 :: u140 :: u141 :: u142 :: u143 :: u144 :: u145 :: u146 :: u147 :: u148 :: u149 :: u150 :: u151 :: u152 :: u153 :: u154 :: u155 :: u156 :: u157 :: u158 :: u159 :: u160 :: u161 :: u162 :: u163 :: u164 :: u165 :: u166 :: u167 :: u168 :: u169 :: u170 :: u171 :: u172 :: u173 :: u174 :: u175 :: u176 :: u177 :: u178 :: u179 :: u180 :: u181 :: u182 :: u183 :: u184 :: u185 :: u186 :: u187 :: u188 :: u189 :: u190 :: u191 :: u192 :: u193 :: u194 :: u195 :: []), []⟩ w) :
    Code.wp Try.prog (sub [1, 1, 1, 1, 1, 1, 1, 0, 1, 0, 0] codeSE) (Exit.then K Q0) ⟨List.toArray (u0 :: u1 :: u2 :: (.pointer (some ⟨b, 0, none⟩)) :: u4 :: (.slice (some ⟨gl, 0, none⟩) 4 4) :: (.pointer (some ⟨gb, 0, none⟩)) :: (.slice (some ⟨gx, 0, none⟩) 32 32) :: u8 :: u9 :: u10 :: u11 :: u12 :: u13 :: u14 :: u15 :: u16 :: u17 :: u18 :: u19 :: u20 :: u21 :: u22 :: u23 :: u24 :: u25 :: u26 :: u27 :: u28 :: u29 :: u30 :: u31 :: u32 :: u33 :: u34 :: u35 :: u36 :: u37 :: u38 :: u39 :: u40 :: u41 :: u42 :: u43 :: (.slice (some ⟨gz, 0, none⟩) 2 2) :: (.int .i64 2) :: (.int .i64 ((j : Nat) : Int)) :: u47 :: u48 :: u49 :: u50 :: u51 :: u52 :: u53 :: u54 :: u55 :: u56 :: u57 :: u58 :: u59 :: u60 :: u61 :: u62 :: u63 :: u64 :: u65 :: u66 :: u67 :: u68 :: u69 :: u70 :: u71 :: u72 :: u73 :: u74 :: u75 :: u76 :: u77 :: u78 :: u79 :: u80 :: u81 :: u82 :: u83 :: u84 :: u85 :: u86 :: u87 :: u88 :: u89 :: u90 :: u91 :: u92 :: u93 :: u94 :: u95 :: u96 :: u97 :: u98 :: u99 :: u100 :: u101 :: u102 :: u103 :: u104 :: u105 :: u106 :: u107 :: u108 :: u109 :: u110 :: u111 :: u112 :: u113 :: u114 :: u115 :: u116 :: u117 :: u118 :: u119 :: u120 :: u121 :: u122 :: u123 :: u124 :: u125 :: u126 :: u127 :: u128 :: u129 :: u130 :: u131 :: u132 :: u133 :: u134 :: u135 :: u136 :: u137 :: u138 :: u139 :: u140 :: u141 :: u142 :: u143 :: u144 :: u145 :: u146 :: u147 :: u148 :: u149 :: u150 :: u151 :: u152 :: u153 :: u154 :: u155 :: u156 :: u157 :: u158 :: u159 :: u160 :: u161 :: u162 :: u163 :: u164 :: u165 :: u166 :: u167 :: u168 :: u169 :: u170 :: u171 :: u172 :: u173 :: u174 :: u175 :: u176 :: u177 :: u178 :: u179 :: u180 :: u181 :: u182 :: u183 :: u184 :: u185 :: u186 :: u187 :: u188 :: u189 :: u190 :: u191 :: u192 :: u193 :: u194 :: u195 :: []), []⟩ w := by
  have HK := Lib.hid hK
  have HX := Lib.hid hX
  clear hK hX
  conv => arg 2; whnf
  obtain ⟨hj, hk⟩ := hI
  have Hk := Lib.hid hk
  by_cases hlt : j < 2
  · have i0 : (0 : Int) ≤ (j : Int) := by omega
    have i1 : (j : Int) < 2 := by omega
    obtain ⟨z, hzc, hzn, hz64⟩ : ∃ z : Int, w.cell? ⟨gz, j, none⟩ = some (.int .i64 z) ∧ plOk 5 4 2 z = false ∧ (-9223372036854775808 ≤ z ∧ z ≤ 9223372036854775807) := by
      have hc := (hk.kx.kp _ (List.mem_cons_self ..)).1
      rcases (show j = 0 ∨ j = 1 by omega) with rfl | rfl
      · exact ⟨z0, cell_of_row w gz 0 _ _ _ hc, plOk_no (by omega), by omega⟩
      · exact ⟨z1, cell_of_row w gz 1 _ _ _ hc, plOk_no (by omega), by omega⟩
    obtain ⟨g1, g2, g3⟩ := hk.gat (g := gb) (l := 5) (d := 4) (c := 2) (t := 24) (f := (0, 0)) (by simp)
    have CR := ks_read hk [true, true, true, true] (some ⟨gl, 0, none⟩) 4 4 rfl (hk.lv (g := gl) (t := 4) (f := (0, 0)) (lv := [true, true, true, true]) (by simp) rfl (by simp)) 5 4 2 z (by omega) (by omega) (by omega) hz64
    obtain ⟨e1, e2⟩ := srdE_bad (N := Bch.new 4) (lv := [true, true, true, true]) hzn
    rw [e1, e2] at CR
    have CR := Lib.hid CR
    have hno := fillOk_false (rs := [x, x, x]) (l := 5) (d := 4) (c := 2) (r := z) (fun h => by rw [hzn] at h; cases h.1)
    have Hno := Lib.hid hno
    clear hk e1 e2 HX hno hzn hz0 hz1
    go_wp2_with fail
    (with_reducible refine CR.out.mono ?_); rintro e w1 ⟨A1, c1, rfl, k1, _⟩
    obtain ⟨g4, g5, g6⟩ := k1.gat (g := gb) (l := 5) (d := 4) (c := 2) (t := 24) (f := (0, 0)) (by simp)
    have ka := k1.add (.cells #[.slice (some ⟨gx, 0, none⟩) 32 32, .slice (some ⟨gx, 0, none⟩) 32 32, .slice (some ⟨gx, 0, none⟩) 32 32] 46)
    have hrd : RdR (w1.alloc (.cells #[.slice (some ⟨gx, 0, none⟩) 32 32, .slice (some ⟨gx, 0, none⟩) 32 32, .slice (some ⟨gx, 0, none⟩) 32 32] 46)) (w1.alloc (.cells #[.slice (some ⟨gx, 0, none⟩) 32 32, .slice (some ⟨gx, 0, none⟩) 32 32, .slice (some ⟨gx, 0, none⟩) 32 32] 46)).heap.size (some ⟨w1.heap.size, 0, none⟩) [x, x, x] := rdr_rep (c := 32) (t := 46) (f := (0, 0)) 3 hx.symm (by omega) (k1.sl (A := some ⟨gx, 0, none⟩) (bs := x) (by simp))
    have CW := Lib.hid (ks_refused ka [true, true, true, true] (some ⟨gl, 0, none⟩) 4 4 rfl (ka.lv (g := gl) (t := 4) (f := (0, 0)) (lv := [true, true, true, true]) (by simp) rfl (by simp)) (some ⟨w1.heap.size, 0, none⟩) [x, x, x] 3 3 rfl (by omega) hrd 5 4 2 z (by omega) (by omega) (by omega) hz64 (fun i hi => Nat.zero_le _) (Nat.zero_le _) Hno.out)
    clear k1 ka hrd g1 g2 g3 CR
    have hlz : ([] : List (List UInt8)).length = 0 := rfl
    go_wp2_with fail
    (with_reducible refine CW.out.mono ?_); rintro e w2 ⟨rfl, H2, k2⟩
    have K2 := Lib.hid (k2.less (K' := [(gz, Obj.cells #[.int .i64 z0, .int .i64 z1] 3 (0, 0)), (gb, Obj.cells #[.int .i64 5, .int .i64 4, .int .i64 2] 24 (0, 0)), (gl, Obj.cells ([true, true, true, true].map Value.bool).toArray 4 (0, 0))]) (R' := []) (S' := [(some ⟨gx, 0, none⟩, x)]) (fun _ h => List.mem_cons_of_mem _ h) (fun _ h => absurd h (by simp)) (fun _ h => h))
    clear k2
    go_wp2_with fail
    exact HK.out _ _ _ _ _ _ _ _ _ _ _ _ _ _ _ _ _ _ _ _ _ _ _ _ _ _ _ _ _ _ H2 _ ⟨by omega, K2.out⟩ (by omega)
  · have i1 : ¬ (j : Int) < 2 := by omega
    clear HK hk
    go_wp2_with fail
    exact HX.out _ _ _ _ _ _ _ _ _ _ _ _ _ _ _ _ _ _ _ _ _ _ _ _ _ _ _ _ _ _ (by trivial)
set_option maxRecDepth 100000 in
set_option maxHeartbeats 3200000 in
theorem seA {W0 : World} {b gb gl gx gz : Nat} {z0 z1 : Int} {x : List UInt8} {H0 : BH} {w : World} (u0 u1 u2 u4 u8 u9 u10 u11 u12 u13 u14 u15 u16 u17 u18 u19 u20 u21 u22 u23 u24 u25 u26 u27 u28 u29 u30 u31 u32 u33 u34 u35 u36 u37 u38 u39 u40 u41 u42 u43 u47 u48 u49 u50 u51 u52 u53 u54 u55 u56 u57 u58 u59 u60 u61 u62 u63 u64 u65 u66 u67 u68 u69 u70 u71 u72 u73 u74 u75 u76 u77 u78 u79 u80 u81 u82 u83 u84 u85 u86 u87 u88 u89 u90 u91 u92 u93 u94 u95 u96 u97 u98 u99 u100 u101 u102 u103 u104 u105 u106 u107 u108 u109 u110 u111 u112 u113 u114 u115 u116 u117 u118 u119 u120 u121 u122 u123 u124 u125 u126 u127 u128 u129 u130 u131 u132 u133 u134 u135 u136 u137 u138 u139 u140 u141 u142 u143 u144 u145 u146 u147 u148 u149 u150 u151 u152 u153 u154 u155 u156 u157 u158 u159 u160 u161 u162 u163 u164 u165 u166 u167 u168 u169 u170 u171 u172 u173 u174 u175 u176 u177 u178 u179 u180 u181 u182 u183 u184 u185 u186 u187 u188 u189 u190 u191 u192 u193 u194 u195 : Value) (Q : Exit → Act → World → Prop) (hx : x.length = 32) (hz0 : -1000 ≤ z0 ∧ z0 < 0) (hz1 : 16 ≤ z1 ∧ z1 ≤ 2000) (hI : (0 ≤ 2 ∧ KS W0 w b H0 (Bch.new 4) [(gz, Obj.cells #[.int .i64 z0, .int .i64 z1] 3 (0, 0)), (gb, Obj.cells #[.int .i64 5, .int .i64 4, .int .i64 2] 24 (0, 0)), (gl, Obj.cells ([true, true, true, true].map Value.bool).toArray 4 (0, 0))] [] [(some ⟨gx, 0, none⟩, x)]))
    (hX : ∀ (v2 v9 v10 v11 v47 v48 v49 v50 v51 v52 v53 v54 v55 v56 v57 v58 v59 v60 v61 v62 v63 v64 v65 v66 v67 v68 v69 v70 v71 v72 : Value) (j : Nat) (H : BH) (V : World), (j ≤ 2 ∧ KS W0 V b H (Bch.new 4) [(gz, Obj.cells #[.int .i64 z0, .int .i64 z1] 3 (0, 0)), (gb, Obj.cells #[.int .i64 5, .int .i64 4, .int .i64 2] 24 (0, 0)), (gl, Obj.cells ([true, true, true, true].map Value.bool).toArray 4 (0, 0))] [] [(some ⟨gx, 0, none⟩, x)]) → (True) → Q (.exit 0) ⟨List.toArray (u0 :: u1 :: v2 :: (.pointer (some ⟨b, 0, none⟩)) :: u4 :: (.slice (some ⟨gl, 0, none⟩) 4 4) :: (.pointer (some ⟨gb, 0, none⟩)) :: (.slice (some ⟨gx, 0, none⟩) 32 32) :: u8 :: v9 :: v10 :: v11 :: u12 :: u13 :: u14 :: u15 :: u16 :: u17 :: u18 :: u19 :: u20 :: u21 :: u22 :: u23 :: u24 :: u25 :: u26 :: u27 :: u28 :: u29 :: u30 :: u31 :: u32 :: u33 :: u34 :: u35 :: u36 :: u37 :: u38 :: u39 :: u40 :: u41 :: u42 :: u43 :: (.slice (some ⟨gz, 0, none⟩) 2 2) :: (.int .i64 2) :: (.int .i64 ((j : Nat) : Int)) :: v47 :: v48 :: v49 :: v50 :: v51 :: v52 :: v53 :: v54 :: v55 :: v56 :: v57 :: v58 :: v59 :: v60 :: v61 :: v62 :: v63 :: v64 :: v65 :: v66 :: v67 :: v68 :: v69 :: v70 :: v71 :: v72 :: u73 :: u74 :: u75 :: u76 :: u77 :: u78 :: u79 :: u80 :: u81 :: u82 :: u83 :: u84 :: u85 :: u86 :: u87 :: u88 :: u89 :: u90 :: u91 :: u92 :: u93 :: u94 :: u95 :: u96 :: u97 :: u98 :: u99 :: u100 :: u101 :: u102 :: u103 :: u104 :: u105 :: u106 :: u107 :: u108 :: u109 :: u110 :: u111 :: u112 :: u113 :: u114 :: u115 :: u116 :: u117 :: u118 :: u119 :: u120 :: u121 :: u122 :: u123 :: u124 :: u125 :: u126 :: u127 :: u128 :: u129 :: u130 :: u131 :: u132 :: u133 :: u134 :: u135 :: u136 :: u137 :: u138 :: u139 :: u140 :: u141 :: u142 :: u143 :: u144 :: u145 :: u146 :: u147 :: u148 :: u149 :: u150 :: u151 :: u152 :: u153 :: u154 :: u155 :: u156 :: u157 :: u158 :: u159 :: u160 :: u161 :: u162 :: u163 :: u164 :: u165 :: u166 :: u167 :: u168 :: u169 :: u170 :: u171 :: u172 :: u173 :: u174 :: u175 :: u176 :: u177 :: u178 :: u179 :: u180 :: u181 :: u182 :: u183 :: u184 :: u185 :: u186 :: u187 :: u188 :: u189 :: u190 :: u191 :: u192 :: u193 :: u194 :: u195 :: []), []⟩ V) :
    Code.wp Try.prog (.loop (sub [1, 1, 1, 1, 1, 1, 1, 0, 1, 0, 0] codeSE)) Q ⟨List.toArray (u0 :: u1 :: u2 :: (.pointer (some ⟨b, 0, none⟩)) :: u4 :: (.slice (some ⟨gl, 0, none⟩) 4 4) :: (.pointer (some ⟨gb, 0, none⟩)) :: (.slice (some ⟨gx, 0, none⟩) 32 32) :: u8 :: u9 :: u10 :: u11 :: u12 :: u13 :: u14 :: u15 :: u16 :: u17 :: u18 :: u19 :: u20 :: u21 :: u22 :: u23 :: u24 :: u25 :: u26 :: u27 :: u28 :: u29 :: u30 :: u31 :: u32 :: u33 :: u34 :: u35 :: u36 :: u37 :: u38 :: u39 :: u40 :: u41 :: u42 :: u43 :: (.slice (some ⟨gz, 0, none⟩) 2 2) :: (.int .i64 2) :: (.int .i64 ((0 : Nat) : Int)) :: u47 :: u48 :: u49 :: u50 :: u51 :: u52 :: u53 :: u54 :: u55 :: u56 :: u57 :: u58 :: u59 :: u60 :: u61 :: u62 :: u63 :: u64 :: u65 :: u66 :: u67 :: u68 :: u69 :: u70 :: u71 :: u72 :: u73 :: u74 :: u75 :: u76 :: u77 :: u78 :: u79 :: u80 :: u81 :: u82 :: u83 :: u84 :: u85 :: u86 :: u87 :: u88 :: u89 :: u90 :: u91 :: u92 :: u93 :: u94 :: u95 :: u96 :: u97 :: u98 :: u99 :: u100 :: u101 :: u102 :: u103 :: u104 :: u105 :: u106 :: u107 :: u108 :: u109 :: u110 :: u111 :: u112 :: u113 :: u114 :: u115 :: u116 :: u117 :: u118 :: u119 :: u120 :: u121 :: u122 :: u123 :: u124 :: u125 :: u126 :: u127 :: u128 :: u129 :: u130 :: u131 :: u132 :: u133 :: u134 :: u135 :: u136 :: u137 :: u138 :: u139 :: u140 :: u141 :: u142 :: u143 :: u144 :: u145 :: u146 :: u147 :: u148 :: u149 :: u150 :: u151 :: u152 :: u153 :: u154 :: u155 :: u156 :: u157 :: u158 :: u159 :: u160 :: u161 :: u162 :: u163 :: u164 :: u165 :: u166 :: u167 :: u168 :: u169 :: u170 :: u171 :: u172 :: u173 :: u174 :: u175 :: u176 :: u177 :: u178 :: u179 :: u180 :: u181 :: u182 :: u183 :: u184 :: u185 :: u186 :: u187 :: u188 :: u189 :: u190 :: u191 :: u192 :: u193 :: u194 :: u195 :: []), []⟩ w := by
  refine wp_loop_ghost (fun gk a V => ∀ C : Prop, (∀ (u2 u9 u10 u11 u47 u48 u49 u50 u51 u52 u53 u54 u55 u56 u57 u58 u59 u60 u61 u62 u63 u64 u65 u66 u67 u68 u69 u70 u71 u72 : Value) (j : Nat) (H : BH), gk = 2 - j → (j ≤ 2 ∧ KS W0 V b H (Bch.new 4) [(gz, Obj.cells #[.int .i64 z0, .int .i64 z1] 3 (0, 0)), (gb, Obj.cells #[.int .i64 5, .int .i64 4, .int .i64 2] 24 (0, 0)), (gl, Obj.cells ([true, true, true, true].map Value.bool).toArray 4 (0, 0))] [] [(some ⟨gx, 0, none⟩, x)]) → a = ⟨List.toArray (u0 :: u1 :: u2 :: (.pointer (some ⟨b, 0, none⟩)) :: u4 :: (.slice (some ⟨gl, 0, none⟩) 4 4) :: (.pointer (some ⟨gb, 0, none⟩)) :: (.slice (some ⟨gx, 0, none⟩) 32 32) :: u8 :: u9 :: u10 :: u11 :: u12 :: u13 :: u14 :: u15 :: u16 :: u17 :: u18 :: u19 :: u20 :: u21 :: u22 :: u23 :: u24 :: u25 :: u26 :: u27 :: u28 :: u29 :: u30 :: u31 :: u32 :: u33 :: u34 :: u35 :: u36 :: u37 :: u38 :: u39 :: u40 :: u41 :: u42 :: u43 :: (.slice (some ⟨gz, 0, none⟩) 2 2) :: (.int .i64 2) :: (.int .i64 ((j : Nat) : Int)) :: u47 :: u48 :: u49 :: u50 :: u51 :: u52 :: u53 :: u54 :: u55 :: u56 :: u57 :: u58 :: u59 :: u60 :: u61 :: u62 :: u63 :: u64 :: u65 :: u66 :: u67 :: u68 :: u69 :: u70 :: u71 :: u72 :: u73 :: u74 :: u75 :: u76 :: u77 :: u78 :: u79 :: u80 :: u81 :: u82 :: u83 :: u84 :: u85 :: u86 :: u87 :: u88 :: u89 :: u90 :: u91 :: u92 :: u93 :: u94 :: u95 :: u96 :: u97 :: u98 :: u99 :: u100 :: u101 :: u102 :: u103 :: u104 :: u105 :: u106 :: u107 :: u108 :: u109 :: u110 :: u111 :: u112 :: u113 :: u114 :: u115 :: u116 :: u117 :: u118 :: u119 :: u120 :: u121 :: u122 :: u123 :: u124 :: u125 :: u126 :: u127 :: u128 :: u129 :: u130 :: u131 :: u132 :: u133 :: u134 :: u135 :: u136 :: u137 :: u138 :: u139 :: u140 :: u141 :: u142 :: u143 :: u144 :: u145 :: u146 :: u147 :: u148 :: u149 :: u150 :: u151 :: u152 :: u153 :: u154 :: u155 :: u156 :: u157 :: u158 :: u159 :: u160 :: u161 :: u162 :: u163 :: u164 :: u165 :: u166 :: u167 :: u168 :: u169 :: u170 :: u171 :: u172 :: u173 :: u174 :: u175 :: u176 :: u177 :: u178 :: u179 :: u180 :: u181 :: u182 :: u183 :: u184 :: u185 :: u186 :: u187 :: u188 :: u189 :: u190 :: u191 :: u192 :: u193 :: u194 :: u195 :: []), []⟩ → C) → C) (2 - 0) ?_ ?_
  · intro C hC
    exact hC _ _ _ _ _ _ _ _ _ _ _ _ _ _ _ _ _ _ _ _ _ _ _ _ _ _ _ _ _ _ (0) (H0) rfl hI rfl
  · intro gk a V hI'
    refine hI' _ ?_
    intro u2 u9 u10 u11 u47 u48 u49 u50 u51 u52 u53 u54 u55 u56 u57 u58 u59 u60 u61 u62 u63 u64 u65 u66 u67 u68 u69 u70 u71 u72 j H hk hinv ha
    subst ha
    subst hk
    refine seAb _ _ _ _ _ _ _ _ _ _ _ _ _ _ _ _ _ _ _ _ _ _ _ _ _ _ _ _ _ _ _ _ _ _ _ _ _ _ _ _ _ _ _ _ _ _ _ _ _ _ _ _ _ _ _ _ _ _ _ _ _ _ _ _ _ _ _ _ _ _ _ _ _ _ _ _ _ _ _ _ _ _ _ _ _ _ _ _ _ _ _ _ _ _ _ _ _ _ _ _ _ _ _ _ _ _ _ _ _ _ _ _ _ _ _ _ _ _ _ _ _ _ _ _ _ _ _ _ _ _ _ _ _ _ _ _ _ _ _ _ _ _ _ _ _ _ _ _ _ _ _ _ _ _ _ _ _ _ _ _ _ _ _ _ _ _ _ _ _ _ _ _ _ _ _ _ _ _ _ _ _ _ _ _ _ _ _ _ _ _ _ hx hz0 hz1 hinv (fun v2 v9 v10 v11 v47 v48 v49 v50 v51 v52 v53 v54 v55 v56 v57 v58 v59 v60 v61 v62 v63 v64 v65 v66 v67 v68 v69 v70 v71 v72 H2 V2 h2 hm => ?_) (fun v2 v9 v10 v11 v47 v48 v49 v50 v51 v52 v53 v54 v55 v56 v57 v58 v59 v60 v61 v62 v63 v64 v65 v66 v67 v68 v69 v70 v71 v72 hx => hX v2 v9 v10 v11 v47 v48 v49 v50 v51 v52 v53 v54 v55 v56 v57 v58 v59 v60 v61 v62 v63 v64 v65 v66 v67 v68 v69 v70 v71 v72 j H V hinv hx)
    refine ⟨_, hm, fun C hC => ?_⟩
    exact hC v2 v9 v10 v11 v47 v48 v49 v50 v51 v52 v53 v54 v55 v56 v57 v58 v59 v60 v61 v62 v63 v64 v65 v66 v67 v68 v69 v70 v71 v72 ((j + 1)) (H2) rfl h2 rfl
end Go.Proofs.Ytadfimimkkimmaa
end
