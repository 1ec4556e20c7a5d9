/- RowForms walked. -/
import Derived.Test.YtbojmofkhkegmaaRowFormsLoop
set_option linter.unusedVariables false
set_option linter.unusedSimpArgs false
namespace Go.Proofs.Ytbojmofkhkegmaa
open Go.RowKit

theorem wrap64_bd (x : Int) : -9223372036854775808 ≤ wrap64 x ∧ wrap64 x ≤ 9223372036854775807 := by unfold wrap64; omega
theorem rdr_rows4 {w : World} {g : Nat} {A0 A1 A2 A3 : Option Addr} {c0 c1 c2 c3 : Nat} {b0 b1 b2 b3 : List UInt8} {t : TypeId} {f : Nat × Nat} (hg : w.heap[g]? = some (.cells #[.slice A0 b0.length c0, .slice A1 b1.length c1, .slice A2 b2.length c2, .slice A3 b3.length c3] t f))
    (h0 : RdB w w.heap.size A0 b0) (h1 : RdB w w.heap.size A1 b1) (h2 : RdB w w.heap.size A2 b2) (h3 : RdB w w.heap.size A3 b3) : RdR w w.heap.size (some ⟨g, 0, none⟩) [b0, b1, b2, b3] :=
  rdr_cells hg (Array.getElem?_eq_some_iff.1 hg).1 (by simp) fun k hk => by
    match k, hk with
    | 0, _ => exact ⟨A0, c0, rfl, h0⟩
    | 1, _ => exact ⟨A1, c1, rfl, h1⟩
    | 2, _ => exact ⟨A2, c2, rfl, h2⟩
    | 3, _ => exact ⟨A3, c3, rfl, h3⟩
theorem made2 (w : World) : OwB 5 ((w.alloc (.cells (zcells 32) 5)).alloc (.cells (zcells 32) 5)) w.heap.size (.slice (some ⟨w.heap.size, 0, none⟩) 32 32) (zeroL 32) ∧ OwB 5 ((w.alloc (.cells (zcells 32) 5)).alloc (.cells (zcells 32) 5)) w.heap.size (.slice (some ⟨w.heap.size + 1, 0, none⟩) 32 32) (zeroL 32) ∧ Below w.heap.size w ((w.alloc (.cells (zcells 32) 5)).alloc (.cells (zcells 32) 5)) := by
  have h1 := own_make 5 w 32 (by omega)
  have h2 := own_make 5 (w.alloc (.cells (zcells 32) 5)) 32 (by omega)
  refine ⟨h1.below (below1 _ _), ?_, below2 w _ _⟩
  have e : (w.alloc (.cells (zcells 32) 5)).heap.size = w.heap.size + 1 := by simp
  rw [e] at h2
  exact h2.le (by omega)
theorem forms_tab {V : World} {ga gb gp gq : Nat} {sa sb : List UInt8} (hal : sa.length = 32) (hbl : sb.length = 32) (ha : RdB V V.heap.size (some ⟨ga, 0, none⟩) sa) (hb : RdB V V.heap.size (some ⟨gb, 0, none⟩) sb) (hp : RdB V V.heap.size (some ⟨gp, 0, none⟩) (pB [sa, sb])) (hq : RdB V V.heap.size (some ⟨gq, 0, none⟩) (qB [sa, sb])) (hpl : (pB [sa, sb]).length = 32) (hql : (qB [sa, sb]).length = 32) :
    ∀ r : Nat, r < 2 → ∃ Aw cw, (((V.alloc (.cells #[.slice (some ⟨gq, 0, none⟩) 32 32, .slice (some ⟨ga, 0, none⟩) 32 32, .slice (some ⟨gb, 0, none⟩) 32 32, .slice (some ⟨gp, 0, none⟩) 32 32] 24)).alloc (.cells #[.slice (some ⟨ga, 0, none⟩) 32 32, .slice (some ⟨gb, 0, none⟩) 32 32, .slice (some ⟨gp, 0, none⟩) 32 32, .slice (some ⟨gq, 0, none⟩) 32 32] 24)).alloc (.cells #[.slice (some ⟨V.heap.size, 0, none⟩) 4 4, .slice (some ⟨V.heap.size + 1, 0, none⟩) 4 4] 27)).cell? ⟨V.heap.size + 2, r, none⟩ = some (.slice Aw 4 cw) ∧ RdR (((V.alloc (.cells #[.slice (some ⟨gq, 0, none⟩) 32 32, .slice (some ⟨ga, 0, none⟩) 32 32, .slice (some ⟨gb, 0, none⟩) 32 32, .slice (some ⟨gp, 0, none⟩) 32 32] 24)).alloc (.cells #[.slice (some ⟨ga, 0, none⟩) 32 32, .slice (some ⟨gb, 0, none⟩) 32 32, .slice (some ⟨gp, 0, none⟩) 32 32, .slice (some ⟨gq, 0, none⟩) 32 32] 24)).alloc (.cells #[.slice (some ⟨V.heap.size, 0, none⟩) 4 4, .slice (some ⟨V.heap.size + 1, 0, none⟩) 4 4] 27)) (((V.alloc (.cells #[.slice (some ⟨gq, 0, none⟩) 32 32, .slice (some ⟨ga, 0, none⟩) 32 32, .slice (some ⟨gb, 0, none⟩) 32 32, .slice (some ⟨gp, 0, none⟩) 32 32] 24)).alloc (.cells #[.slice (some ⟨ga, 0, none⟩) 32 32, .slice (some ⟨gb, 0, none⟩) 32 32, .slice (some ⟨gp, 0, none⟩) 32 32, .slice (some ⟨gq, 0, none⟩) 32 32] 24)).alloc (.cells #[.slice (some ⟨V.heap.size, 0, none⟩) 4 4, .slice (some ⟨V.heap.size + 1, 0, none⟩) 4 4] 27)).heap.size Aw (fillL 4 (roF 6 4 1 (r : Int)) [sa, sb]) := fun r hr => by
  have B := below3 V (.cells #[.slice (some ⟨gq, 0, none⟩) 32 32, .slice (some ⟨ga, 0, none⟩) 32 32, .slice (some ⟨gb, 0, none⟩) 32 32, .slice (some ⟨gp, 0, none⟩) 32 32] 24) (.cells #[.slice (some ⟨ga, 0, none⟩) 32 32, .slice (some ⟨gb, 0, none⟩) 32 32, .slice (some ⟨gp, 0, none⟩) 32 32, .slice (some ⟨gq, 0, none⟩) 32 32] 24) (.cells #[.slice (some ⟨V.heap.size, 0, none⟩) 4 4, .slice (some ⟨V.heap.size + 1, 0, none⟩) 4 4] 27)
  have r1 := (ha.below B (Nat.le_refl _)).more B.size
  have r2 := (hb.below B (Nat.le_refl _)).more B.size
  have r3 := (hp.below B (Nat.le_refl _)).more B.size
  have r4 := (hq.below B (Nat.le_refl _)).more B.size
  have h1 : (((V.alloc (.cells #[.slice (some ⟨gq, 0, none⟩) 32 32, .slice (some ⟨ga, 0, none⟩) 32 32, .slice (some ⟨gb, 0, none⟩) 32 32, .slice (some ⟨gp, 0, none⟩) 32 32] 24)).alloc (.cells #[.slice (some ⟨ga, 0, none⟩) 32 32, .slice (some ⟨gb, 0, none⟩) 32 32, .slice (some ⟨gp, 0, none⟩) 32 32, .slice (some ⟨gq, 0, none⟩) 32 32] 24)).alloc (.cells #[.slice (some ⟨V.heap.size, 0, none⟩) 4 4, .slice (some ⟨V.heap.size + 1, 0, none⟩) 4 4] 27)).heap[V.heap.size]? = some (.cells #[.slice (some ⟨gq, 0, none⟩) 32 32, .slice (some ⟨ga, 0, none⟩) 32 32, .slice (some ⟨gb, 0, none⟩) 32 32, .slice (some ⟨gp, 0, none⟩) 32 32] 24) := by
    rw [hp_old _ _ _ (by simp; omega), hp_old _ _ _ (by simp)]; exact hp_new _ _ _ rfl
  have h2 : (((V.alloc (.cells #[.slice (some ⟨gq, 0, none⟩) 32 32, .slice (some ⟨ga, 0, none⟩) 32 32, .slice (some ⟨gb, 0, none⟩) 32 32, .slice (some ⟨gp, 0, none⟩) 32 32] 24)).alloc (.cells #[.slice (some ⟨ga, 0, none⟩) 32 32, .slice (some ⟨gb, 0, none⟩) 32 32, .slice (some ⟨gp, 0, none⟩) 32 32, .slice (some ⟨gq, 0, none⟩) 32 32] 24)).alloc (.cells #[.slice (some ⟨V.heap.size, 0, none⟩) 4 4, .slice (some ⟨V.heap.size + 1, 0, none⟩) 4 4] 27)).heap[V.heap.size + 1]? = some (.cells #[.slice (some ⟨ga, 0, none⟩) 32 32, .slice (some ⟨gb, 0, none⟩) 32 32, .slice (some ⟨gp, 0, none⟩) 32 32, .slice (some ⟨gq, 0, none⟩) 32 32] 24) := by
    rw [hp_old _ _ _ (by simp)]; exact hp_new _ _ _ (by simp)
  have h3 : (((V.alloc (.cells #[.slice (some ⟨gq, 0, none⟩) 32 32, .slice (some ⟨ga, 0, none⟩) 32 32, .slice (some ⟨gb, 0, none⟩) 32 32, .slice (some ⟨gp, 0, none⟩) 32 32] 24)).alloc (.cells #[.slice (some ⟨ga, 0, none⟩) 32 32, .slice (some ⟨gb, 0, none⟩) 32 32, .slice (some ⟨gp, 0, none⟩) 32 32, .slice (some ⟨gq, 0, none⟩) 32 32] 24)).alloc (.cells #[.slice (some ⟨V.heap.size, 0, none⟩) 4 4, .slice (some ⟨V.heap.size + 1, 0, none⟩) 4 4] 27)).heap[V.heap.size + 2]? = some (.cells #[.slice (some ⟨V.heap.size, 0, none⟩) 4 4, .slice (some ⟨V.heap.size + 1, 0, none⟩) 4 4] 27) := hp_new _ _ _ (by simp)
  match r, hr with
  | 0, _ =>
    refine ⟨some ⟨V.heap.size, 0, none⟩, 4, cell_of_row _ _ _ _ _ _ h3, ?_⟩
    have e : fillL 4 (roF 6 4 1 ((0 : Nat) : Int)) [sa, sb] = [qB [sa, sb], sa, sb, pB [sa, sb]] := rfl
    rw [e]
    exact rdr_rows4 (c0 := 32) (c1 := 32) (c2 := 32) (c3 := 32) (by rw [hal, hbl, hpl, hql]; exact h1) r4 r1 r2 r3
  | 1, _ =>
    refine ⟨some ⟨V.heap.size + 1, 0, none⟩, 4, cell_of_row _ _ _ _ _ _ h3, ?_⟩
    have e : fillL 4 (roF 6 4 1 ((1 : Nat) : Int)) [sa, sb] = [sa, sb, pB [sa, sb], qB [sa, sb]] := rfl
    rw [e]
    exact rdr_rows4 (c0 := 32) (c1 := 32) (c2 := 32) (c3 := 32) (by rw [hal, hbl, hpl, hql]; exact h2) r1 r2 r3 r4
theorem gs_alloc {w0 W : World} {b : Nat} {l d c : Int} {o : Obj} (h : GS w0 w0.heap.size b l d c W) : GS w0 w0.heap.size b l d c (W.alloc o) := GS.later h (below1 W o)
theorem forms_right3 (q a b : List UInt8) : roRight 6 4 1 0 [q, a, b] = false := right_no rfl
theorem ok6410 : plOk 6 4 1 0 = true := by decide
theorem forms_h {p : List UInt8} (hp : p.length = 32) : roTake 6 4 1 0 [[], [], [], p] = none := by
  rw [roTake_yes (by decide) rfl]
  have e : dataL 6 4 1 0 [[], [], [], p] = [[], []] := rfl
  have e2 : parL 6 4 1 0 [[], [], [], p] = p := rfl
  have e3 : parQ 6 4 1 0 [[], [], [], p] = [] := rfl
  rw [e, e2, e3]
  have hc : canB p [] [[], []] = false := by
    have h1 : (missB [[], []]).length = 2 := rfl
    have h2 : (missB [p, []]).length = 1 := by rw [missB_pair, if_neg (by omega)]; rfl
    unfold canB
    rw [h1, h2]
    rfl
  unfold solveB
  rw [hc, Bool.and_false]
  rfl
set_option maxRecDepth 100000 in
set_option maxHeartbeats 3200000 in
theorem rowforms (n x y : Int) (w : World) (hn : -9223372036854775808 ≤ n ∧ n ≤ 9223372036854775807) (hx : -9223372036854775808 ≤ x ∧ x ≤ 9223372036854775807) (hy : -9223372036854775808 ≤ y ∧ y ≤ 9223372036854775807) :
    Calls Try.prog 3 #[.int .i64 n, .int .i64 x, .int .i64 y] w fun e w' => e = .returned (.bool true) ∧ Below w.heap.size w w' := by
  have HS1 := Lib.hid (fun V => sector_any n V hn)
  have HS2 := Lib.hid (fun V => sector_any (wrap64 (n + 5)) V (wrap64_bd _))
  have hal := sectorB_len n
  have hbl := sectorB_len (wrap64 (n + 5))
  generalize sectorB n = sa at HS1 hal
  generalize sectorB (wrap64 (n + 5)) = sb at HS2 hbl
  have hWk := Lib.hid (fun V => wakesRow_any V)
  have hmk : ∀ w, (Instr.makeSlice 24 (.int .i64 32) (.int .i64 32)).run Try.prog w = .ok (.slice (some ⟨w.heap.size, 0, none⟩) 32 32) (w.alloc (.cells (zcells 32) 5)) := make_bytes 32 (by omega)
  have G := gat_new w 6 4 1 23 (0, 0)
  go_enter Try.func3, Try.ntmps3
  go_wp2_with fail
  have F1 := below1 w (.cells #[.int .i64 6, .int .i64 4, .int .i64 1] 23 (0, 0))
  have hgx0 : w.heap.size < (w.alloc (.cells #[.int .i64 6, .int .i64 4, .int .i64 1] 23 (0, 0))).heap.size := by simp
  generalize w.alloc (.cells #[.int .i64 6, .int .i64 4, .int .i64 1] 23 (0, 0)) = w1 at G F1 hgx0 ⊢
  (with_reducible refine (HS1.out _).mono ?_); rintro e w2 ⟨ga, rfl, hoa, hb2⟩
  go_wp2_with fail
  (with_reducible refine (HS2.out _).mono ?_); rintro e w3 ⟨gb, rfl, hob, hb3⟩
  have hra := (hoa.below hb3).rdS.1
  have hrb := hob.rdS.1
  have hb13 := hb2.trans (hb3.mono hb2.size)
  have G3 := G.below hb13 hgx0
  have F3 := F1.trans (hb13.mono F1.size)
  have hgx3 : w.heap.size < w3.heap.size := by have := hb13.size; omega
  clear G hoa hob hb2 hb3 hb13 HS1 HS2 hgx0 F1
  generalize w.heap.size = gx at G3 hgx3 ⊢
  go_wp2_with fail
  go_cut [10, 11] (fun s10 s11 W => ∃ gp gq, s10 = .slice (some ⟨gp, 0, none⟩) 32 32 ∧ s11 = .slice (some ⟨gq, 0, none⟩) 32 32 ∧ gp ≠ gq ∧ OwB 5 W w3.heap.size (.slice (some ⟨gp, 0, none⟩) 32 32) (zeroL 32) ∧ OwB 5 W w3.heap.size (.slice (some ⟨gq, 0, none⟩) 32 32) (zeroL 32) ∧ Below w3.heap.size w3 W)
  case first =>
    go_region
    all_goals go_wp2_with fail
    · go_meet
      exact ⟨_, _, rfl, rfl, by omega, (made2 w3).1, (made2 w3).2.1, (made2 w3).2.2.drew⟩
    · go_meet
      exact ⟨_, _, rfl, rfl, by omega, (made2 w3).2.1, (made2 w3).1, (made2 w3).2.2.drew⟩
  case rest =>
    obtain ⟨gp, gq, rfl, rfl, hpq, hop, hoq, hbW⟩ := hcut
    have hpl : (pB [sa, sb]).length = 32 := by rw [pB_two (hal.trans hbl.symm), xorL_len, hal, hbl]; rfl
    have hql : (qB [sa, sb]).length = 32 := by rw [qB_two hal hbl, xorL_len, scaleL_len, hal, hbl]; rfl
    go_upto_block 0 with fail
    refine wp_block ?_
    refine rfA _ _ _ _ _ _ _ _ _ _ _ _ _ _ _ _ _ _ _ _ _ _ _ _ _ _ _ _ _ _ _ _ _ _ _ _ _ _ _ _ _ _ _ _ _ _ _ _ _ _ _ _ _ _ _ _ _ _ _ _ _ _ _ _ _ _ _ _ _ _ _ _ _ _ _ _ _ _ _ _ _ _ _ _ _ _ _ _ _ _ _ _ _ _ _ _ _ _ _ _ _ _ _ _ _ _ _ _ _ _ _ _ _ _ _ _ _ _ _ _ _ _ _ _ _ _ _ _ _ _ _ _ _ _ _ _ _ _ _ _ _ _ _ _ _ _ _ _ _ _ _ _ _ _ _ _ _ _ _ _ _ _ _ _ _ _ _ _ _ _ _ _ _ _ _ _ _ _ _ _ _ _ _ _ _ _ _ _ _ _ _ _ _ _ _ _ _ _ _ (hra.below hbW (Nat.le_refl _)) (hrb.below hbW (Nat.le_refl _)) hal hbl hpq hbW.size ⟨Nat.zero_le _, hop, hoq, Below.refl _ _⟩ (fun v12 v39 v40 v41 v42 v43 v44 v45 v46 v47 v48 v49 v50 v51 v52 v53 v54 v55 v56 v57 v58 v59 v60 v61 v62 v63 v64 v65 v66 i V hI hx => ?_)
    subst hx
    obtain ⟨_, hop2, hoq2, hbV⟩ := hI
    rw [zTo_all hpl] at hop2
    rw [zTo_all hql] at hoq2
    have hbV3 := hbW.trans hbV
    have hraV := (hra.below hbV3 (Nat.le_refl _)).more hbV3.size
    have hrbV := (hrb.below hbV3 (Nat.le_refl _)).more hbV3.size
    have htab := forms_tab hal hbl hraV hrbV hop2.rdS.1 hoq2.rdS.1 hpl hql
    have hb5 := below3 V (.cells #[.slice (some ⟨gq, 0, none⟩) 32 32, .slice (some ⟨ga, 0, none⟩) 32 32, .slice (some ⟨gb, 0, none⟩) 32 32, .slice (some ⟨gp, 0, none⟩) 32 32] 24) (.cells #[.slice (some ⟨ga, 0, none⟩) 32 32, .slice (some ⟨gb, 0, none⟩) 32 32, .slice (some ⟨gp, 0, none⟩) 32 32, .slice (some ⟨gq, 0, none⟩) 32 32] 24) (.cells #[.slice (some ⟨V.heap.size, 0, none⟩) 4 4, .slice (some ⟨V.heap.size + 1, 0, none⟩) 4 4] 27)
    have hb35 := hbV3.trans (hb5.mono hbV3.size)
    have G5 := G3.below hb35 hgx3
    have hra5 := (hra.below hb35 (Nat.le_refl _)).more hb35.size
    have hrb5 := (hrb.below hb35 (Nat.le_refl _)).more hb35.size
    have hrp5 := (hop2.rdS.1.below hb5 (Nat.le_refl _)).more hb5.size
    have hrq5 := (hoq2.rdS.1.below hb5 (Nat.le_refl _)).more hb5.size
    have F5 := F3.trans (hb35.mono F3.size)
    have hgx5 : gx < (((V.alloc (.cells #[.slice (some ⟨gq, 0, none⟩) 32 32, .slice (some ⟨ga, 0, none⟩) 32 32, .slice (some ⟨gb, 0, none⟩) 32 32, .slice (some ⟨gp, 0, none⟩) 32 32] 24)).alloc (.cells #[.slice (some ⟨ga, 0, none⟩) 32 32, .slice (some ⟨gb, 0, none⟩) 32 32, .slice (some ⟨gp, 0, none⟩) 32 32, .slice (some ⟨gq, 0, none⟩) 32 32] 24)).alloc (.cells #[.slice (some ⟨V.heap.size, 0, none⟩) 4 4, .slice (some ⟨V.heap.size + 1, 0, none⟩) 4 4] 27)).heap.size := by have := hb35.size; omega
    have hgt5 : V.heap.size + 2 < (((V.alloc (.cells #[.slice (some ⟨gq, 0, none⟩) 32 32, .slice (some ⟨ga, 0, none⟩) 32 32, .slice (some ⟨gb, 0, none⟩) 32 32, .slice (some ⟨gp, 0, none⟩) 32 32] 24)).alloc (.cells #[.slice (some ⟨ga, 0, none⟩) 32 32, .slice (some ⟨gb, 0, none⟩) 32 32, .slice (some ⟨gp, 0, none⟩) 32 32, .slice (some ⟨gq, 0, none⟩) 32 32] 24)).alloc (.cells #[.slice (some ⟨V.heap.size, 0, none⟩) 4 4, .slice (some ⟨V.heap.size + 1, 0, none⟩) 4 4] 27)).heap.size := by simp
    clear hop hoq hop2 hoq2 hbV hbV3 hraV hrbV hb5 hb35 hbW hra hrb G3 F3
    go_upto_block 2 with fail
    generalize ((V.alloc (.cells #[.slice (some ⟨gq, 0, none⟩) 32 32, .slice (some ⟨ga, 0, none⟩) 32 32, .slice (some ⟨gb, 0, none⟩) 32 32, .slice (some ⟨gp, 0, none⟩) 32 32] 24)).alloc (.cells #[.slice (some ⟨ga, 0, none⟩) 32 32, .slice (some ⟨gb, 0, none⟩) 32 32, .slice (some ⟨gp, 0, none⟩) 32 32, .slice (some ⟨gq, 0, none⟩) 32 32] 24)).alloc (.cells #[.slice (some ⟨V.heap.size, 0, none⟩) 4 4, .slice (some ⟨V.heap.size + 1, 0, none⟩) 4 4] 27) = W5 at htab G5 hra5 hrb5 hrp5 hrq5 F5 hgx5 hgt5 ⊢
    refine wp_block ?_
    refine rfB _ _ _ _ _ _ _ _ _ _ _ _ _ _ _ _ _ _ _ _ _ _ _ _ _ _ _ _ _ _ _ _ _ _ _ _ _ _ _ _ _ _ _ _ _ _ _ _ _ _ _ _ _ _ _ _ _ _ _ _ _ _ _ _ _ _ _ _ _ _ _ _ _ _ _ _ _ _ _ _ _ _ _ _ _ _ _ _ _ _ _ _ _ _ _ _ _ _ _ _ _ _ _ _ _ _ _ _ _ _ _ _ _ _ _ _ _ _ _ _ _ _ _ _ _ _ _ _ _ _ _ _ _ _ _ _ _ _ _ _ _ _ _ _ _ _ _ _ _ _ _ _ _ _ _ _ _ _ _ _ _ _ _ _ _ _ _ _ _ _ _ _ _ _ _ _ _ _ _ _ _ _ _ _ _ _ _ _ _ _ _ _ _ _ _ _ _ G5 hgx5 hra5 hrb5 hal hbl hgt5 htab hx hy ⟨Nat.zero_le _, Below.refl _ _⟩ (fun v6 v13 v14 v15 v16 v17 v80 v81 v82 v83 v84 v85 v86 v87 v88 v89 v90 v91 v92 v93 v94 v95 v96 v97 v98 v99 v100 v101 v102 v103 v104 v105 v106 v107 v108 v109 v110 v111 v112 v113 v114 v115 v116 v117 v118 v119 v120 v121 v122 v123 v124 v125 v126 v127 v128 v129 v130 v131 v132 v133 r V2 hI _ => ?_)
    obtain ⟨_, B2⟩ := hI
    clear htab hmk
    have Hg := Lib.hid G5
    have HA := Lib.hid hra5
    have HB := Lib.hid hrb5
    have HPp := Lib.hid hrp5
    have HQq := Lib.hid hrq5
    clear G5 hra5 hrb5 hrp5 hrq5
    -- a row past the last one
    obtain ⟨g1, g2, g3⟩ := Hg.out.below B2 hgx5
    have C20 := Lib.hid (fill_no1 (some ⟨V2.heap.size, 0, none⟩) 2 2 6 4 1 16 (V2.alloc (.cells #[.slice (some ⟨ga, 0, none⟩) 32 32, .slice (some ⟨gb, 0, none⟩) 32 32] 24)) (by decide) (by omega) (by omega) (by omega) (by omega))
    have B20 := B2.alloc B2.size (.cells #[.slice (some ⟨ga, 0, none⟩) 32 32, .slice (some ⟨gb, 0, none⟩) 32 32] 24)
    go_wp2_with fail
    (with_reducible refine C20.out.mono ?_); rintro e w20 ⟨rfl, hb20⟩
    have B21 := B20.trans (hb20.mono B20.size)
    clear g1 g2 g3 C20 B20 hb20 B2
    -- too few
    obtain ⟨g1, g2, g3⟩ := Hg.out.below B21 hgx5
    have C21 := Lib.hid (fill_no2 (some ⟨w20.heap.size, 0, none⟩) 1 1 6 4 1 0 (w20.alloc (.cells #[.slice (some ⟨ga, 0, none⟩) 32 32] 24)) ok6410 (by decide) (by omega) (by omega) (by omega) (by omega) (by omega))
    have B22 := B21.alloc B21.size (.cells #[.slice (some ⟨ga, 0, none⟩) 32 32] 24)
    go_wp2_with fail
    (with_reducible refine C21.out.mono ?_); rintro e w21 ⟨rfl, hb21⟩
    have B23 := B22.trans (hb21.mono B22.size)
    clear g1 g2 g3 C21 B21 B22 hb21
    -- one too short
    obtain ⟨g1, g2, g3⟩ := Hg.out.below B23 hgx5
    have hrd3 := rdr_block2 (hp_new w21 (.cells #[.slice (some ⟨ga, 0, none⟩) 32 32, .slice (some ⟨gb, 0, none⟩) 31 32] 24) _ rfl) hal.symm (show 31 = (sb.take 31).length by rw [List.length_take, hbl]; rfl) ((((HA.out.below B23 (Nat.le_refl _)).more B23.size).below (below1 w21 (.cells #[.slice (some ⟨ga, 0, none⟩) 32 32, .slice (some ⟨gb, 0, none⟩) 31 32] 24)) (Nat.le_refl _)).more (by simp)) (((((HB.out.below B23 (Nat.le_refl _)).more B23.size).below (below1 w21 (.cells #[.slice (some ⟨ga, 0, none⟩) 32 32, .slice (some ⟨gb, 0, none⟩) 31 32] 24)) (Nat.le_refl _)).more (by simp)).take 31) (Nat.le_refl _)
    have C22 := Lib.hid (fill_no3 (some ⟨w21.heap.size, 0, none⟩) [sa, sb.take 31] 2 2 6 4 1 0 (w21.alloc (.cells #[.slice (some ⟨ga, 0, none⟩) 32 32, .slice (some ⟨gb, 0, none⟩) 31 32] 24)).drew rfl (hrd3.below (Below.refl _ _).drew (Nat.le_refl _)) ok6410 rfl (by unfold wholeB; simp [hal, hbl]) (by omega) (by omega) (by omega) (by omega))
    have B24 := (B23.alloc B23.size (.cells #[.slice (some ⟨ga, 0, none⟩) 32 32, .slice (some ⟨gb, 0, none⟩) 31 32] 24)).drew
    clear hrd3
    go_wp2_with fail
    have S0 : GS W5 W5.heap.size gx 6 4 1 w21 := ⟨g1, g2, g3, B23⟩
    clear g1 g2 g3
    go_region_held3 (GS W5 W5.heap.size gx 6 4 1)
      (first | assumption | exact GS.drew ‹_› | exact gs_alloc ‹_›)
      ((go_at_call 10; (with_reducible refine C22.out.mono ?_); rintro e w22 ⟨rfl, hb22⟩; have S2 := GS.later (GS.drew (gs_alloc S0)) hb22; dsimp only))
    have B25 := B24.trans (hb22.mono B24.size)
    clear C22 B24 hb22 B23 S0 S2
    -- a sector too few
    obtain ⟨g1, g2, g3⟩ := Hg.out.below B25 hgx5
    have C23 := Lib.hid (take_no2 (some ⟨w22.heap.size, 0, none⟩) 3 3 6 4 1 0 (w22.alloc (.cells #[.slice (some ⟨gq, 0, none⟩) 32 32, .slice (some ⟨ga, 0, none⟩) 32 32, .slice (some ⟨gb, 0, none⟩) 32 32] 24)) ok6410 (by decide) (by omega) (by omega) (by omega) (by omega) (by omega))
    have B26 := B25.alloc B25.size (.cells #[.slice (some ⟨gq, 0, none⟩) 32 32, .slice (some ⟨ga, 0, none⟩) 32 32, .slice (some ⟨gb, 0, none⟩) 32 32] 24)
    go_wp2_with fail
    (with_reducible refine C23.out.mono ?_); rintro e w23 ⟨rfl, hb23⟩
    have B27 := B26.trans (hb23.mono B26.size)
    clear g1 g2 g3 C23 B25 B26 hb23
    -- too many missing
    obtain ⟨g1, g2, g3⟩ := Hg.out.below B27 hgx5
    have hrd4 := rdr_rows4 (b0 := []) (b1 := []) (b2 := []) (b3 := pB [sa, sb]) (A0 := none) (A1 := none) (A2 := none) (c0 := 0) (c1 := 0) (c2 := 0) (c3 := 32) (by rw [hpl]; exact hp_new w23 (.cells #[.slice none 0 0, .slice none 0 0, .slice none 0 0, .slice (some ⟨gp, 0, none⟩) 32 32] 24) _ rfl) (RdB.nil _ _ _) (RdB.nil _ _ _) (RdB.nil _ _ _) ((((HPp.out.below B27 (Nat.le_refl _)).more B27.size).below (below1 w23 (.cells #[.slice none 0 0, .slice none 0 0, .slice none 0 0, .slice (some ⟨gp, 0, none⟩) 32 32] 24)) (Nat.le_refl _)).more (by simp))
    have C24 := Lib.hid (take_any (some ⟨w23.heap.size, 0, none⟩) [[], [], [], pB [sa, sb]] 4 4 6 4 1 0 (w23.alloc (.cells #[.slice none 0 0, .slice none 0 0, .slice none 0 0, .slice (some ⟨gp, 0, none⟩) 32 32] 24)) rfl (by omega) hrd4 (by omega) (by omega) (by omega) (by omega))
    rw [forms_h hpl] at C24
    have B28 := B27.alloc B27.size (.cells #[.slice none 0 0, .slice none 0 0, .slice none 0 0, .slice (some ⟨gp, 0, none⟩) 32 32] 24)
    clear hrd4
    go_wp2_with fail
    (with_reducible refine C24.out.mono ?_); rintro e w24 ⟨rfl, hb24⟩
    have B29 := B28.trans (hb24.mono B28.size)
    clear g1 g2 g3 C24 B27 B28 hb24
    -- not all are there
    obtain ⟨g1, g2, g3⟩ := Hg.out.below B29 hgx5
    have hrd5 := rdr_block3 (hp_new w24 (.cells #[.slice (some ⟨gq, 0, none⟩) 32 32, .slice (some ⟨ga, 0, none⟩) 32 32, .slice (some ⟨gb, 0, none⟩) 32 32] 24) _ rfl) hql.symm hal.symm hbl.symm ((((HQq.out.below B29 (Nat.le_refl _)).more B29.size).below (below1 w24 (.cells #[.slice (some ⟨gq, 0, none⟩) 32 32, .slice (some ⟨ga, 0, none⟩) 32 32, .slice (some ⟨gb, 0, none⟩) 32 32] 24)) (Nat.le_refl _)).more (by simp)) ((((HA.out.below B29 (Nat.le_refl _)).more B29.size).below (below1 w24 (.cells #[.slice (some ⟨gq, 0, none⟩) 32 32, .slice (some ⟨ga, 0, none⟩) 32 32, .slice (some ⟨gb, 0, none⟩) 32 32] 24)) (Nat.le_refl _)).more (by simp)) ((((HB.out.below B29 (Nat.le_refl _)).more B29.size).below (below1 w24 (.cells #[.slice (some ⟨gq, 0, none⟩) 32 32, .slice (some ⟨ga, 0, none⟩) 32 32, .slice (some ⟨gb, 0, none⟩) 32 32] 24)) (Nat.le_refl _)).more (by simp)) (Nat.le_refl _)
    have C25 := Lib.hid (right_any (some ⟨w24.heap.size, 0, none⟩) [qB [sa, sb], sa, sb] 3 3 6 4 1 0 (w24.alloc (.cells #[.slice (some ⟨gq, 0, none⟩) 32 32, .slice (some ⟨ga, 0, none⟩) 32 32, .slice (some ⟨gb, 0, none⟩) 32 32] 24)) rfl (by omega) hrd5 (by omega) (by omega) (by omega) (by omega))
    rw [forms_right3] at C25
    have B30 := B29.alloc B29.size (.cells #[.slice (some ⟨gq, 0, none⟩) 32 32, .slice (some ⟨ga, 0, none⟩) 32 32, .slice (some ⟨gb, 0, none⟩) 32 32] 24)
    clear hrd5
    go_wp2_with fail
    (with_reducible refine C25.out.mono ?_); rintro e w25 ⟨rfl, hb25⟩
    have B31 := B30.trans (hb25.mono B30.size)
    clear g1 g2 g3 C25 B29 B30 hb25
    go_wp2_with fail
    (with_reducible refine (hWk.out _).mono ?_); rintro e w26 ⟨rfl, hb26⟩
    have F9 := (F5.trans (B31.mono F5.size))
    go_wp2
    go_ret
    exact ⟨rfl, F9.trans (hb26.mono F9.size)⟩
end Go.Proofs.Ytbojmofkhkegmaa
