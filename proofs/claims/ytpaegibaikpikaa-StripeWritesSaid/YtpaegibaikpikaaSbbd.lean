/- Texts put together: StpSame, StpWakes. -/
import Derived.Test.YtpaegibaikpikaaSbav
import Derived.Test.YtpaegibaikpikaaSbaz
import Derived.Test.YtpaegibaikpikaaSbap
import Derived.Test.YtpaegibaikpikaaSbbc
import Derived.Test.YtpaegibaikpikaaSbaf
section
set_option maxRecDepth 20000
set_option linter.unusedVariables false
set_option linter.unusedSimpArgs false
namespace Go.Proofs.Ytpaegibaikpikaa
open Go.RowKit

theorem rowsT_snoc {ra rb : List (List UInt8)} {j : Nat} (h : ra.take j = rb.take j) (hj : j < ra.length) (hj' : j < rb.length) (he : ra.getD j [] = rb.getD j []) : ra.take (j + 1) = rb.take (j + 1) := by
  rw [List.take_succ_eq_append_getElem hj, List.take_succ_eq_append_getElem hj', h]
  have e : ra[j] = rb[j] := by simpa [hj, hj'] using he
  rw [e]
set_option maxHeartbeats 400000 in
theorem sameS_any (A A' : Option Addr) (ra rb : List (List UInt8)) (n n' c c' : Nat) (w : World) (hn : ra.length = n) (hn' : rb.length = n') (hr : RdR w w.heap.size A ra) (hr' : RdR w w.heap.size A' rb) :
    Calls Try.prog 19 #[.slice A n c, .slice A' n' c'] w fun e w' => e = .returned (.bool (decide (ra = rb))) ∧ Below w.heap.size w w' := by
  subst hn hn'
  have hl := hr.1
  have hl' := hr'.1
  by_cases hlen : ra.length = rb.length
  · have hle := Lib.hid hlen
    have hne : ((ra.length : Int) != (rb.length : Int)) = false := by rw [hlen]; simp
    clear hlen
    go_enter Try.func19, Try.ntmps19
    go_wp2
    go_loopw [13] (fun i wr => ∃ j : Nat, j ≤ ra.length ∧ i = .int .i64 j ∧ ra.take j = rb.take j ∧ Below w.heap.size w wr) (fun i _ => ra.length - (intOf i).toNat)
    case atStart => exact ⟨0, Nat.zero_le _, rfl, rfl, Below.refl _ _⟩
    case round =>
      obtain ⟨j, hj, rfl, htk, hbr⟩ := hrel
      have Htk := Lib.hid htk
      clear htk
      by_cases hlt : j < ra.length
      · have hlt' : j < rb.length := by have := hle.out; omega
        obtain ⟨b, off, rfl, hb, hc⟩ := hr.2 (by omega)
        obtain ⟨b', off', rfl, hb', hc'⟩ := hr'.2 (by omega)
        obtain ⟨A1, c1, h1, r1⟩ := hc j hlt
        rw [← hbr.cell (p := ⟨b, off + j, none⟩) hb] at h1
        obtain ⟨A2, c2, h2, r2⟩ := hc' j hlt'
        rw [← hbr.cell (p := ⟨b', off' + j, none⟩) hb'] at h2
        have i0 : (0 : Int) ≤ (j : Int) := by omega
        have i1 : (j : Int) < (ra.length : Int) := by omega
        have i2 : (j : Int) < (rb.length : Int) := by omega
        have Hne := Lib.hid (show ra.getD j [] ≠ rb.getD j [] → decide (ra = rb) = false from fun h => by simpa using fun e : ra = rb => h (by rw [e]))
        have Hsn := Lib.hid (show ra.getD j [] = rb.getD j [] → ra.take (j + 1) = rb.take (j + 1) from fun h => rowsT_snoc Htk.out hlt hlt' h)
        generalize ra.getD j [] = x at h1 r1 Hne Hsn
        generalize rb.getD j [] = y at h2 r2 Hne Hsn
        clear hc hc'
        have CS := Lib.hid (fun n => Calls.quiet_of (same_any A1 A2 x.length y.length c1 c2 w.heap.size x y (wr.drewN n) rfl rfl (r1.below (hbr.trans (belowN _ _ n)) (Nat.le_refl _)) (r2.below (hbr.trans (belowN _ _ n)) (Nat.le_refl _))))
        by_cases he : x = y
        · have Hs := Lib.hid (Hsn.out he)
          rw [decide_eq_true he] at CS
          clear he
          go_wp2
          go_quiet ((go_at_call 31; exact CS.out _))
          go_wp2
          go_roundw
          case rel => exact ⟨j + 1, by omega, by go_num, Hs.out, hbr.trans (belowN _ _ nq)⟩
          case measure => simp [intOf]; omega
        · have Hd := Lib.hid (Hne.out he)
          rw [decide_eq_false he] at CS
          clear he
          go_wp2
          go_quiet ((go_at_call 31; exact CS.out _))
          go_wp2
          go_ret
          exact ⟨by rw [Hd.out]; rfl, hbr.trans (belowN _ _ nq)⟩
      · obtain rfl : j = ra.length := by omega
        have Hd := Lib.hid (show decide (ra = rb) = true by
          have h1 := Htk.out
          rw [List.take_length, hle.out, List.take_length] at h1
          exact decide_eq_true h1)
        go_wp2
        go_ret
        exact ⟨by rw [Hd.out]; rfl, hbr⟩
  · go_enter Try.func19, Try.ntmps19
    have hne : ((ra.length : Int) != (rb.length : Int)) = true := by rw [bne_iff_ne]; omega
    go_wp2
    go_ret
    exact ⟨by rw [decide_eq_false (fun h => hlen (by rw [h]))]; rfl, Below.refl _ _⟩
theorem RdZ.drop {w : World} {B : Nat} {A : Option Addr} {zs : List Int} (h : RdZ w B A zs) (k cap : Nat) (hc : zs.length ≤ cap) : RdZ w B (if cap = k then A else A.map (·.add k)) (zs.drop k) :=
  ⟨by have := h.1; simp; omega, fun z hz => h.2.1 z (List.mem_of_mem_drop hz), fun hn => by
    have hn' : k < zs.length := by simp at hn; omega
    obtain ⟨b, off, rfl, hb, hc⟩ := h.2.2 (by omega)
    rw [if_neg (by omega)]
    refine ⟨b, off + k, ?_, hb, fun j hj => ?_⟩
    · unfold Addr.add; by_cases hk0 : k = 0 <;> simp [hk0]
    · have hj' : k + j < zs.length := by simp at hj; omega
      rw [Nat.add_assoc, hc (k + j) hj']
      simp⟩
/-- The data of a row of a filled bench. -/
def datL (zs : List Int) (ρ W : Nat) : List (List UInt8) := sectorsB (zs.drop (min ρ zs.length)) W
theorem datL_len (zs : List Int) (ρ W : Nat) : (datL zs ρ W).length = W := sectorsB_len _ _
theorem datL_mem {zs : List Int} {ρ W : Nat} : ∀ x ∈ datL zs ρ W, x.length = 32 := sectorsB_mem
set_option maxRecDepth 100000 in
set_option maxHeartbeats 1600000 in
theorem data_any {n l c r : Int} {D F W : Nat} (gr : Gr n l c r D F W) (ρ : Nat) (hρ : ρ ≤ 1000) (A : Option Addr) (zs : List Int) (m cp : Nat) (w : World) (hm : m = zs.length) (hcp : zs.length ≤ cp) (hz : RdZ w w.heap.size A zs) :
    Calls Try.prog 17 #[.agg #[.int .i64 l, .int .i64 (D : Int), .int .i64 c], .int .i64 (ρ : Int), .slice A m cp] w fun e w' => ∃ v, e = .returned v ∧ OwV w.heap.size w' v (datL zs ρ W) ∧ Below w.heap.size w w' := by
  subst hm
  have G := gat_new w l D c 24 (0, 0)
  have HR := Lib.hid (fun V => refWidth_any l (D : Int) c V gr.l64 gr.d64 gr.c64)
  rw [gr.wd] at HR
  have hw7 := gr.w7
  have hzl := hz.1
  obtain ⟨k, hk⟩ : ∃ k, min ρ zs.length = k := ⟨_, rfl⟩
  have hkl : k ≤ zs.length := by omega
  have Hmin : Hid ((if zs.length < ρ then (zs.length : Int) else (ρ : Int)) = (k : Int)) := Lib.hid (by split <;> omega)
  have HDt : Hid (datL zs ρ W = sectorsB (zs.drop k) W) := Lib.hid (by unfold datL; rw [hk])
  have CS := Lib.hid (fun V (hb : Below w.heap.size w V) => sectors_any (if cp = k then A else A.map (·.add k)) (zs.drop k) (zs.length - k) (cp - k) W V (by simp) (((hz.below hb (Nat.le_refl _)).keep hb.size (fun _ _ => rfl)).drop k cp hcp) (by omega))
  have k0 : (0 : Int) ≤ (k : Int) := by omega
  have k1 : (k : Int) ≤ (zs.length : Int) := by omega
  have k2 : (k : Int) ≤ (cp : Int) := by omega
  clear gr hz hk
  by_cases hck : cp = k
  · rw [if_pos hck] at CS
    subst hck
    rw [show zs.length - cp = 0 by omega, Nat.sub_self] at CS
    go_enter Try.func17, Try.ntmps17
    go_wp2_with fail
    have S0 : GS w w.heap.size w.heap.size l D c (w.alloc (.cells #[.int .i64 l, .int .i64 (D : Int), .int .i64 c] 24 (0, 0))) := ⟨G.1, G.2.1, G.2.2, below1 _ _⟩
    have hmin := Hmin.out
    go_region_held3 (GS w w.heap.size w.heap.size l D c)
      (first | assumption | exact GS.drew ‹_›)
      (first
        | (go_at_call 13; (with_reducible refine (HR.out _).mono ?_); rintro e w3 ⟨rfl, hb3⟩; have S3 := (GS.drew S0).later hb3; dsimp only)
        | (go_at_call 12; (with_reducible refine (CS.out _ S3.2.2.2).mono ?_); rintro e w4 ⟨v, rfl, ho, hb4⟩; have S4 := S3.later hb4; dsimp only))
    all_goals
      have hf := S3.2.2.2.size
      go_wp2
      go_ret
      exact ⟨_, rfl, by rw [HDt.out]; exact ho.le hf, S4.2.2.2⟩
  · rw [if_neg hck] at CS
    go_enter Try.func17, Try.ntmps17
    go_wp2_with fail
    have S0 : GS w w.heap.size w.heap.size l D c (w.alloc (.cells #[.int .i64 l, .int .i64 (D : Int), .int .i64 c] 24 (0, 0))) := ⟨G.1, G.2.1, G.2.2, below1 _ _⟩
    have hmin := Hmin.out
    go_region_held3 (GS w w.heap.size w.heap.size l D c)
      (first | assumption | exact GS.drew ‹_›)
      (first
        | (go_at_call 13; (with_reducible refine (HR.out _).mono ?_); rintro e w3 ⟨rfl, hb3⟩; have S3 := (GS.drew S0).later hb3; dsimp only)
        | (go_at_call 12; (with_reducible refine (CS.out _ S3.2.2.2).mono ?_); rintro e w4 ⟨v, rfl, ho, hb4⟩; have S4 := S3.later hb4; dsimp only))
    all_goals
      have hf := S3.2.2.2.size
      go_wp2
      go_ret
      exact ⟨_, rfl, by rw [HDt.out]; exact ho.le hf, S4.2.2.2⟩
end Go.Proofs.Ytpaegibaikpikaa
end
section
set_option maxRecDepth 20000
set_option linter.unusedVariables false
set_option linter.unusedSimpArgs false
namespace Go.Proofs.Ytpaegibaikpikaa
open Go.RowKit

theorem zl32 : (zeroL 32).length = 32 := rfl
theorem ok5314 : plOk 5 3 1 4 = true := by decide
theorem new_sec {k : Nat} (hk : k < 52) : secAt Dsk.new.now k = zeroL 32 := by rw [new_now]; exact sec_zero hk
theorem ssL_new {n : Nat} {lv : List Bool} {a D : Nat} (hn : D ≤ n) (ha : a < 52) (hl : ∀ i, i < D → lv.getD i false = true) : ssL (Bch.new n) lv a D = List.replicate D (zeroL 32) := by
  apply ext_getD (by rw [ssL_len, List.length_replicate])
  intro i hi
  rw [ssL_len] at hi
  rw [ssL_get hi, if_pos (srvD_mk (by show i < n; omega) (hl i hi) rfl), show ((Bch.new n).D i) = Dsk.new from rfl, new_sec ha]
  simp [List.getD_eq_getElem?_getD, hi]
theorem wakes_read : srdE (Bch.new 3) [true, true, true] 5 3 1 4 = 0 ∧ srdL (Bch.new 3) [true, true, true] 5 3 1 4 = [zeroL 32, zeroL 32] := by
  refine srdE_ok ok5314 (.inl rfl) ?_
  rw [show roD 3 = 3 from rfl, show 36 + (4 : Int).toNat = 40 from rfl, ssL_new (Nat.le_refl _) (by omega) (fun i hi => by
    match i, hi with
    | 0, _ => rfl
    | 1, _ => rfl
    | 2, _ => rfl)]
  rw [take_none ok5314 rfl (fun i hi => by
    have hi : i < 3 := hi
    match i, hi with
    | 0, _ => exact zl32
    | 1, _ => exact zl32
    | 2, _ => exact zl32)]
  rfl
theorem rdb_zc (w : World) : RdB (w.alloc (.cells (zcells 32) 5)) (w.alloc (.cells (zcells 32) 5)).heap.size (some ⟨w.heap.size, 0, none⟩) (zeroL 32) :=
  rdb_block (hp_new _ _ _ rfl) (by simp) (by rw [zl32]; omega) (fun k hk => by
    rw [zl32] at hk
    rw [zcells_get 32 k hk]
    unfold zeroL
    rw [List.getD_eq_getElem?_getD, List.getElem?_replicate, if_pos hk]
    rfl)
set_option maxRecDepth 100000 in
set_option maxHeartbeats 1600000 in
theorem wakesStp_any (W : World) : Calls Try.prog 20 #[] W fun e w' => e = .returned (.bool true) ∧ Below W.heap.size W w' := by
  have hpn := ptr_eq
  have hmk : ∀ w, (Instr.makeSlice 46 (.int .i64 32) (.int .i64 32)).run Try.prog w = .ok (.slice (some ⟨w.heap.size, 0, none⟩) 32 32) (w.alloc (.cells (zcells 32) 5)) := make_bytes 32 (by omega)
  have CN := Lib.hid (bp_new 3 W W (Below.refl _ _) (by omega))
  have hw := Lib.hid wakes_read
  go_enter Try.func20, Try.ntmps20
  go_wp2_with fail
  refine CN.out.mono ?_
  rintro e w ⟨b, H, rfl, hp, _, _⟩
  have hb1 := below1 w (.cells #[.bool true, .bool true, .bool true] 4)
  have CR := stpRead_any W.heap.size b H _ _ (hp.grow hb1).at' [true, true, true] (some ⟨w.heap.size, 0, none⟩) 3 3 rfl (rdo_row (hp_new w (.cells #[.bool true, .bool true, .bool true] 4) _ rfl) rfl (by simp)) 5 3 1 4 (by omega) (by omega) (by omega) (by omega)
  rw [hw.out.1, hw.out.2] at CR
  have CR := Lib.hid CR
  have HB := Lib.hid (hp.bel.alloc hp.bel.size (.cells #[.bool true, .bool true, .bool true] 4))
  clear hp hb1 hw
  unfold ptr
  go_wp2_with fail
  refine CR.out.mono ?_
  rintro e w2 ⟨v, rfl, ho, hb2⟩
  have F := HB.out.trans (hb2.mono HB.out.size)
  obtain ⟨g, c, rfl, hor⟩ := ho.owr (by simp)
  obtain ⟨_, _, _, xs, hor1, hor2⟩ := hor
  obtain ⟨A1, c1, hx1, hx2, _⟩ := hor2.2 0 (by simp)
  have z0 := (hor1.cellAt 0 (by simp)).trans hx1
  have hg := (hor1.lt g rfl).2
  have hr0 := hx2.rdb
  simp only [List.getD_cons_zero, zl32] at z0 hr0
  clear ho hb2 hor1 hor2 hx1 hx2 CR CN
  simp only [List.length_cons, List.length_nil, Nat.zero_add, Nat.reduceAdd]
  go_wp2_with fail
  refine wp_region_noPanic (region_ord 15 [] (fun V => Below w2.heap.size w2 V) (by kernel_rfl) (by kernel_rfl) (fun _ _ _ _ _ h => h) fun R => ?_)
  change anyI _ _ _ _ _ _ 15 _ _ w2.drew
  have HS0 := Lib.hid (show (fun V => Below w2.heap.size w2 V) w2.drew from (Below.refl _ _).drew)
  refine' anyI_take R 0 rfl (v := ?_) (by kernel_rfl) (by rfl) (fun V hV => ?hy) HS0.out ?_
  case hy => ((try dsimp only at hV);  have y0 := (hV.cell (p := ⟨g, 0, none⟩) hg).trans z0; go_simp; try with_reducible rfl)
  try simp only [Act.put, List.getElem_toArray, List.getElem_cons_succ, List.getElem_cons_zero, List.setIfInBounds_toArray, List.set_cons_zero, List.set_cons_succ]
  refine' anyI_take R 1 rfl (v := ?_) (by kernel_rfl) (by rfl) (fun V hV => ?hy) HS0.out ?_
  case hy => ((try dsimp only at hV);  have y0 := (hV.cell (p := ⟨g, 0, none⟩) hg).trans z0; go_simp; try with_reducible rfl)
  try simp only [Act.put, List.getElem_toArray, List.getElem_cons_succ, List.getElem_cons_zero, List.setIfInBounds_toArray, List.set_cons_zero, List.set_cons_succ]
  refine' anyI_take R 2 rfl (v := ?_) (by kernel_rfl) (by rfl) (fun V hV => ?hy) HS0.out ?_
  case hy => ((try dsimp only at hV);  have y0 := (hV.cell (p := ⟨g, 0, none⟩) hg).trans z0; go_simp; try with_reducible rfl)
  try simp only [Act.put, List.getElem_toArray, List.getElem_cons_succ, List.getElem_cons_zero, List.setIfInBounds_toArray, List.set_cons_zero, List.set_cons_succ]
  refine' anyI_take R 3 rfl (v := ?_) (by kernel_rfl) (by rfl) (fun V hV => ?hy) HS0.out ?_
  case hy => ((try dsimp only at hV);  have y0 := (hV.cell (p := ⟨g, 0, none⟩) hg).trans z0; go_simp; try with_reducible rfl)
  try simp only [Act.put, List.getElem_toArray, List.getElem_cons_succ, List.getElem_cons_zero, List.setIfInBounds_toArray, List.set_cons_zero, List.set_cons_succ]
  refine' anyI_take R 4 rfl (v := ?_) (by kernel_rfl) (by rfl) (fun V hV => ?hy) HS0.out ?_
  case hy => ((try dsimp only at hV);  have y0 := (hV.cell (p := ⟨g, 0, none⟩) hg).trans z0; go_simp; try with_reducible rfl)
  try simp only [Act.put, List.getElem_toArray, List.getElem_cons_succ, List.getElem_cons_zero, List.setIfInBounds_toArray, List.set_cons_zero, List.set_cons_succ]
  refine' anyI_take R 5 rfl (v := ?_) (by kernel_rfl) (by rfl) (fun V hV => ?hy) HS0.out ?_
  case hy => ((try dsimp only at hV);  have y0 := (hV.cell (p := ⟨g, 0, none⟩) hg).trans z0; go_simp; try with_reducible rfl)
  try simp only [Act.put, List.getElem_toArray, List.getElem_cons_succ, List.getElem_cons_zero, List.setIfInBounds_toArray, List.set_cons_zero, List.set_cons_succ]
  refine' anyI_take R 6 rfl (v := ?_) (by kernel_rfl) (by rfl) (fun V hV => ?hy) HS0.out ?_
  case hy => ((try dsimp only at hV);  have y0 := (hV.cell (p := ⟨g, 0, none⟩) hg).trans z0; go_simp; try with_reducible rfl)
  try simp only [Act.put, List.getElem_toArray, List.getElem_cons_succ, List.getElem_cons_zero, List.setIfInBounds_toArray, List.set_cons_zero, List.set_cons_succ]
  refine' anyI_take R 7 rfl (v := ?_) (by kernel_rfl) (by rfl) (fun V hV => ?hy) HS0.out ?_
  case hy => ((try dsimp only at hV);  have y0 := (hV.cell (p := ⟨g, 0, none⟩) hg).trans z0; go_simp; try with_reducible rfl)
  try simp only [Act.put, List.getElem_toArray, List.getElem_cons_succ, List.getElem_cons_zero, List.setIfInBounds_toArray, List.set_cons_zero, List.set_cons_succ]
  refine' anyI_take R 8 rfl (v := ?_) (by kernel_rfl) (by rfl) (fun V hV => ?hy) HS0.out ?_
  case hy => ((try dsimp only at hV);  have y0 := (hV.cell (p := ⟨g, 0, none⟩) hg).trans z0; go_simp; try with_reducible rfl)
  try simp only [Act.put, List.getElem_toArray, List.getElem_cons_succ, List.getElem_cons_zero, List.setIfInBounds_toArray, List.set_cons_zero, List.set_cons_succ]
  refine' anyI_take R 9 rfl (v := ?_) (by kernel_rfl) (by rfl) (fun V hV => ?hy) HS0.out ?_
  case hy => ((try dsimp only at hV);  have y0 := (hV.cell (p := ⟨g, 0, none⟩) hg).trans z0; go_simp; try with_reducible rfl)
  try simp only [Act.put, List.getElem_toArray, List.getElem_cons_succ, List.getElem_cons_zero, List.setIfInBounds_toArray, List.set_cons_zero, List.set_cons_succ]
  refine' anyI_take R 10 rfl (v := ?_) (by kernel_rfl) (by rfl) (fun V hV => ?hy) HS0.out ?_
  case hy => ((try dsimp only at hV);  have y0 := (hV.cell (p := ⟨g, 0, none⟩) hg).trans z0; go_simp; try with_reducible rfl)
  try simp only [Act.put, List.getElem_toArray, List.getElem_cons_succ, List.getElem_cons_zero, List.setIfInBounds_toArray, List.set_cons_zero, List.set_cons_succ]
  refine anyI_one 11 (by kernel_rfl) rfl ?_
  try simp only [List.getElem_toArray, List.getElem_cons_succ, List.getElem_cons_zero]
  refine opE_step ?_
  rw [if_pos (by rfl)]
  go_simp
  have hrp : RdB (w2.alloc (.cells (zcells 32) 5)).drew (w2.alloc (.cells (zcells 32) 5)).drew.heap.size (some ⟨w2.heap.size, 0, none⟩) (zeroL 32) := (rdb_zc w2).keep (Nat.le_refl _) (fun _ _ => rfl)
  replace HS0 := Lib.hid (show Below w2.heap.size w2 (w2.alloc (.cells (zcells 32) 5)).drew from (below1 w2 _).drew)
  obtain ⟨V11, hV11⟩ : ∃ V, (w2.alloc (.cells (zcells 32) 5)).drew = V := ⟨_, rfl⟩
  rw [hV11] at HS0 hrp ⊢
  clear hV11
  try dsimp only
  refine ⟨HS0.out, ?_⟩
  try simp only [Act.put, List.getElem_toArray, List.getElem_cons_succ, List.getElem_cons_zero, List.setIfInBounds_toArray, List.set_cons_zero, List.set_cons_succ]
  refine anyI_one 12 (by kernel_rfl) rfl ?_
  try simp only [List.getElem_toArray, List.getElem_cons_succ, List.getElem_cons_zero]
  refine opE_step ?_
  rw [if_pos (by rfl)]
  go_simp
  go_at_call 31
  have hsz := HS0.out.size
  have CS := Lib.hid (sameT_any (c := c1) (c' := 32) (bs := zeroL 32) zl32.symm zl32.symm ((hr0.below HS0.out (Nat.le_refl _)).more hsz) hrp)
  (with_reducible refine CS.out.mono ?_)
  rintro e w12 ⟨rfl, m12, hw12⟩
  replace HS0 := Lib.hid (show Below w2.heap.size w2 w12 by rw [hw12]; exact HS0.out.trans (belowN _ _ m12))
  clear hw12
  try dsimp only
  refine ⟨HS0.out, ?_⟩
  try simp only [Act.put, List.getElem_toArray, List.getElem_cons_succ, List.getElem_cons_zero, List.setIfInBounds_toArray, List.set_cons_zero, List.set_cons_succ]
  refine' anyI_take R 13 rfl (v := ?_) (by kernel_rfl) (by rfl) (fun V hV => ?hy) HS0.out ?_
  case hy => ((try dsimp only at hV);  have y0 := (hV.cell (p := ⟨g, 0, none⟩) hg).trans z0; go_simp; try with_reducible rfl)
  try simp only [Act.put, List.getElem_toArray, List.getElem_cons_succ, List.getElem_cons_zero, List.setIfInBounds_toArray, List.set_cons_zero, List.set_cons_succ]
  refine' anyI_take R 14 rfl (v := ?_) (by kernel_rfl) (by rfl) (fun V hV => ?hy) HS0.out ?_
  case hy => ((try dsimp only at hV);  have y0 := (hV.cell (p := ⟨g, 0, none⟩) hg).trans z0; go_simp; try with_reducible rfl)
  try simp only [Act.put, List.getElem_toArray, List.getElem_cons_succ, List.getElem_cons_zero, List.setIfInBounds_toArray, List.set_cons_zero, List.set_cons_succ]
  refine anyI_tail (by kernel_rfl) ?_
  try simp only [List.drop_succ_cons, List.drop_zero]
  clear R
  go_wp2_with fail
  refine NoPanic.normal ?_
  go_wp2_with fail
  go_ret
  exact ⟨rfl, F.trans (HS0.out.mono F.size)⟩
end Go.Proofs.Ytpaegibaikpikaa
end
