/- The document's own P and Q. -/
import Derived.Test.YtfbfodcjfcnfoaaSyndQ
import Derived.Test.YtfbfodcjfcnfoaaRefPow
namespace Go.Proofs.Ytfbfodcjfcnfoaa
open Go.RowKit

theorem refMul_u8 (x : UInt8) (f : Nat) (hf : f < 256) (w : World) : Calls Try.prog 24 #[.int .u8 (x.toNat : Int), .int .u8 (f : Int)] w fun e w' => e = .returned (.int .u8 ((mulU x f).toNat : Int)) ∧ w' = w := by
  rw [mulU_nat]
  exact refMul_any x.toNat f x.toNat_lt hf w
set_option maxHeartbeats 400000 in
theorem alike_any (A : Option Addr) (rs : List (List UInt8)) (n cp : Nat) (w : World) (hn : rs.length = n) (hr : RdR w w.heap.size A rs) :
    Calls Try.prog 22 #[.slice A n cp] w fun e w' => e = .returned (.bool (alikeB rs)) ∧ w' = w := by
  subst hn
  have hm := hr.1
  by_cases h0 : rs.length = 0
  · have hz := Lib.hid (show alikeB rs = false by rw [List.eq_nil_of_length_eq_zero h0]; rfl)
    have Hz := Lib.hid h0
    clear h0
    go_enter Try.func22, Try.ntmps22
    rw [Hz.out]
    go_wp2
    go_loop [7] (fun i => i = .int .i64 0) (fun _ => 0)
    case atStart => rfl
    case round =>
      subst hrel
      go_wp2
      go_ret
      exact ⟨by rw [hz.out]; rfl, rfl⟩
  · obtain ⟨b, off, rfl, hb, hc⟩ := hr.2 (by omega)
    have Hc := Lib.hid hc
    obtain ⟨A0, c0, k0, r0⟩ := hc 0 (by omega)
    have Hno := Lib.hid (fun k => @alikeB_no rs k)
    have Hyes := Lib.hid (@alikeB_iff rs)
    have hN := r0.1
    rw [Nat.add_zero] at k0
    have i0 : (0 : Int) < (rs.length : Int) := by omega
    have i1 : 0 < rs.length := by omega
    generalize (rs.getD 0 []).length = N at k0 hN Hno Hyes
    clear hc h0 hr r0
    go_enter Try.func22, Try.ntmps22
    go_wp2
    go_loop [7] (fun i => ∃ k : Nat, k ≤ rs.length ∧ i = .int .i64 k ∧ Hid (∀ j, j < k → (rs.getD j []).length = N)) (fun i => rs.length - (intOf i).toNat)
    case atStart => exact ⟨0, Nat.zero_le _, rfl, fun j hj => by omega⟩
    case round =>
      obtain ⟨k, hk, rfl, Hj⟩ := hrel
      by_cases hlt : k < rs.length
      · obtain ⟨A', c', h1, h2⟩ := Hc.out k hlt
        have Hno := Lib.hid (Hno.out k hlt)
        by_cases he : (rs.getD k []).length = N
        · have Hn : Hid (∀ j, j < k + 1 → (rs.getD j []).length = N) := fun j hj => by
            by_cases hjk : j = k
            · subst hjk; exact he
            · exact Hj.out j (by omega)
          rw [he] at h1
          clear h2 he
          go_wp2
          go_round
          case rel => exact ⟨k + 1, by omega, by go_num, Hn⟩
          case measure => simp [intOf]; omega
        · have hz := Lib.hid (Hno.out he)
          have hne := int_bne_yes he
          clear he
          generalize rs.getD k [] = row at h1 h2 hne
          go_wp2
          go_ret
          exact ⟨by rw [hz.out]; rfl, rfl⟩
      · obtain rfl : k = rs.length := by omega
        have hz := Lib.hid (Hyes.out.2 ⟨i1, Hj.out⟩)
        go_wp2
        go_ret
        exact ⟨by rw [hz.out]; rfl, rfl⟩

set_option maxHeartbeats 800000 in
theorem refP_any (A : Option Addr) (rs : List (List UInt8)) (n cp : Nat) (w : World) (hn : rs.length = n) (hr : RdR w w.heap.size A rs) :
    Calls Try.prog 15 #[.slice A n cp] w fun e w' => ∃ v, e = .returned v ∧ OwB 5 w' w.heap.size v (pB rs) ∧ Below w.heap.size w w' := by
  have C := Lib.hid (alike_any A rs n cp w hn hr)
  subst hn
  have hm := hr.1
  by_cases h0 : alikeB rs = true
  · obtain ⟨hp, hall⟩ := alikeB_iff.1 h0
    have Hs : Hid (pB rs = foldG gP 0 (zeroL (rs.getD 0 []).length) rs) := if_pos h0
    rw [h0] at C
    clear h0
    have Hall := Lib.hid hall
    obtain ⟨b, off, rfl, hbb, hc⟩ := hr.2 hp
    have Hc := Lib.hid hc
    obtain ⟨A0, c0, k0, r0⟩ := hc 0 hp
    have hN := r0.1
    rw [Nat.add_zero] at k0
    have i0 : (0 : Int) < (rs.length : Int) := by omega
    have Hf := Lib.hid (foldG_snoc gP (zeroL (rs.getD 0 []).length) rs)
    have Hl := Lib.hid (foldG_take_len gP_len (z := zeroL (rs.getD 0 []).length) (fun k hk => (hall k hk).trans (zeroL_len _).symm))
    rw [zeroL_len] at Hl
    have own0 := own_make 5 w (rs.getD 0 []).length hN
    have km := make_bytes (rs.getD 0 []).length hN
    rw [show List.replicate (rs.getD 0 []).length (0 : UInt8) = zeroL (rs.getD 0 []).length from rfl] at own0
    clear hc hall hr r0
    generalize (rs.getD 0 []).length = N at Hs Hall k0 hN Hf Hl own0 km
    generalize zeroL N = zs at Hs Hf Hl own0
    go_enter Try.func15, Try.ntmps15
    go_wp2_with fail
    refine C.out.mono ?_
    rintro e w1 ⟨rfl, rfl⟩
    go_wp2
    go_loopw [18] (fun i wr => ∃ k : Nat, k ≤ rs.length ∧ i = .int .i64 k ∧ OwB 5 wr w1.heap.size (.slice (some ⟨w1.heap.size, 0, none⟩) N N) (foldG gP 0 zs (rs.take k)) ∧ Below w1.heap.size w1 wr) (fun i _ => rs.length - (intOf i).toNat)
    case atStart => exact ⟨0, Nat.zero_le _, rfl, own0, below1 _ _⟩
    case round =>
      obtain ⟨k, hk, rfl, hown, hbr⟩ := hrel
      have Hy := Lib.hid (Hl.out k)
      by_cases hlt : k < rs.length
      · obtain ⟨A', c', h1, h2⟩ := Hc.out k hlt
        have Hsn := Lib.hid (Hf.out k hlt)
        have hln := Hall.out k hlt
        rw [hln] at h1
        have Hln := Lib.hid hln
        clear hln
        rw [← hbr.cell (p := ⟨b, off + k, none⟩) hbb] at h1
        generalize rs.getD k [] = row at h1 h2 Hsn Hln
        generalize foldG gP 0 zs (rs.take k) = y at hown Hsn Hy
        have hlen := h2.1
        go_wp2
        go_loopw [24] (fun i wr => ∃ j : Nat, j ≤ N ∧ i = .int .i64 j ∧ OwB 5 wr w1.heap.size (.slice (some ⟨w1.heap.size, 0, none⟩) N N) (xorTo y row j) ∧ Below w1.heap.size w1 wr) (fun i _ => N - (intOf i).toNat)
        case atStart => exact ⟨0, Nat.zero_le _, rfl, by rw [xorTo_zero]; exact hown, hbr⟩
        case round =>
          obtain ⟨j, hj, rfl, hown2, hbr2⟩ := hrel
          have Hry := Lib.hid (show row.length = y.length from Hln.out.trans Hy.out.symm)
          by_cases hlt2 : j < N
          · obtain ⟨b2, off2, rfl, hb2, hc2⟩ := h2.2 (by have := Hln.out; omega)
            have h3 := hc2 j (by have := Hln.out; omega)
            rw [← hbr2.cell (p := ⟨b2, off2 + j, none⟩) hb2] at h3
            obtain ⟨h4, h5⟩ := hown2.cell ((xorTo_len Hry.out (by have := Hy.out; omega)).trans Hy.out) j hlt2
            rw [xorTo_get Hry.out (by have := Hy.out; omega)] at h4
            have Hset := Lib.hid (hown2.set ((xorTo_len Hry.out (by have := Hy.out; omega)).trans Hy.out) j (y.getD j 0 ^^^ row.getD j 0)).1
            have Hx := Lib.hid (xorTo_succ Hry.out (show j < y.length by have := Hy.out; omega))
            have ex := xor_u8 (y.getD j 0) (row.getD j 0)
            have i0 : (0 : Int) ≤ (j : Int) := by omega
            have i1 : (j : Int) < (N : Int) := by omega
            generalize row.getD j 0 = c at h3 Hset Hx ex
            generalize y.getD j 0 = d at h4 Hset Hx ex
            generalize d ^^^ c = dc at Hset Hx ex
            clear hc2
            go_wp2
            go_roundw
            case rel => exact ⟨j + 1, by omega, by go_num, by rw [← Hx.out]; exact Hset.out, hbr2.setCell (p := ⟨w1.heap.size, j, none⟩) (Nat.le_refl _) _⟩
            case measure => simp [intOf]; omega
          · obtain rfl : j = N := by omega
            have Hxa := Lib.hid (show xorTo y row j = xorL y row by rw [← Hy.out]; exact xorTo_all Hry.out)
            rw [Hxa.out] at hown2
            go_wp2
            go_roundw
            case rel => exact ⟨k + 1, by omega, by go_num, by rw [Hsn.out]; exact hown2, hbr2⟩
            case measure => simp [intOf]; omega
      · obtain rfl : k = rs.length := by omega
        have Hall2 := Lib.hid (show foldG gP 0 zs (rs.take rs.length) = pB rs by rw [List.take_length]; exact Hs.out.symm)
        rw [Hall2.out] at hown
        go_wp2
        go_ret
        exact ⟨_, rfl, hown, hbr⟩
  · have hz : alikeB rs = false := by simpa using h0
    have Hp : Hid (pB rs = []) := if_neg h0
    rw [hz] at C
    clear hz h0
    go_enter Try.func15, Try.ntmps15
    go_wp2_with fail
    refine C.out.mono ?_
    rintro e w1 ⟨rfl, rfl⟩
    go_wp2
    go_ret
    exact ⟨_, rfl, nil_own _ _ Hp.out, Below.refl _ _⟩

set_option maxHeartbeats 800000 in
theorem refQ_any (A : Option Addr) (rs : List (List UInt8)) (n cp : Nat) (w : World) (hn : rs.length = n) (hr : RdR w w.heap.size A rs) :
    Calls Try.prog 16 #[.slice A n cp] w fun e w' => ∃ v, e = .returned v ∧ OwB 5 w' w.heap.size v (qB rs) ∧ Below w.heap.size w w' := by
  have C := Lib.hid (alike_any A rs n cp w hn hr)
  subst hn
  have hm := hr.1
  by_cases h0 : alikeB rs = true
  · obtain ⟨hp, hall⟩ := alikeB_iff.1 h0
    have Hs : Hid (qB rs = foldG gQ 0 (zeroL (rs.getD 0 []).length) rs) := if_pos h0
    rw [h0] at C
    clear h0
    have Hall := Lib.hid hall
    obtain ⟨b, off, rfl, hbb, hc⟩ := hr.2 hp
    have Hc := Lib.hid hc
    obtain ⟨A0, c0, k0, r0⟩ := hc 0 hp
    have hN := r0.1
    rw [Nat.add_zero] at k0
    have i0 : (0 : Int) < (rs.length : Int) := by omega
    have Hf := Lib.hid (foldG_snoc gQ (zeroL (rs.getD 0 []).length) rs)
    have Hl := Lib.hid (foldG_take_len gQ_len (z := zeroL (rs.getD 0 []).length) (fun k hk => (hall k hk).trans (zeroL_len _).symm))
    rw [zeroL_len] at Hl
    have own0 := own_make 5 w (rs.getD 0 []).length hN
    have km := make_bytes (rs.getD 0 []).length hN
    rw [show List.replicate (rs.getD 0 []).length (0 : UInt8) = zeroL (rs.getD 0 []).length from rfl] at own0
    clear hc hall hr r0
    generalize (rs.getD 0 []).length = N at Hs Hall k0 hN Hf Hl own0 km
    generalize zeroL N = zs at Hs Hf Hl own0
    go_enter Try.func16, Try.ntmps16
    go_wp2_with fail
    refine C.out.mono ?_
    rintro e w1 ⟨rfl, rfl⟩
    go_wp2
    go_loopw [19] (fun i wr => ∃ k : Nat, k ≤ rs.length ∧ i = .int .i64 k ∧ OwB 5 wr w1.heap.size (.slice (some ⟨w1.heap.size, 0, none⟩) N N) (foldG gQ 0 zs (rs.take k)) ∧ Below w1.heap.size w1 wr) (fun i _ => rs.length - (intOf i).toNat)
    case atStart => exact ⟨0, Nat.zero_le _, rfl, own0, below1 _ _⟩
    case round =>
      obtain ⟨k, hk, rfl, hown, hbr⟩ := hrel
      have Hy := Lib.hid (Hl.out k)
      by_cases hlt : k < rs.length
      · obtain ⟨A', c', h1, h2⟩ := Hc.out k hlt
        have Hsn := Lib.hid (show foldG gQ 0 zs (rs.take (k + 1)) = xorL (foldG gQ 0 zs (rs.take k)) (scaleL (rs.getD k []) (gpow (k : Int))) from Hf.out k hlt)
        have hln := Hall.out k hlt
        rw [hln] at h1
        have Hln := Lib.hid hln
        clear hln
        rw [← hbr.cell (p := ⟨b, off + k, none⟩) hbb] at h1
        generalize rs.getD k [] = row at h1 h2 Hsn Hln
        generalize foldG gQ 0 zs (rs.take k) = y at hown Hsn Hy
        have hlen := h2.1
        have CP := Lib.hid (fun W => refPow_any (k : Int) (by omega) W)
        have hfp := gpow_lt (k : Int)
        generalize gpow (k : Int) = f at CP Hsn hfp
        go_wp2_with fail
        refine (CP.out _).mono ?_
        rintro e w2 ⟨rfl, rfl⟩
        go_wp2
        go_loopw [28] (fun i wr => ∃ j : Nat, j ≤ N ∧ i = .int .i64 j ∧ OwB 5 wr w1.heap.size (.slice (some ⟨w1.heap.size, 0, none⟩) N N) (xorTo y (scaleL row f) j) ∧ Below w1.heap.size w1 wr) (fun i _ => N - (intOf i).toNat)
        case atStart => exact ⟨0, Nat.zero_le _, rfl, by rw [xorTo_zero]; exact hown, hbr⟩
        case round =>
          obtain ⟨j, hj, rfl, hown2, hbr2⟩ := hrel
          have Hry := Lib.hid (show (scaleL row f).length = y.length from (scaleL_len _ _).trans (Hln.out.trans Hy.out.symm))
          by_cases hlt2 : j < N
          · obtain ⟨b2, off2, rfl, hb2, hc2⟩ := h2.2 (by have := Hln.out; omega)
            have h3 := hc2 j (by have := Hln.out; omega)
            rw [← hbr2.cell (p := ⟨b2, off2 + j, none⟩) hb2] at h3
            have hown3 := hown2.drewI
            have hbr3 := hbr2.drew
            obtain ⟨h4, h5⟩ := hown3.cell ((xorTo_len Hry.out (by have := Hy.out; omega)).trans Hy.out) j hlt2
            rw [xorTo_get Hry.out (by have := Hy.out; omega)] at h4
            have Hset := Lib.hid (hown3.set ((xorTo_len Hry.out (by have := Hy.out; omega)).trans Hy.out) j (y.getD j 0 ^^^ (scaleL row f).getD j 0)).1
            have Hx := Lib.hid (xorTo_succ Hry.out (show j < y.length by have := Hy.out; omega))
            rw [scaleL_get] at Hset Hx
            have i0 : (0 : Int) ≤ (j : Int) := by omega
            have i1 : (j : Int) < (N : Int) := by omega
            generalize row.getD j 0 = c at h3 Hset Hx
            have CM := Lib.hid (fun W => refMul_u8 c f hfp W)
            generalize mulU c f = m at CM Hset Hx
            have ex := xor_u8 (y.getD j 0) m
            generalize y.getD j 0 = d at h4 Hset Hx ex
            generalize d ^^^ m = dc at Hset Hx ex
            clear hc2
            go_wp2_with fail
            refine wp_region_still_tail 9 (by kernel_rfl) (by kernel_rfl) ?_
            simp only [List.take_succ_cons, List.take_zero, List.drop_succ_cons, List.drop_zero]
            change wpStill _ _ wr.drew _ _ _
            generalize hwd : wr.drew = wd at h4 h5 Hset hbr3 hown3 ⊢
            have Hwd := Lib.hid hwd
            clear hwd
            repeat (first | still_step | (still_call (CM.out _)))
            refine wpStill_nil ?_
            change wpList _ _ _ _ _ wr.drew
            rw [Hwd.out]
            go_wp2
            go_roundw
            case rel => exact ⟨j + 1, by omega, by go_num, by rw [← Hx.out]; exact Hset.out, hbr3.setCell (p := ⟨w1.heap.size, j, none⟩) (Nat.le_refl _) _⟩
            case measure => simp [intOf]; omega
          · obtain rfl : j = N := by omega
            have Hxa := Lib.hid (show xorTo y (scaleL row f) j = xorL y (scaleL row f) by rw [← Hy.out]; exact xorTo_all Hry.out)
            rw [Hxa.out] at hown2
            go_wp2
            go_roundw
            case rel => exact ⟨k + 1, by omega, by go_num, by rw [Hsn.out]; exact hown2, hbr2⟩
            case measure => simp [intOf]; omega
      · obtain rfl : k = rs.length := by omega
        have Hall2 := Lib.hid (show foldG gQ 0 zs (rs.take rs.length) = qB rs by rw [List.take_length]; exact Hs.out.symm)
        rw [Hall2.out] at hown
        go_wp2
        go_ret
        exact ⟨_, rfl, hown, hbr⟩
  · have hz : alikeB rs = false := by simpa using h0
    have Hp : Hid (qB rs = []) := if_neg h0
    rw [hz] at C
    clear hz h0
    go_enter Try.func16, Try.ntmps16
    go_wp2_with fail
    refine C.out.mono ?_
    rintro e w1 ⟨rfl, rfl⟩
    go_wp2
    go_ret
    exact ⟨_, rfl, nil_own _ _ Hp.out, Below.refl _ _⟩
end Go.Proofs.Ytfbfodcjfcnfoaa
