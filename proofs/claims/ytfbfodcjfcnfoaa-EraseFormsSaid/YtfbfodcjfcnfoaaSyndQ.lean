/- What synd.Q, Add and Scale compute. -/
import Derived.Test.YtfbfodcjfcnfoaaSynd
namespace Go.Proofs.Ytfbfodcjfcnfoaa
open Go.RowKit

theorem OwB.drewI {e : TypeId} {w : World} {B : Nat} {v : Value} {bs : List UInt8} (h : OwB e w B v bs) : OwB e w.drew B v bs := h
theorem mul_u8 (x : UInt8) (f : Nat) (hf : f < 256) (w : World) : Calls Try.prog 34 #[.int .u8 (x.toNat : Int), .int .u8 (f : Int)] w fun e w' => e = .returned (.int .u8 ((mulU x f).toNat : Int)) ∧ w' = w := by
  rw [mulU_nat]
  exact mul_any x.toNat f x.toNat_lt hf w

set_option maxHeartbeats 800000 in
theorem q_any (A : Option Addr) (rs : List (List UInt8)) (n cp : Nat) (w : World) (hn : rs.length = n) (hr : RdR w w.heap.size A rs) :
    Calls Try.prog 29 #[.slice A n cp] w fun e w' => ∃ v, e = .returned v ∧ OwB 5 w' w.heap.size v (qB rs) ∧ Below w.heap.size w w' := by
  have C := Lib.hid (zeros_any A rs n cp w hn hr)
  subst hn
  have hm := hr.1
  by_cases h0 : zerosB rs = []
  · have Hp : Hid (qB rs = []) := sumG_nil gQ_len h0
    rw [h0] at C
    clear h0
    go_enter Try.func29, Try.ntmps29
    go_wp2_with fail
    refine C.out.mono ?_
    rintro e w1 ⟨v, rfl, ho, hb⟩
    obtain ⟨A1, c1, rfl⟩ := own_nil_len ho
    go_wp2
    go_ret
    exact ⟨_, rfl, nil_own _ _ Hp.out, hb⟩
  · obtain ⟨hall, hs, hal⟩ := sumG_cons (g := gQ) h0
    have Hs : Hid (qB rs = foldG gQ 0 (zerosB rs) rs) := hs
    have Hall := Lib.hid hall
    have Hf := Lib.hid (foldG_snoc gQ (zerosB rs) rs)
    have Hl := Lib.hid (foldG_take_len gQ_len hall)
    have hpos : 0 < (zerosB rs).length := by cases hz : zerosB rs with | nil => exact absurd hz h0 | cons a b => simp
    clear hall hs hal h0
    generalize zerosB rs = zs at C Hs Hall Hf Hl hpos
    go_enter Try.func29, Try.ntmps29
    go_wp2_with fail
    refine C.out.mono ?_
    rintro e w1 ⟨v, rfl, ho, hb⟩
    obtain ⟨g, cap, rfl, hg, hg1, hcap, _, _⟩ := ho.pos hpos
    have hzl := ho.2
    have e0 : ((zs.length : Int) == 0) = false := by rw [beq_eq_false_iff_ne]; omega
    go_wp2
    go_loopw [16] (fun i wr => ∃ k : Nat, k ≤ rs.length ∧ i = .int .i64 k ∧ OwB 5 wr w.heap.size (.slice (some ⟨g, 0, none⟩) zs.length cap) (foldG gQ 0 zs (rs.take k)) ∧ Below w.heap.size w wr) (fun i _ => rs.length - (intOf i).toNat)
    case atStart => exact ⟨0, Nat.zero_le _, rfl, ho, hb⟩
    case round =>
      obtain ⟨k, hk, rfl, hown, hbr⟩ := hrel
      have Hy := Lib.hid (Hl.out k)
      by_cases hlt : k < rs.length
      · obtain ⟨b, off, rfl, hbb, hc⟩ := hr.2 (by omega)
        obtain ⟨A', c', h1, h2⟩ := hc k hlt
        have hln := Hall.out k hlt
        rw [hln] at h1
        have Hln := Lib.hid hln
        have Hsn := Lib.hid (show foldG gQ 0 zs (rs.take (k + 1)) = xorL (foldG gQ 0 zs (rs.take k)) (scaleL (rs.getD k []) (gpow (k : Int))) from Hf.out k hlt)
        clear hln hc
        rw [← hbr.cell (p := ⟨b, off + k, none⟩) hbb] at h1
        generalize rs.getD k [] = row at h1 h2 Hsn Hln
        generalize foldG gQ 0 zs (rs.take k) = y at hown Hsn Hy
        have hlen := h2.1
        have CP := Lib.hid (fun W => pow_any (k : Int) (by omega) W)
        have hfp := gpow_lt (k : Int)
        generalize gpow (k : Int) = f at CP Hsn hfp
        go_wp2_with fail
        refine (CP.out _).mono ?_
        rintro e w2 ⟨rfl, rfl⟩
        go_wp2
        go_loopw [25] (fun i wr => ∃ j : Nat, j ≤ zs.length ∧ i = .int .i64 j ∧ OwB 5 wr w.heap.size (.slice (some ⟨g, 0, none⟩) zs.length cap) (xorTo y (scaleL row f) j) ∧ Below w.heap.size w wr) (fun i _ => zs.length - (intOf i).toNat)
        case atStart => exact ⟨0, Nat.zero_le _, rfl, by rw [xorTo_zero]; exact hown, hbr⟩
        case round =>
          obtain ⟨j, hj, rfl, hown2, hbr2⟩ := hrel
          have Hry := Lib.hid (show (scaleL row f).length = y.length from (scaleL_len _ _).trans (Hln.out.trans Hy.out.symm))
          by_cases hlt2 : j < zs.length
          · obtain ⟨b2, off2, rfl, hb2, hc2⟩ := h2.2 (by have := Hln.out; omega)
            have h3 := hc2 j (by have := Hln.out; omega)
            rw [← hbr2.cell (p := ⟨b2, off2 + j, none⟩) hb2] at h3
            have hown3 := hown2.drewI
            have hbr3 := hbr2.drew
            obtain ⟨h4, h5⟩ := hown3.cell ((xorTo_len Hry.out (by have := Hy.out; omega)).trans Hy.out) j hlt2
            rw [xorTo_get Hry.out (by have := Hy.out; omega)] at h4
            have Hset := Lib.hid (hown3.set ((xorTo_len Hry.out (by have := Hy.out; omega)).trans Hy.out) j (y.getD j 0 ^^^ (scaleL row f).getD j 0)).1
            have Hx := Lib.hid (xorTo_succ Hry.out (show j < y.length by have := Hy.out; omega))
            rw [scaleL_get] at Hset Hx
            have i0 : (0 : Int) ≤ (j : Int) := by omega
            have i1 : (j : Int) < (zs.length : Int) := by omega
            generalize row.getD j 0 = c at h3 Hset Hx
            have CM := Lib.hid (fun W => mul_u8 c f hfp W)
            generalize mulU c f = m at CM Hset Hx
            have ex := xor_u8 (y.getD j 0) m
            generalize y.getD j 0 = d at h4 Hset Hx ex
            generalize d ^^^ m = dc at Hset Hx ex
            clear hc2
            go_wp2_with fail
            refine wp_region_still_tail 9 (by kernel_rfl) (by kernel_rfl) ?_
            simp only [List.take_succ_cons, List.take_zero, List.drop_succ_cons, List.drop_zero]
            change wpStill _ _ wr.drew _ _ _
            generalize hwd : wr.drew = wd at h4 h5 Hset hbr3 hown3 ⊢
            have Hwd := Lib.hid hwd
            clear hwd
            repeat (first | still_step | (still_call (CM.out _)))
            refine wpStill_nil ?_
            change wpList _ _ _ _ _ wr.drew
            rw [Hwd.out]
            go_wp2
            go_roundw
            case rel => exact ⟨j + 1, by omega, by go_num, by rw [← Hx.out]; exact Hset.out, hbr3.setCell (p := ⟨g, j, none⟩) hg _⟩
            case measure => simp [intOf]; omega
          · obtain rfl : j = zs.length := by omega
            have Hxa := Lib.hid (show xorTo y (scaleL row f) zs.length = xorL y (scaleL row f) by rw [← Hy.out]; exact xorTo_all Hry.out)
            rw [Hxa.out] at hown2
            go_wp2
            go_roundw
            case rel => exact ⟨k + 1, by omega, by go_num, by rw [Hsn.out]; exact hown2, hbr2⟩
            case measure => simp [intOf]; omega
      · obtain rfl : k = rs.length := by omega
        have Hall2 := Lib.hid (show foldG gQ 0 zs (rs.take rs.length) = qB rs by rw [List.take_length]; exact Hs.out.symm)
        rw [Hall2.out] at hown
        go_wp2
        go_ret
        exact ⟨_, rfl, hown, hbr⟩

theorem add_any (A A' : Option Addr) (a b : List UInt8) (n n' c c' B : Nat) (w : World) (hn : n = a.length) (hn' : n' = b.length) (hr : RdB w B A a) (hr' : RdB w B A' b) (hB : B ≤ w.heap.size) :
    Calls Try.prog 27 #[.slice A n c, .slice A' n' c'] w fun e w' => ∃ v, e = .returned v ∧ OwB 5 w' w.heap.size v (pB [a, b]) ∧ Below w.heap.size w w' := by
  subst hn hn'
  have C := Lib.hid (p_any (some ⟨w.heap.size, 0, none⟩) [a, b] 2 2 (w.alloc (.cells #[.slice A a.length c, .slice A' b.length c'] 22)) rfl (by have := rdr_two (c := c) (c' := c') (t := 22) hr hr' hB; exact this.more (by simp)))
  go_enter Try.func27, Try.ntmps27
  go_wp2_with fail
  refine C.out.mono ?_
  rintro e w1 ⟨v, rfl, ho, hb⟩
  go_wp2
  go_ret
  exact ⟨v, rfl, ho.le (by simp), (below1 w _).trans (hb.mono (by simp))⟩

/-- a times f, its first j bytes so far. -/
def scTo (a : List UInt8) (f j : Nat) : List UInt8 := scaleL (a.take j) f ++ zeroL (a.length - j)
theorem scTo_len (a : List UInt8) (f : Nat) {j : Nat} (hj : j ≤ a.length) : (scTo a f j).length = a.length := by
  simp [scTo, scaleL_len, zeroL_len]; omega
theorem scTo_zero (a : List UInt8) (f : Nat) : scTo a f 0 = List.replicate a.length 0 := by simp [scTo, scaleL, zeroL]
theorem scTo_all (a : List UInt8) (f : Nat) : scTo a f a.length = scaleL a f := by simp [scTo, zeroL]
theorem scTo_succ (a : List UInt8) (f : Nat) {j : Nat} (hj : j < a.length) : (scTo a f j).set j (mulU (a.getD j 0) f) = scTo a f (j + 1) := by
  have hl : (scaleL (a.take j) f).length = j := by rw [scaleL_len]; simp; omega
  unfold scTo
  rw [List.set_append_right _ _ (by omega), hl, Nat.sub_self]
  rw [show a.length - j = (a.length - (j + 1)) + 1 from by omega]
  unfold zeroL
  rw [List.replicate_succ, List.set_cons_zero, List.take_succ_eq_append_getElem hj]
  unfold scaleL
  rw [List.map_append, List.append_assoc]
  simp [hj]
set_option maxHeartbeats 400000 in
theorem scale_any (A : Option Addr) (a : List UInt8) (n c f : Nat) (w : World) (hn : n = a.length) (hf : f < 256) (hr : RdB w w.heap.size A a) :
    Calls Try.prog 30 #[.slice A n c, .int .u8 (f : Int)] w fun e w' => ∃ v, e = .returned v ∧ OwB 5 w' w.heap.size v (scaleL a f) ∧ Below w.heap.size w w' := by
  subst hn
  have hm := hr.1
  have km := make_bytes a.length hm
  have own0 := own_make 5 w a.length hm
  rw [← scTo_zero a f] at own0
  go_enter Try.func30, Try.ntmps30
  go_wp2
  go_loopw [13] (fun i wr => ∃ j : Nat, j ≤ a.length ∧ i = .int .i64 j ∧ OwB 5 wr w.heap.size (.slice (some ⟨w.heap.size, 0, none⟩) a.length a.length) (scTo a f j) ∧ Below w.heap.size w wr) (fun i _ => a.length - (intOf i).toNat)
  case atStart => exact ⟨0, Nat.zero_le _, rfl, own0, below1 _ _⟩
  case round =>
    obtain ⟨j, hj, rfl, hown, hbr⟩ := hrel
    by_cases hlt : j < a.length
    · obtain ⟨b2, off2, rfl, hb2, hc2⟩ := hr.2 (by omega)
      have h3 := hc2 j hlt
      rw [← hbr.cell (p := ⟨b2, off2 + j, none⟩) hb2] at h3
      obtain ⟨h4, h5⟩ := hown.cell (scTo_len a f (by omega)) j hlt
      have Hset := Lib.hid (hown.set (scTo_len a f (by omega)) j (mulU (a.getD j 0) f)).1
      rw [scTo_succ a f hlt] at Hset
      have i0 : (0 : Int) ≤ (j : Int) := by omega
      have i1 : (j : Int) < (a.length : Int) := by omega
      have CM := Lib.hid (fun W => mul_u8 (a.getD j 0) f hf W)
      generalize mulU (a.getD j 0) f = m at CM Hset
      generalize a.getD j 0 = x at h3 CM
      generalize (scTo a f j).getD j 0 = d at h4
      clear hc2
      go_wp2_with fail
      refine (CM.out _).mono ?_
      rintro e w2 ⟨rfl, rfl⟩
      go_wp2
      go_roundw
      case rel => exact ⟨j + 1, by omega, by go_num, Hset.out, hbr.setCell (p := ⟨w.heap.size, j, none⟩) (Nat.le_refl _) _⟩
      case measure => simp [intOf]; omega
    · obtain rfl : j = a.length := by omega
      rw [scTo_all] at hown
      go_wp2
      go_ret
      exact ⟨_, rfl, hown, hbr⟩
end Go.Proofs.Ytfbfodcjfcnfoaa
