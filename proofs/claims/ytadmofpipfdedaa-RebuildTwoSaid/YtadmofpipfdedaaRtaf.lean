/- Texts put together: KeepCut, SyndQ, Parts, SyndOwn, RefPow, RefSynd. -/
import Derived.Test.YtadmofpipfdedaaRtad
import Derived.Test.YtadmofpipfdedaaRtac
section
namespace Go.Proofs.Ytadmofpipfdedaa
open Go.RowKit

end Go.Proofs.Ytadmofpipfdedaa
end
section
set_option maxRecDepth 20000
namespace Go.Proofs.Ytadmofpipfdedaa
open Go.RowKit

theorem OwB.drewI {e : TypeId} {w : World} {B : Nat} {v : Value} {bs : List UInt8} (h : OwB e w B v bs) : OwB e w.drew B v bs := h
theorem mul_u8 (x : UInt8) (f : Nat) (hf : f < 256) (w : World) : Calls Try.prog 101 #[.int .u8 (x.toNat : Int), .int .u8 (f : Int)] w fun e w' => e = .returned (.int .u8 ((mulU x f).toNat : Int)) ∧ w' = w := by
  rw [mulU_nat]
  exact mul_any x.toNat f x.toNat_lt hf w

set_option maxHeartbeats 800000 in
theorem q_any (A : Option Addr) (rs : List (List UInt8)) (n cp : Nat) (w : World) (hn : rs.length = n) (hr : RdR w w.heap.size A rs) :
    Calls Try.prog 93 #[.slice A n cp] w fun e w' => ∃ v, e = .returned v ∧ OwB 5 w' w.heap.size v (qB rs) ∧ Below w.heap.size w w' := by
  have C := Lib.hid (zeros_any A rs n cp w hn hr)
  subst hn
  have hm := hr.1
  by_cases h0 : zerosB rs = []
  · have Hp : Hid (qB rs = []) := sumG_nil gQ_len h0
    rw [h0] at C
    clear h0
    go_enter Try.func93, Try.ntmps93
    go_wp2_with fail
    refine C.out.mono ?_
    rintro e w1 ⟨v, rfl, ho, hb⟩
    obtain ⟨A1, c1, rfl⟩ := own_nil_len ho
    go_wp2
    go_ret
    exact ⟨_, rfl, nil_own _ _ Hp.out, hb⟩
  · obtain ⟨hall, hs, hal⟩ := sumG_cons (g := gQ) h0
    have Hs : Hid (qB rs = foldG gQ 0 (zerosB rs) rs) := hs
    have Hall := Lib.hid hall
    have Hf := Lib.hid (foldG_snoc gQ (zerosB rs) rs)
    have Hl := Lib.hid (foldG_take_len gQ_len hall)
    have hpos : 0 < (zerosB rs).length := by cases hz : zerosB rs with | nil => exact absurd hz h0 | cons a b => simp
    clear hall hs hal h0
    generalize zerosB rs = zs at C Hs Hall Hf Hl hpos
    go_enter Try.func93, Try.ntmps93
    go_wp2_with fail
    refine C.out.mono ?_
    rintro e w1 ⟨v, rfl, ho, hb⟩
    obtain ⟨g, cap, rfl, hg, hg1, hcap, _, _⟩ := ho.pos hpos
    have hzl := ho.2
    have e0 : ((zs.length : Int) == 0) = false := by rw [beq_eq_false_iff_ne]; omega
    go_wp2
    go_loopw [16] (fun i wr => ∃ k : Nat, k ≤ rs.length ∧ i = .int .i64 k ∧ OwB 5 wr w.heap.size (.slice (some ⟨g, 0, none⟩) zs.length cap) (foldG gQ 0 zs (rs.take k)) ∧ Below w.heap.size w wr) (fun i _ => rs.length - (intOf i).toNat)
    case atStart => exact ⟨0, Nat.zero_le _, rfl, ho, hb⟩
    case round =>
      obtain ⟨k, hk, rfl, hown, hbr⟩ := hrel
      have Hy := Lib.hid (Hl.out k)
      by_cases hlt : k < rs.length
      · obtain ⟨b, off, rfl, hbb, hc⟩ := hr.2 (by omega)
        obtain ⟨A', c', h1, h2⟩ := hc k hlt
        have hln := Hall.out k hlt
        rw [hln] at h1
        have Hln := Lib.hid hln
        have Hsn := Lib.hid (show foldG gQ 0 zs (rs.take (k + 1)) = xorL (foldG gQ 0 zs (rs.take k)) (scaleL (rs.getD k []) (gpow (k : Int))) from Hf.out k hlt)
        clear hln hc
        rw [← hbr.cell (p := ⟨b, off + k, none⟩) hbb] at h1
        generalize rs.getD k [] = row at h1 h2 Hsn Hln
        generalize foldG gQ 0 zs (rs.take k) = y at hown Hsn Hy
        have hlen := h2.1
        have CP := Lib.hid (fun W => pow_any (k : Int) (by omega) W)
        have hfp := gpow_lt (k : Int)
        generalize gpow (k : Int) = f at CP Hsn hfp
        go_wp2_with fail
        refine (CP.out _).mono ?_
        rintro e w2 ⟨rfl, rfl⟩
        go_wp2
        go_loopw [25] (fun i wr => ∃ j : Nat, j ≤ zs.length ∧ i = .int .i64 j ∧ OwB 5 wr w.heap.size (.slice (some ⟨g, 0, none⟩) zs.length cap) (xorTo y (scaleL row f) j) ∧ Below w.heap.size w wr) (fun i _ => zs.length - (intOf i).toNat)
        case atStart => exact ⟨0, Nat.zero_le _, rfl, by rw [xorTo_zero]; exact hown, hbr⟩
        case round =>
          obtain ⟨j, hj, rfl, hown2, hbr2⟩ := hrel
          have Hry := Lib.hid (show (scaleL row f).length = y.length from (scaleL_len _ _).trans (Hln.out.trans Hy.out.symm))
          by_cases hlt2 : j < zs.length
          · obtain ⟨b2, off2, rfl, hb2, hc2⟩ := h2.2 (by have := Hln.out; omega)
            have h3 := hc2 j (by have := Hln.out; omega)
            rw [← hbr2.cell (p := ⟨b2, off2 + j, none⟩) hb2] at h3
            have hown3 := hown2.drewI
            have hbr3 := hbr2.drew
            obtain ⟨h4, h5⟩ := hown3.cell ((xorTo_len Hry.out (by have := Hy.out; omega)).trans Hy.out) j hlt2
            rw [xorTo_get Hry.out (by have := Hy.out; omega)] at h4
            have Hset := Lib.hid (hown3.set ((xorTo_len Hry.out (by have := Hy.out; omega)).trans Hy.out) j (y.getD j 0 ^^^ (scaleL row f).getD j 0)).1
            have Hx := Lib.hid (xorTo_succ Hry.out (show j < y.length by have := Hy.out; omega))
            rw [scaleL_get] at Hset Hx
            have i0 : (0 : Int) ≤ (j : Int) := by omega
            have i1 : (j : Int) < (zs.length : Int) := by omega
            generalize row.getD j 0 = c at h3 Hset Hx
            have CM := Lib.hid (fun W => mul_u8 c f hfp W)
            generalize mulU c f = m at CM Hset Hx
            have ex := xor_u8 (y.getD j 0) m
            generalize y.getD j 0 = d at h4 Hset Hx ex
            generalize d ^^^ m = dc at Hset Hx ex
            clear hc2
            go_wp2_with fail
            refine wp_region_still_tail 9 (by kernel_rfl) (by kernel_rfl) ?_
            simp only [List.take_succ_cons, List.take_zero, List.drop_succ_cons, List.drop_zero]
            change wpStill _ _ wr.drew _ _ _
            generalize hwd : wr.drew = wd at h4 h5 Hset hbr3 hown3 ⊢
            have Hwd := Lib.hid hwd
            clear hwd
            repeat (first | still_step | (still_call (CM.out _)))
            refine wpStill_nil ?_
            change wpList _ _ _ _ _ wr.drew
            rw [Hwd.out]
            go_wp2
            go_roundw
            case rel => exact ⟨j + 1, by omega, by go_num, by rw [← Hx.out]; exact Hset.out, hbr3.setCell (p := ⟨g, j, none⟩) hg _⟩
            case measure => simp [intOf]; omega
          · obtain rfl : j = zs.length := by omega
            have Hxa := Lib.hid (show xorTo y (scaleL row f) zs.length = xorL y (scaleL row f) by rw [← Hy.out]; exact xorTo_all Hry.out)
            rw [Hxa.out] at hown2
            go_wp2
            go_roundw
            case rel => exact ⟨k + 1, by omega, by go_num, by rw [Hsn.out]; exact hown2, hbr2⟩
            case measure => simp [intOf]; omega
      · obtain rfl : k = rs.length := by omega
        have Hall2 := Lib.hid (show foldG gQ 0 zs (rs.take rs.length) = qB rs by rw [List.take_length]; exact Hs.out.symm)
        rw [Hall2.out] at hown
        go_wp2
        go_ret
        exact ⟨_, rfl, hown, hbr⟩

theorem add_any (A A' : Option Addr) (a b : List UInt8) (n n' c c' B : Nat) (w : World) (hn : n = a.length) (hn' : n' = b.length) (hr : RdB w B A a) (hr' : RdB w B A' b) (hB : B ≤ w.heap.size) :
    Calls Try.prog 110 #[.slice A n c, .slice A' n' c'] w fun e w' => ∃ v, e = .returned v ∧ OwB 5 w' w.heap.size v (pB [a, b]) ∧ Below w.heap.size w w' := by
  subst hn hn'
  have C := Lib.hid (p_any (some ⟨w.heap.size, 0, none⟩) [a, b] 2 2 (w.alloc (.cells #[.slice A a.length c, .slice A' b.length c'] 45)) rfl (by have := rdr_two (c := c) (c' := c') (t := 45) hr hr' hB; exact this.more (by simp)))
  go_enter Try.func110, Try.ntmps110
  go_wp2_with fail
  refine C.out.mono ?_
  rintro e w1 ⟨v, rfl, ho, hb⟩
  go_wp2
  go_ret
  exact ⟨v, rfl, ho.le (by simp), (below1 w _).trans (hb.mono (by simp))⟩

/-- a times f, its first j bytes so far. -/
def scTo (a : List UInt8) (f j : Nat) : List UInt8 := scaleL (a.take j) f ++ zeroL (a.length - j)
theorem scTo_len (a : List UInt8) (f : Nat) {j : Nat} (hj : j ≤ a.length) : (scTo a f j).length = a.length := by
  simp [scTo, scaleL_len, zeroL_len]; omega
theorem scTo_zero (a : List UInt8) (f : Nat) : scTo a f 0 = List.replicate a.length 0 := by simp [scTo, scaleL, zeroL]
theorem scTo_all (a : List UInt8) (f : Nat) : scTo a f a.length = scaleL a f := by simp [scTo, zeroL]
theorem scTo_succ (a : List UInt8) (f : Nat) {j : Nat} (hj : j < a.length) : (scTo a f j).set j (mulU (a.getD j 0) f) = scTo a f (j + 1) := by
  have hl : (scaleL (a.take j) f).length = j := by rw [scaleL_len]; simp; omega
  unfold scTo
  rw [List.set_append_right _ _ (by omega), hl, Nat.sub_self]
  rw [show a.length - j = (a.length - (j + 1)) + 1 from by omega]
  unfold zeroL
  rw [List.replicate_succ, List.set_cons_zero, List.take_succ_eq_append_getElem hj]
  unfold scaleL
  rw [List.map_append, List.append_assoc]
  simp [hj]
set_option maxHeartbeats 400000 in
theorem scale_any (A : Option Addr) (a : List UInt8) (n c f : Nat) (w : World) (hn : n = a.length) (hf : f < 256) (hr : RdB w w.heap.size A a) :
    Calls Try.prog 111 #[.slice A n c, .int .u8 (f : Int)] w fun e w' => ∃ v, e = .returned v ∧ OwB 5 w' w.heap.size v (scaleL a f) ∧ Below w.heap.size w w' := by
  subst hn
  have hm := hr.1
  have km := make_bytes a.length hm
  have own0 := own_make 5 w a.length hm
  rw [← scTo_zero a f] at own0
  go_enter Try.func111, Try.ntmps111
  go_wp2
  go_loopw [13] (fun i wr => ∃ j : Nat, j ≤ a.length ∧ i = .int .i64 j ∧ OwB 5 wr w.heap.size (.slice (some ⟨w.heap.size, 0, none⟩) a.length a.length) (scTo a f j) ∧ Below w.heap.size w wr) (fun i _ => a.length - (intOf i).toNat)
  case atStart => exact ⟨0, Nat.zero_le _, rfl, own0, below1 _ _⟩
  case round =>
    obtain ⟨j, hj, rfl, hown, hbr⟩ := hrel
    by_cases hlt : j < a.length
    · obtain ⟨b2, off2, rfl, hb2, hc2⟩ := hr.2 (by omega)
      have h3 := hc2 j hlt
      rw [← hbr.cell (p := ⟨b2, off2 + j, none⟩) hb2] at h3
      obtain ⟨h4, h5⟩ := hown.cell (scTo_len a f (by omega)) j hlt
      have Hset := Lib.hid (hown.set (scTo_len a f (by omega)) j (mulU (a.getD j 0) f)).1
      rw [scTo_succ a f hlt] at Hset
      have i0 : (0 : Int) ≤ (j : Int) := by omega
      have i1 : (j : Int) < (a.length : Int) := by omega
      have CM := Lib.hid (fun W => mul_u8 (a.getD j 0) f hf W)
      generalize mulU (a.getD j 0) f = m at CM Hset
      generalize a.getD j 0 = x at h3 CM
      generalize (scTo a f j).getD j 0 = d at h4
      clear hc2
      go_wp2_with fail
      refine (CM.out _).mono ?_
      rintro e w2 ⟨rfl, rfl⟩
      go_wp2
      go_roundw
      case rel => exact ⟨j + 1, by omega, by go_num, Hset.out, hbr.setCell (p := ⟨w.heap.size, j, none⟩) (Nat.le_refl _) _⟩
      case measure => simp [intOf]; omega
    · obtain rfl : j = a.length := by omega
      rw [scTo_all] at hown
      go_wp2
      go_ret
      exact ⟨_, rfl, hown, hbr⟩
end Go.Proofs.Ytadmofpipfdedaa
end
section
namespace Go.Proofs.Ytadmofpipfdedaa
open Go.RowKit

theorem info_row : (Try.prog.info? 45).map (fun i => (i.zero, i.size, i.bytes)) = some (some (.slice none 0 0), 1, 24) := by kernel_rfl
theorem OwB.addr_ob {e : TypeId} {w : World} {B : Nat} {A : Option Addr} {n c : Nat} {bs : List UInt8} (h : OwB e w B (.slice A n c) bs) (hp : 0 < bs.length) : ∀ a, A = some a → B ≤ a.block := fun a ha => by
  obtain ⟨g, cap, hv, hB, _⟩ := h.pos hp
  injection hv with h1 _ _
  rw [ha] at h1
  injection h1 with h1
  subst h1
  exact hB
end Go.Proofs.Ytadmofpipfdedaa
end
section
namespace Go.Proofs.Ytadmofpipfdedaa
open Go.RowKit

/-- An own slice of these bytes came back; nothing old has turned. -/
def Gives (w : World) (p : List UInt8) (e : Ending) (w' : World) : Prop := ∃ A c, e = .returned (.slice A p.length c) ∧ OwB 5 w' w.heap.size (.slice A p.length c) p ∧ Below w.heap.size w w'
theorem gives_of {w : World} {p q : List UInt8} (hp : p = q) {e : Ending} {w' : World} (h : ∃ v, e = .returned v ∧ OwB 5 w' w.heap.size v p ∧ Below w.heap.size w w') : Gives w q e w' := by
  subst hp
  obtain ⟨v, he, ho, hb⟩ := h
  obtain ⟨A, c, rfl, _, _⟩ := ho.rd
  exact ⟨A, c, he, ho, hb⟩
theorem p_gives {A : Option Addr} {rs : List (List UInt8)} {n cp : Nat} {w : World} {p : List UInt8} (hr : RdR w w.heap.size A rs) (hn : rs.length = n) (hp : pB rs = p) : Calls Try.prog 92 #[.slice A n cp] w (Gives w p) :=
  (p_any A rs n cp w hn hr).mono fun _ _ h => gives_of hp h
theorem q_gives {A : Option Addr} {rs : List (List UInt8)} {n cp : Nat} {w : World} {p : List UInt8} (hr : RdR w w.heap.size A rs) (hn : rs.length = n) (hp : qB rs = p) : Calls Try.prog 93 #[.slice A n cp] w (Gives w p) :=
  (q_any A rs n cp w hn hr).mono fun _ _ h => gives_of hp h
end Go.Proofs.Ytadmofpipfdedaa
end
section
namespace Go.Proofs.Ytadmofpipfdedaa
open Go.RowKit

theorem gpw_step {x m : Nat} (hx : x < 256) (h : 0 < m) : gmul (gmul x 2) (gpw 2 (m - 1)) = gmul x (gpw 2 m) := by
  obtain ⟨k, rfl⟩ : ∃ k, m = k + 1 := ⟨m - 1, by omega⟩
  rw [← gmul_assoc hx (by decide) (gpw_lt (by decide) _)]; rfl
set_option maxRecDepth 100000 in
theorem refPow_any (n : Int) (hn : -9223372036854775808 ≤ n ∧ n ≤ 9223372036854775807) (w : World) : Calls Try.prog 84 #[.int .i64 n] w fun e w' => e = .returned (.int .u8 ((gpow n : Nat) : Int)) ∧ w' = w := by
  obtain ⟨hn1, hn2⟩ := hn
  have Ht := tmod255 n
  have h0 := Int.emod_nonneg n (show (255 : Int) ≠ 0 by omega)
  have h1 := Int.emod_lt_of_pos n (show (0 : Int) < 255 by omega)
  have hlo : -255 < n.tmod 255 := Int.lt_tmod_of_pos _ (by omega)
  have hhi : n.tmod 255 < 255 := Int.tmod_lt_of_pos _ (by omega)
  obtain ⟨k, hk⟩ := Int.eq_ofNat_of_zero_le h0
  have H : Hid (gpw 2 k = gpow n) := by unfold gpow; rw [gpw_two_n, hk]; exact congrArg gE rfl
  rw [hk] at h1 Ht
  clear hk h0
  by_cases hneg : n.tmod 255 < 0
  · rw [if_pos hneg] at Ht
    have Ht1 := Lib.hid Ht.symm
    clear Ht
    go_enter Try.func84, Try.ntmps84
    go_wp2
    have Ht2 := Ht1.out
    clear Ht1 hlo hhi hneg
    generalize n.tmod 255 + 255 = z at Ht2 ⊢
    subst Ht2
    go_loop [0, 3] (fun vn vx => ∃ m x : Nat, m < 256 ∧ x < 256 ∧ vn = .int .i64 (m : Int) ∧ vx = .int .u8 (x : Int) ∧ Hid (gmul x (gpw 2 m) = gpow n)) (fun vn _ => (intOf vn).toNat)
    case atStart => exact ⟨k, 1, by omega, by decide, rfl, rfl, (gmul_one_left _ (gpw_lt (by decide) k)).trans H.out⟩
    case round =>
      obtain ⟨m, x, hm, hx, rfl, rfl, Hm⟩ := hrel
      by_cases hz : m = 0
      · have Hr : Hid (x = gpow n) := by subst hz; rw [← Hm.out]; exact (gmul_one_right hx).symm
        have hne : ¬ (0 : Int) < (m : Int) := by omega
        clear hz Hm
        go_wp2
        go_ret
        exact ⟨ret_int (congrArg Nat.cast Hr.out), rfl⟩
      · have hne : (0 : Int) < (m : Int) := by omega
        have hx2 : gmul x 2 < 256 := gmul_lt hx
        have Hr : Hid (gmul (gmul x 2) (gpw 2 (m - 1)) = gpow n) := (gpw_step hx (by omega)).trans Hm.out
        clear Hm
        go_wp2_with (go_at_call 85; refine (refMul_any x 2 hx (by decide) _).mono ?_; rintro e w' ⟨rfl, rfl⟩)
        go_round
        case rel => exact ⟨m - 1, gmul x 2, by omega, hx2, by go_num, rfl, Hr⟩
        case measure => simp [intOf]; omega
  · rw [if_neg hneg] at Ht
    have Ht1 := Lib.hid Ht.symm
    clear Ht
    go_enter Try.func84, Try.ntmps84
    go_wp2
    have Ht2 := Ht1.out
    clear Ht1 hlo hhi hneg
    generalize n.tmod 255 = z at Ht2 ⊢
    subst Ht2
    go_loop [0, 3] (fun vn vx => ∃ m x : Nat, m < 256 ∧ x < 256 ∧ vn = .int .i64 (m : Int) ∧ vx = .int .u8 (x : Int) ∧ Hid (gmul x (gpw 2 m) = gpow n)) (fun vn _ => (intOf vn).toNat)
    case atStart => exact ⟨k, 1, by omega, by decide, rfl, rfl, (gmul_one_left _ (gpw_lt (by decide) k)).trans H.out⟩
    case round =>
      obtain ⟨m, x, hm, hx, rfl, rfl, Hm⟩ := hrel
      by_cases hz : m = 0
      · have Hr : Hid (x = gpow n) := by subst hz; rw [← Hm.out]; exact (gmul_one_right hx).symm
        have hne : ¬ (0 : Int) < (m : Int) := by omega
        clear hz Hm
        go_wp2
        go_ret
        exact ⟨ret_int (congrArg Nat.cast Hr.out), rfl⟩
      · have hne : (0 : Int) < (m : Int) := by omega
        have hx2 : gmul x 2 < 256 := gmul_lt hx
        have Hr : Hid (gmul (gmul x 2) (gpw 2 (m - 1)) = gpow n) := (gpw_step hx (by omega)).trans Hm.out
        clear Hm
        go_wp2_with (go_at_call 85; refine (refMul_any x 2 hx (by decide) _).mono ?_; rintro e w' ⟨rfl, rfl⟩)
        go_round
        case rel => exact ⟨m - 1, gmul x 2, by omega, hx2, by go_num, rfl, Hr⟩
        case measure => simp [intOf]; omega
end Go.Proofs.Ytadmofpipfdedaa
end
section
set_option maxRecDepth 20000
namespace Go.Proofs.Ytadmofpipfdedaa
open Go.RowKit

theorem refMul_u8 (x : UInt8) (f : Nat) (hf : f < 256) (w : World) : Calls Try.prog 85 #[.int .u8 (x.toNat : Int), .int .u8 (f : Int)] w fun e w' => e = .returned (.int .u8 ((mulU x f).toNat : Int)) ∧ w' = w := by
  rw [mulU_nat]
  exact refMul_any x.toNat f x.toNat_lt hf w
set_option maxHeartbeats 400000 in
theorem alike_any (A : Option Addr) (rs : List (List UInt8)) (n cp : Nat) (w : World) (hn : rs.length = n) (hr : RdR w w.heap.size A rs) :
    Calls Try.prog 83 #[.slice A n cp] w fun e w' => e = .returned (.bool (alikeB rs)) ∧ w' = w := by
  subst hn
  have hm := hr.1
  by_cases h0 : rs.length = 0
  · have hz := Lib.hid (show alikeB rs = false by rw [List.eq_nil_of_length_eq_zero h0]; rfl)
    have Hz := Lib.hid h0
    clear h0
    go_enter Try.func83, Try.ntmps83
    rw [Hz.out]
    go_wp2
    go_loop [7] (fun i => i = .int .i64 0) (fun _ => 0)
    case atStart => rfl
    case round =>
      subst hrel
      go_wp2
      go_ret
      exact ⟨by rw [hz.out]; rfl, rfl⟩
  · obtain ⟨b, off, rfl, hb, hc⟩ := hr.2 (by omega)
    have Hc := Lib.hid hc
    obtain ⟨A0, c0, k0, r0⟩ := hc 0 (by omega)
    have Hno := Lib.hid (fun k => @alikeB_no rs k)
    have Hyes := Lib.hid (@alikeB_iff rs)
    have hN := r0.1
    rw [Nat.add_zero] at k0
    have i0 : (0 : Int) < (rs.length : Int) := by omega
    have i1 : 0 < rs.length := by omega
    generalize (rs.getD 0 []).length = N at k0 hN Hno Hyes
    clear hc h0 hr r0
    go_enter Try.func83, Try.ntmps83
    go_wp2
    go_loop [7] (fun i => ∃ k : Nat, k ≤ rs.length ∧ i = .int .i64 k ∧ Hid (∀ j, j < k → (rs.getD j []).length = N)) (fun i => rs.length - (intOf i).toNat)
    case atStart => exact ⟨0, Nat.zero_le _, rfl, fun j hj => by omega⟩
    case round =>
      obtain ⟨k, hk, rfl, Hj⟩ := hrel
      by_cases hlt : k < rs.length
      · obtain ⟨A', c', h1, h2⟩ := Hc.out k hlt
        have Hno := Lib.hid (Hno.out k hlt)
        by_cases he : (rs.getD k []).length = N
        · have Hn : Hid (∀ j, j < k + 1 → (rs.getD j []).length = N) := fun j hj => by
            by_cases hjk : j = k
            · subst hjk; exact he
            · exact Hj.out j (by omega)
          rw [he] at h1
          clear h2 he
          go_wp2
          go_round
          case rel => exact ⟨k + 1, by omega, by go_num, Hn⟩
          case measure => simp [intOf]; omega
        · have hz := Lib.hid (Hno.out he)
          have hne := int_bne_yes he
          clear he
          generalize rs.getD k [] = row at h1 h2 hne
          go_wp2
          go_ret
          exact ⟨by rw [hz.out]; rfl, rfl⟩
      · obtain rfl : k = rs.length := by omega
        have hz := Lib.hid (Hyes.out.2 ⟨i1, Hj.out⟩)
        go_wp2
        go_ret
        exact ⟨by rw [hz.out]; rfl, rfl⟩

set_option maxHeartbeats 800000 in
theorem refP_any (A : Option Addr) (rs : List (List UInt8)) (n cp : Nat) (w : World) (hn : rs.length = n) (hr : RdR w w.heap.size A rs) :
    Calls Try.prog 66 #[.slice A n cp] w fun e w' => ∃ v, e = .returned v ∧ OwB 5 w' w.heap.size v (pB rs) ∧ Below w.heap.size w w' := by
  have C := Lib.hid (alike_any A rs n cp w hn hr)
  subst hn
  have hm := hr.1
  by_cases h0 : alikeB rs = true
  · obtain ⟨hp, hall⟩ := alikeB_iff.1 h0
    have Hs : Hid (pB rs = foldG gP 0 (zeroL (rs.getD 0 []).length) rs) := if_pos h0
    rw [h0] at C
    clear h0
    have Hall := Lib.hid hall
    obtain ⟨b, off, rfl, hbb, hc⟩ := hr.2 hp
    have Hc := Lib.hid hc
    obtain ⟨A0, c0, k0, r0⟩ := hc 0 hp
    have hN := r0.1
    rw [Nat.add_zero] at k0
    have i0 : (0 : Int) < (rs.length : Int) := by omega
    have Hf := Lib.hid (foldG_snoc gP (zeroL (rs.getD 0 []).length) rs)
    have Hl := Lib.hid (foldG_take_len gP_len (z := zeroL (rs.getD 0 []).length) (fun k hk => (hall k hk).trans (zeroL_len _).symm))
    rw [zeroL_len] at Hl
    have own0 := own_make 5 w (rs.getD 0 []).length hN
    have km := make_bytes (rs.getD 0 []).length hN
    rw [show List.replicate (rs.getD 0 []).length (0 : UInt8) = zeroL (rs.getD 0 []).length from rfl] at own0
    clear hc hall hr r0
    generalize (rs.getD 0 []).length = N at Hs Hall k0 hN Hf Hl own0 km
    generalize zeroL N = zs at Hs Hf Hl own0
    go_enter Try.func66, Try.ntmps66
    go_wp2_with fail
    refine C.out.mono ?_
    rintro e w1 ⟨rfl, rfl⟩
    go_wp2
    go_loopw [18] (fun i wr => ∃ k : Nat, k ≤ rs.length ∧ i = .int .i64 k ∧ OwB 5 wr w1.heap.size (.slice (some ⟨w1.heap.size, 0, none⟩) N N) (foldG gP 0 zs (rs.take k)) ∧ Below w1.heap.size w1 wr) (fun i _ => rs.length - (intOf i).toNat)
    case atStart => exact ⟨0, Nat.zero_le _, rfl, own0, below1 _ _⟩
    case round =>
      obtain ⟨k, hk, rfl, hown, hbr⟩ := hrel
      have Hy := Lib.hid (Hl.out k)
      by_cases hlt : k < rs.length
      · obtain ⟨A', c', h1, h2⟩ := Hc.out k hlt
        have Hsn := Lib.hid (Hf.out k hlt)
        have hln := Hall.out k hlt
        rw [hln] at h1
        have Hln := Lib.hid hln
        clear hln
        rw [← hbr.cell (p := ⟨b, off + k, none⟩) hbb] at h1
        generalize rs.getD k [] = row at h1 h2 Hsn Hln
        generalize foldG gP 0 zs (rs.take k) = y at hown Hsn Hy
        have hlen := h2.1
        go_wp2
        go_loopw [24] (fun i wr => ∃ j : Nat, j ≤ N ∧ i = .int .i64 j ∧ OwB 5 wr w1.heap.size (.slice (some ⟨w1.heap.size, 0, none⟩) N N) (xorTo y row j) ∧ Below w1.heap.size w1 wr) (fun i _ => N - (intOf i).toNat)
        case atStart => exact ⟨0, Nat.zero_le _, rfl, by rw [xorTo_zero]; exact hown, hbr⟩
        case round =>
          obtain ⟨j, hj, rfl, hown2, hbr2⟩ := hrel
          have Hry := Lib.hid (show row.length = y.length from Hln.out.trans Hy.out.symm)
          by_cases hlt2 : j < N
          · obtain ⟨b2, off2, rfl, hb2, hc2⟩ := h2.2 (by have := Hln.out; omega)
            have h3 := hc2 j (by have := Hln.out; omega)
            rw [← hbr2.cell (p := ⟨b2, off2 + j, none⟩) hb2] at h3
            obtain ⟨h4, h5⟩ := hown2.cell ((xorTo_len Hry.out (by have := Hy.out; omega)).trans Hy.out) j hlt2
            rw [xorTo_get Hry.out (by have := Hy.out; omega)] at h4
            have Hset := Lib.hid (hown2.set ((xorTo_len Hry.out (by have := Hy.out; omega)).trans Hy.out) j (y.getD j 0 ^^^ row.getD j 0)).1
            have Hx := Lib.hid (xorTo_succ Hry.out (show j < y.length by have := Hy.out; omega))
            have ex := xor_u8 (y.getD j 0) (row.getD j 0)
            have i0 : (0 : Int) ≤ (j : Int) := by omega
            have i1 : (j : Int) < (N : Int) := by omega
            generalize row.getD j 0 = c at h3 Hset Hx ex
            generalize y.getD j 0 = d at h4 Hset Hx ex
            generalize d ^^^ c = dc at Hset Hx ex
            clear hc2
            go_wp2
            go_roundw
            case rel => exact ⟨j + 1, by omega, by go_num, by rw [← Hx.out]; exact Hset.out, hbr2.setCell (p := ⟨w1.heap.size, j, none⟩) (Nat.le_refl _) _⟩
            case measure => simp [intOf]; omega
          · obtain rfl : j = N := by omega
            have Hxa := Lib.hid (show xorTo y row j = xorL y row by rw [← Hy.out]; exact xorTo_all Hry.out)
            rw [Hxa.out] at hown2
            go_wp2
            go_roundw
            case rel => exact ⟨k + 1, by omega, by go_num, by rw [Hsn.out]; exact hown2, hbr2⟩
            case measure => simp [intOf]; omega
      · obtain rfl : k = rs.length := by omega
        have Hall2 := Lib.hid (show foldG gP 0 zs (rs.take rs.length) = pB rs by rw [List.take_length]; exact Hs.out.symm)
        rw [Hall2.out] at hown
        go_wp2
        go_ret
        exact ⟨_, rfl, hown, hbr⟩
  · have hz : alikeB rs = false := by simpa using h0
    have Hp : Hid (pB rs = []) := if_neg h0
    rw [hz] at C
    clear hz h0
    go_enter Try.func66, Try.ntmps66
    go_wp2_with fail
    refine C.out.mono ?_
    rintro e w1 ⟨rfl, rfl⟩
    go_wp2
    go_ret
    exact ⟨_, rfl, nil_own _ _ Hp.out, Below.refl _ _⟩

set_option maxHeartbeats 800000 in
theorem refQ_any (A : Option Addr) (rs : List (List UInt8)) (n cp : Nat) (w : World) (hn : rs.length = n) (hr : RdR w w.heap.size A rs) :
    Calls Try.prog 67 #[.slice A n cp] w fun e w' => ∃ v, e = .returned v ∧ OwB 5 w' w.heap.size v (qB rs) ∧ Below w.heap.size w w' := by
  have C := Lib.hid (alike_any A rs n cp w hn hr)
  subst hn
  have hm := hr.1
  by_cases h0 : alikeB rs = true
  · obtain ⟨hp, hall⟩ := alikeB_iff.1 h0
    have Hs : Hid (qB rs = foldG gQ 0 (zeroL (rs.getD 0 []).length) rs) := if_pos h0
    rw [h0] at C
    clear h0
    have Hall := Lib.hid hall
    obtain ⟨b, off, rfl, hbb, hc⟩ := hr.2 hp
    have Hc := Lib.hid hc
    obtain ⟨A0, c0, k0, r0⟩ := hc 0 hp
    have hN := r0.1
    rw [Nat.add_zero] at k0
    have i0 : (0 : Int) < (rs.length : Int) := by omega
    have Hf := Lib.hid (foldG_snoc gQ (zeroL (rs.getD 0 []).length) rs)
    have Hl := Lib.hid (foldG_take_len gQ_len (z := zeroL (rs.getD 0 []).length) (fun k hk => (hall k hk).trans (zeroL_len _).symm))
    rw [zeroL_len] at Hl
    have own0 := own_make 5 w (rs.getD 0 []).length hN
    have km := make_bytes (rs.getD 0 []).length hN
    rw [show List.replicate (rs.getD 0 []).length (0 : UInt8) = zeroL (rs.getD 0 []).length from rfl] at own0
    clear hc hall hr r0
    generalize (rs.getD 0 []).length = N at Hs Hall k0 hN Hf Hl own0 km
    generalize zeroL N = zs at Hs Hf Hl own0
    go_enter Try.func67, Try.ntmps67
    go_wp2_with fail
    refine C.out.mono ?_
    rintro e w1 ⟨rfl, rfl⟩
    go_wp2
    go_loopw [19] (fun i wr => ∃ k : Nat, k ≤ rs.length ∧ i = .int .i64 k ∧ OwB 5 wr w1.heap.size (.slice (some ⟨w1.heap.size, 0, none⟩) N N) (foldG gQ 0 zs (rs.take k)) ∧ Below w1.heap.size w1 wr) (fun i _ => rs.length - (intOf i).toNat)
    case atStart => exact ⟨0, Nat.zero_le _, rfl, own0, below1 _ _⟩
    case round =>
      obtain ⟨k, hk, rfl, hown, hbr⟩ := hrel
      have Hy := Lib.hid (Hl.out k)
      by_cases hlt : k < rs.length
      · obtain ⟨A', c', h1, h2⟩ := Hc.out k hlt
        have Hsn := Lib.hid (show foldG gQ 0 zs (rs.take (k + 1)) = xorL (foldG gQ 0 zs (rs.take k)) (scaleL (rs.getD k []) (gpow (k : Int))) from Hf.out k hlt)
        have hln := Hall.out k hlt
        rw [hln] at h1
        have Hln := Lib.hid hln
        clear hln
        rw [← hbr.cell (p := ⟨b, off + k, none⟩) hbb] at h1
        generalize rs.getD k [] = row at h1 h2 Hsn Hln
        generalize foldG gQ 0 zs (rs.take k) = y at hown Hsn Hy
        have hlen := h2.1
        have CP := Lib.hid (fun W => refPow_any (k : Int) (by omega) W)
        have hfp := gpow_lt (k : Int)
        generalize gpow (k : Int) = f at CP Hsn hfp
        go_wp2_with fail
        refine (CP.out _).mono ?_
        rintro e w2 ⟨rfl, rfl⟩
        go_wp2
        go_loopw [28] (fun i wr => ∃ j : Nat, j ≤ N ∧ i = .int .i64 j ∧ OwB 5 wr w1.heap.size (.slice (some ⟨w1.heap.size, 0, none⟩) N N) (xorTo y (scaleL row f) j) ∧ Below w1.heap.size w1 wr) (fun i _ => N - (intOf i).toNat)
        case atStart => exact ⟨0, Nat.zero_le _, rfl, by rw [xorTo_zero]; exact hown, hbr⟩
        case round =>
          obtain ⟨j, hj, rfl, hown2, hbr2⟩ := hrel
          have Hry := Lib.hid (show (scaleL row f).length = y.length from (scaleL_len _ _).trans (Hln.out.trans Hy.out.symm))
          by_cases hlt2 : j < N
          · obtain ⟨b2, off2, rfl, hb2, hc2⟩ := h2.2 (by have := Hln.out; omega)
            have h3 := hc2 j (by have := Hln.out; omega)
            rw [← hbr2.cell (p := ⟨b2, off2 + j, none⟩) hb2] at h3
            have hown3 := hown2.drewI
            have hbr3 := hbr2.drew
            obtain ⟨h4, h5⟩ := hown3.cell ((xorTo_len Hry.out (by have := Hy.out; omega)).trans Hy.out) j hlt2
            rw [xorTo_get Hry.out (by have := Hy.out; omega)] at h4
            have Hset := Lib.hid (hown3.set ((xorTo_len Hry.out (by have := Hy.out; omega)).trans Hy.out) j (y.getD j 0 ^^^ (scaleL row f).getD j 0)).1
            have Hx := Lib.hid (xorTo_succ Hry.out (show j < y.length by have := Hy.out; omega))
            rw [scaleL_get] at Hset Hx
            have i0 : (0 : Int) ≤ (j : Int) := by omega
            have i1 : (j : Int) < (N : Int) := by omega
            generalize row.getD j 0 = c at h3 Hset Hx
            have CM := Lib.hid (fun W => refMul_u8 c f hfp W)
            generalize mulU c f = m at CM Hset Hx
            have ex := xor_u8 (y.getD j 0) m
            generalize y.getD j 0 = d at h4 Hset Hx ex
            generalize d ^^^ m = dc at Hset Hx ex
            clear hc2
            go_wp2_with fail
            refine wp_region_still_tail 9 (by kernel_rfl) (by kernel_rfl) ?_
            simp only [List.take_succ_cons, List.take_zero, List.drop_succ_cons, List.drop_zero]
            change wpStill _ _ wr.drew _ _ _
            generalize hwd : wr.drew = wd at h4 h5 Hset hbr3 hown3 ⊢
            have Hwd := Lib.hid hwd
            clear hwd
            repeat (first | still_step | (still_call (CM.out _)))
            refine wpStill_nil ?_
            change wpList _ _ _ _ _ wr.drew
            rw [Hwd.out]
            go_wp2
            go_roundw
            case rel => exact ⟨j + 1, by omega, by go_num, by rw [← Hx.out]; exact Hset.out, hbr3.setCell (p := ⟨w1.heap.size, j, none⟩) (Nat.le_refl _) _⟩
            case measure => simp [intOf]; omega
          · obtain rfl : j = N := by omega
            have Hxa := Lib.hid (show xorTo y (scaleL row f) j = xorL y (scaleL row f) by rw [← Hy.out]; exact xorTo_all Hry.out)
            rw [Hxa.out] at hown2
            go_wp2
            go_roundw
            case rel => exact ⟨k + 1, by omega, by go_num, by rw [Hsn.out]; exact hown2, hbr2⟩
            case measure => simp [intOf]; omega
      · obtain rfl : k = rs.length := by omega
        have Hall2 := Lib.hid (show foldG gQ 0 zs (rs.take rs.length) = qB rs by rw [List.take_length]; exact Hs.out.symm)
        rw [Hall2.out] at hown
        go_wp2
        go_ret
        exact ⟨_, rfl, hown, hbr⟩
  · have hz : alikeB rs = false := by simpa using h0
    have Hp : Hid (qB rs = []) := if_neg h0
    rw [hz] at C
    clear hz h0
    go_enter Try.func67, Try.ntmps67
    go_wp2_with fail
    refine C.out.mono ?_
    rintro e w1 ⟨rfl, rfl⟩
    go_wp2
    go_ret
    exact ⟨_, rfl, nil_own _ _ Hp.out, Below.refl _ _⟩
end Go.Proofs.Ytadmofpipfdedaa
end
