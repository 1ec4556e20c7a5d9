/- The document's own sum, digit by digit, and its stamps. -/
import Derived.Test.YtiipdhmfdgbmiaaDoorTbab
import Derived.Test.YtiipdhmfdgbmiaaDoorTbaa
import Derived.Deep.DeepMust
set_option maxRecDepth 8000
namespace Go.Proofs.YtiipdhmfdgbmiaaDoor
open Go.RowKit

theorem and1 (s : Nat) (h : s < 4294967296) : bits .and .u32 (s : Int) 1 = ((s % 2 : Nat) : Int) := by
  have := u32_and_nat s 1 h (by decide)
  rw [show ((1 : Nat) : Int) = 1 from rfl] at this
  rw [this, nat_mask1]
theorem shr1_xor (s : Nat) (h : s < 4294967296) : bits .xor .u32 ((s : Int) / 2) 2197175160 = (((s / 2) ^^^ 2197175160 : Nat) : Int) := by
  have := u32_xor_nat (s / 2) 2197175160 (by omega) (by decide)
  rw [← this]; rfl
theorem not_u32 (y : Nat) (h : y < 4294967296) : bits .xor .u32 IntKind.u32.max (y : Int) = ((y ^^^ 4294967295 : Nat) : Int) := by
  rw [Nat.xor_comm]
  exact u32_xor_nat 4294967295 y (by decide) h
set_option maxHeartbeats 800000 in
theorem refSum_any (A : Option Addr) (rs : List (List UInt8)) (n cp : Nat) (w : World) (hn : rs.length = n) (hr : RdR w w.heap.size A rs) :
    Calls Tryd.prog 73 #[.slice A n cp] w fun e w' => e = .returned (.int .u32 ((sumR rs : Nat) : Int)) ∧ w' = w := by
  subst hn
  have hm := hr.1
  have Hs : Hid (sumR rs = feedR 4294967295 rs ^^^ 4294967295) := rfl
  have hlast := feedR_lt (x := 4294967295) rs (by decide)
  go_enter Tryd.func73, Tryd.ntmps73
  go_wp2
  go_loop [3, 11] (fun v i => ∃ k : Nat, k ≤ rs.length ∧ i = .int .i64 k ∧ v = .int .u32 ((feedR 4294967295 (rs.take k) : Nat) : Int)) (fun _ i => rs.length - (intOf i).toNat)
  case atStart => exact ⟨0, Nat.zero_le _, rfl, rfl⟩
  case round =>
    obtain ⟨k, hk, rfl, rfl⟩ := hrel
    have hy := feedR_lt (x := 4294967295) (rs.take k) (by decide)
    by_cases hlt : k < rs.length
    · obtain ⟨b, off, rfl, hb, hc⟩ := hr.2 (by omega)
      obtain ⟨A', c', h1, h2⟩ := hc k hlt
      have Hsn := Lib.hid (feedR_snoc 4294967295 rs k hlt)
      generalize rs.getD k [] = row at h1 h2 Hsn
      generalize feedR 4294967295 (rs.take k) = y at hy Hsn
      clear hc
      have hlen := h2.1
      go_wp2
      go_loop [3, 17] (fun v i => ∃ j : Nat, j ≤ row.length ∧ i = .int .i64 j ∧ v = .int .u32 ((feedB y (row.take j) : Nat) : Int)) (fun _ i => row.length - (intOf i).toNat)
      case atStart => exact ⟨0, Nat.zero_le _, rfl, rfl⟩
      case round =>
        obtain ⟨j, hj, rfl, rfl⟩ := hrel
        have hz := feedB_lt (row.take j) hy
        by_cases hlt2 : j < row.length
        · obtain ⟨b2, off2, rfl, hb2, hc2⟩ := h2.2 (by omega)
          have h3 := hc2 j hlt2
          have Hsn2 := Lib.hid (feedB_snoc y row j hlt2)
          generalize row.getD j 0 = c at h3 Hsn2
          generalize feedB y (row.take j) = z at hz Hsn2
          have hcb : c.toNat < 256 := c.toNat_lt
          clear hc2
          have e0 := u32_xor_nat z c.toNat hz (by omega)
          have hs0 := xor_lt32 hz (show c.toNat < 4294967296 by omega)
          have Hst := Lib.hid (stepB_bits z c)
          generalize z ^^^ c.toNat = s0 at e0 hs0 Hst
          go_wp2
          go_loop [3, 8] (fun v i => ∃ t : Nat, t ≤ 8 ∧ i = .int .i64 t ∧ v = .int .u32 ((bitN t s0 : Nat) : Int)) (fun _ i => 8 - (intOf i).toNat)
          case atStart => exact ⟨0, by omega, rfl, rfl⟩
          case round =>
            obtain ⟨t, ht, rfl, rfl⟩ := hrel
            by_cases hlt3 : t < 8
            · have hu := bitN_lt t hs0
              have Hb : Hid (bitN (t + 1) s0 = bit1 (bitN t s0)) := rfl
              generalize bitN t s0 = u at hu Hb
              have f1 := and1 u hu
              by_cases hp : u % 2 = 1
              · have f2 := shr1_xor u hu
                have Hb2 : Hid (bit1 u = u / 2 ^^^ 2197175160) := if_pos hp
                generalize u / 2 ^^^ 2197175160 = v at f2 Hb2
                rw [hp] at f1
                clear hp
                go_wp2
                go_round
                case rel => exact ⟨t + 1, by omega, by go_num, by rw [Hb.out, Hb2.out]⟩
                case measure => simp [intOf]; omega
              · have Hb2 : Hid (bit1 u = u / 2) := if_neg hp
                have hp0 : u % 2 = 0 := by omega
                rw [hp0] at f1
                clear hp hp0
                go_wp2
                go_round
                case rel => exact ⟨t + 1, by omega, by go_num, by rw [Hb.out, Hb2.out]; rfl⟩
                case measure => simp [intOf]; omega
            · obtain rfl : t = 8 := by omega
              go_wp2
              go_round
              case rel => exact ⟨j + 1, by omega, by go_num, by rw [Hsn2.out, Hst.out]⟩
              case measure => simp [intOf]; omega
        · obtain rfl : j = row.length := by omega
          go_wp2
          go_round
          case rel => exact ⟨k + 1, by omega, by go_num, by rw [Hsn.out, List.take_length]⟩
          case measure => simp [intOf]; omega
    · obtain rfl : k = rs.length := by omega
      go_wp2
      go_ret
      exact ⟨by rw [Hs.out]; exact congrArg (fun z => Ending.returned (.int .u32 z)) (not_u32 _ hlast), rfl⟩
theorem info_row : (Tryd.prog.info? 38).map (fun i => (i.zero, i.size, i.bytes)) = some (some (.slice none 0 0), 1, 24) := by kernel_rfl
set_option maxHeartbeats 400000 in
theorem refSealed_any (A Ap : Option Addr) (c cp : Nat) (bs : List UInt8) (rs : List (List UInt8)) (n : Nat) (w : World) (hn : rs.length = n) (hn2 : n ≤ 1000000) (hbs : bs.length = 32) (hr : RdB w w.heap.size A bs) (hp : RdR w w.heap.size Ap rs) :
    Calls Tryd.prog 51 #[.slice A 32 c, .slice Ap n cp] w fun e w' => ∃ v, e = .returned v ∧ OwB 5 w' w.heap.size v (stamped bs rs) ∧ Below w.heap.size w w' := by
  obtain ⟨xs, hxv, hxr, hx1⟩ := hp.vals
  have Hf := Lib.hid (stampK_four bs (sumR (bs.take 28 :: rs)) hbs)
  rw [show bs.take 28 ++ be4 (sumR (bs.take 28 :: rs)) = stamped bs rs from rfl] at Hf
  have hx := sumR_lt (bs.take 28 :: rs)
  have C : Hid (∀ (W : World) A' cap, RdR W W.heap.size A' (bs.take 28 :: rs) → Calls Tryd.prog 73 #[.slice A' (1 + n) cap] W fun e w' => e = .returned (.int .u32 ((sumR (bs.take 28 :: rs) : Nat) : Int)) ∧ w' = W) :=
    Lib.hid fun W A' cap h => refSum_any A' (bs.take 28 :: rs) (1 + n) cap W (by simp; omega) h
  have Ht : Hid ((bs.take 28).length = 28) := by show _ = _; simp [hbs]
  generalize stamped bs rs = out at Hf
  generalize sumR (bs.take 28 :: rs) = x at C Hf hx
  have e0 : (x : Int) / 16777216 = ((beB x 0).toNat : Int) := by simp only [beB, UInt8.toNat_ofNat']; omega
  have e1 : (x : Int) / 65536 % 256 = ((beB x 1).toNat : Int) := by simp only [beB, UInt8.toNat_ofNat']; omega
  have e2 : (x : Int) / 256 % 256 = ((beB x 2).toNat : Int) := by simp only [beB, UInt8.toNat_ofNat']; omega
  have e3 : (x : Int) % 256 = ((beB x 3).toNat : Int) := by simp only [beB, UInt8.toNat_ofNat']; omega
  have Hst : Hid (stampK bs x 4 = ((((bs.set 28 (beB x 0)).set 29 (beB x 1)).set 30 (beB x 2)).set 31 (beB x 3))) := rfl
  generalize beB x 0 = b0 at e0 Hst
  generalize beB x 1 = b1 at e1 Hst
  generalize beB x 2 = b2 at e2 Hst
  generalize beB x 3 = b3 at e3 Hst
  go_enter Tryd.func51, Tryd.ntmps51
  go_wp2_with (first
    | (at_builtin
       refine wpList_append_B _ rfl _ _ _ rfl w.heap.size 5 Tryd.underlying38 info_u8 (.slice none 0 0) [] rfl (OwB.nil _ _ _) w.heap.size A 32 c bs rfl hbs.symm hr (by simp [hbs]) (Nat.le_refl _) ?_
       intro v' w1 hown hg hat
       rw [List.nil_append] at hown
       have hb1 : Below w.heap.size w w1 := (Below.refl _ _).grown hg (Nat.le_refl _) (by simp [Value.ownBlock])
       obtain ⟨g, cap, rfl, hBg, hglt, hcap, hcm, hrd⟩ := hown.pos (by omega)
       have i0 : (28 : Int) ≤ (cap : Int) := by omega)
    | (at_builtin
       refine wpList_append_rows1 rfl _ _ _ rfl 38 Tryd.underlying113 info_row (some ⟨g, 0, none⟩) 28 cap (bs.take 28) Ht.out rfl Ap n cp rs rfl hn hn2 (hrd.take 28) ((hp.below hb1 (Nat.le_refl _)).more hb1.size) ?_
       intro A2 cap2 w2 hrr hb2
       have hown2 := hown.below hb2
       obtain ⟨k28, f28⟩ := hown2.cell rfl 28 (by omega)
       obtain ⟨k29, f29⟩ := hown2.cell rfl 29 (by omega)
       obtain ⟨k30, f30⟩ := hown2.cell rfl 30 (by omega)
       obtain ⟨k31, f31⟩ := hown2.cell rfl 31 (by omega))
    | (go_at_call 73; refine (C.out _ _ _ hrr).mono ?_; rintro e w' ⟨rfl, rfl⟩))
  go_ret
  have s0 := (hown2.set rfl 28 b0).1
  have s1 := (s0.set (by simp) 29 b1).1
  have s2 := (s1.set (by simp) 30 b2).1
  have s3 := (s2.set (by simp) 31 b3).1
  rw [← Hst.out, Hf.out] at s3
  have hb3 := hb1.trans (hb2.mono hb1.size)
  rw [hbs] at s3
  exact ⟨_, rfl, s3, (((hb3.setCell (p := ⟨g, 28, none⟩) hBg _).setCell (p := ⟨g, 29, none⟩) hBg _).setCell (p := ⟨g, 30, none⟩) hBg _).setCell (p := ⟨g, 31, none⟩) hBg _⟩
theorem refSealed_n (A Ap : Option Addr) (m c cp : Nat) (bs : List UInt8) (rs : List (List UInt8)) (n : Nat) (w : World) (hm : m = 32) (hn : rs.length = n) (hn2 : n ≤ 1000000) (hbs : bs.length = 32) (hr : RdB w w.heap.size A bs) (hp : RdR w w.heap.size Ap rs) :
    Calls Tryd.prog 51 #[.slice A m c, .slice Ap n cp] w fun e w' => ∃ v, e = .returned v ∧ OwB 5 w' w.heap.size v (stamped bs rs) ∧ Below w.heap.size w w' := by
  subst hm
  exact refSealed_any A Ap c cp bs rs n w hn hn2 hbs hr hp
end Go.Proofs.YtiipdhmfdgbmiaaDoor
