/- What synd's functions compute. -/
import Derived.Test.YtfbfodcjfcnfoaaKeep
import Derived.Test.YtfbfodcjfcnfoaaGf
import Derived.Test.YtfbfodcjfcnfoaaSyndMath
import Derived.StillTailTactics
namespace Go.Proofs.Ytfbfodcjfcnfoaa
open Go.RowKit

theorem int_bne_no {a b : Nat} (h : a = b) : ((a : Int) != (b : Int)) = false := by simp [h]
theorem int_bne_yes {a b : Nat} (h : a ≠ b) : ((a : Int) != (b : Int)) = true := by simp; omega
theorem int_beq_no {a b : Nat} (h : a ≠ b) : ((a : Int) == (b : Int)) = false := by simp; omega
theorem int_beq_yes {a b : Nat} (h : a = b) : ((a : Int) == (b : Int)) = true := by simp [h]
theorem nil_own (w : World) (B : Nat) {bs : List UInt8} (h : bs = []) : OwB 5 w B (.slice none 0 0) bs := by subst h; exact OwB.nil _ _ _
theorem getD_lt {rs : List (List UInt8)} {k : Nat} (hk : k < rs.length) : rs.getD k [] ∈ rs := by simp [hk]

set_option maxHeartbeats 400000 in
theorem zeros_any (A : Option Addr) (rs : List (List UInt8)) (n cp : Nat) (w : World) (hn : rs.length = n) (hr : RdR w w.heap.size A rs) :
    Calls Try.prog 33 #[.slice A n cp] w fun e w' => ∃ v, e = .returned v ∧ OwB 5 w' w.heap.size v (zerosB rs) ∧ Below w.heap.size w w' := by
  subst hn
  have hm := hr.1
  by_cases h0 : rs.length = 0
  · have hz : zerosB rs = [] := by rw [List.eq_nil_of_length_eq_zero h0]; rfl
    have hz := Lib.hid hz
    have e0 : ((rs.length : Int) == 0) = true := by rw [h0]; rfl
    clear h0
    go_enter Try.func33, Try.ntmps33
    go_wp2
    go_ret
    exact ⟨_, rfl, nil_own _ _ hz.out, Below.refl _ _⟩
  · obtain ⟨b, off, rfl, hb, hc⟩ := hr.2 (by omega)
    have Hc := Lib.hid hc
    obtain ⟨A0, c0, k0, r0⟩ := hc 0 (by omega)
    have Hno := Lib.hid (fun k => @alikeB_no rs k)
    have Hyes := Lib.hid (@alikeB_iff rs)
    have Hz : Hid (zerosB rs = if alikeB rs then zeroL (rs.getD 0 []).length else []) := rfl
    have hN := r0.1
    rw [Nat.add_zero] at k0
    have i0 : (0 : Int) < (rs.length : Int) := by omega
    have i1 : 0 < rs.length := by omega
    have e0 : ((rs.length : Int) == 0) = false := by rw [beq_eq_false_iff_ne]; omega
    have km := make_bytes (rs.getD 0 []).length hN
    generalize (rs.getD 0 []).length = N at k0 hN km Hno Hyes Hz
    clear hc h0 hr r0
    go_enter Try.func33, Try.ntmps33
    go_wp2
    go_loop [15] (fun i => ∃ k : Nat, k ≤ rs.length ∧ i = .int .i64 k ∧ Hid (∀ j, j < k → (rs.getD j []).length = N)) (fun i => rs.length - (intOf i).toNat)
    case atStart => exact ⟨0, Nat.zero_le _, rfl, fun j hj => by omega⟩
    case round =>
      obtain ⟨k, hk, rfl, Hj⟩ := hrel
      by_cases hlt : k < rs.length
      · obtain ⟨A', c', h1, h2⟩ := Hc.out k hlt
        have Hno := Lib.hid (Hno.out k hlt)
        by_cases he : (rs.getD k []).length = N
        · have Hn : Hid (∀ j, j < k + 1 → (rs.getD j []).length = N) := fun j hj => by
            by_cases hjk : j = k
            · subst hjk; exact he
            · exact Hj.out j (by omega)
          rw [he] at h1
          clear h2 he
          go_wp2
          go_round
          case rel => exact ⟨k + 1, by omega, by go_num, Hn⟩
          case measure => simp [intOf]; omega
        · have hz : Hid (zerosB rs = []) := by rw [Hz.out, Hno.out he]; rfl
          have hne := int_bne_yes he
          clear he
          generalize rs.getD k [] = row at h1 h2 hne
          go_wp2
          go_ret
          exact ⟨_, rfl, nil_own _ _ hz.out, Below.refl _ _⟩
      · obtain rfl : k = rs.length := by omega
        have hz := Lib.hid (show zerosB rs = zeroL N by rw [Hz.out, if_pos (Hyes.out.2 ⟨i1, Hj.out⟩)])
        go_wp2
        go_ret
        exact ⟨_, rfl, by rw [hz.out]; exact own_make _ w N hN, below1 _ _⟩

/-- Where the zeros are none: nil, whatever the sum. -/
theorem own_nil_len {w : World} {B : Nat} {v : Value} (h : OwB 5 w B v []) : ∃ A c, v = .slice A 0 c := by
  obtain ⟨A, c, hv, _, _⟩ := h.rd
  exact ⟨A, c, hv⟩

set_option maxHeartbeats 800000 in
theorem p_any (A : Option Addr) (rs : List (List UInt8)) (n cp : Nat) (w : World) (hn : rs.length = n) (hr : RdR w w.heap.size A rs) :
    Calls Try.prog 28 #[.slice A n cp] w fun e w' => ∃ v, e = .returned v ∧ OwB 5 w' w.heap.size v (pB rs) ∧ Below w.heap.size w w' := by
  have C := Lib.hid (zeros_any A rs n cp w hn hr)
  subst hn
  have hm := hr.1
  by_cases h0 : zerosB rs = []
  · have Hp : Hid (pB rs = []) := sumG_nil gP_len h0
    rw [h0] at C
    clear h0
    go_enter Try.func28, Try.ntmps28
    go_wp2_with fail
    refine C.out.mono ?_
    rintro e w1 ⟨v, rfl, ho, hb⟩
    obtain ⟨A1, c1, rfl⟩ := own_nil_len ho
    go_wp2
    go_ret
    exact ⟨_, rfl, nil_own _ _ Hp.out, hb⟩
  · obtain ⟨hall, hs, hal⟩ := sumG_cons (g := gP) h0
    have Hs : Hid (pB rs = foldG gP 0 (zerosB rs) rs) := hs
    have Hall := Lib.hid hall
    have Hf := Lib.hid (foldG_snoc gP (zerosB rs) rs)
    have Hl := Lib.hid (foldG_take_len gP_len hall)
    have hpos : 0 < (zerosB rs).length := by cases hz : zerosB rs with | nil => exact absurd hz h0 | cons a b => simp
    clear hall hs hal h0
    generalize zerosB rs = zs at C Hs Hall Hf Hl hpos
    go_enter Try.func28, Try.ntmps28
    go_wp2_with fail
    refine C.out.mono ?_
    rintro e w1 ⟨v, rfl, ho, hb⟩
    obtain ⟨g, cap, rfl, hg, hg1, hcap, _, _⟩ := ho.pos hpos
    have hzl := ho.2
    have e0 : ((zs.length : Int) == 0) = false := by rw [beq_eq_false_iff_ne]; omega
    go_wp2
    go_loopw [15] (fun i wr => ∃ k : Nat, k ≤ rs.length ∧ i = .int .i64 k ∧ OwB 5 wr w.heap.size (.slice (some ⟨g, 0, none⟩) zs.length cap) (foldG gP 0 zs (rs.take k)) ∧ Below w.heap.size w wr) (fun i _ => rs.length - (intOf i).toNat)
    case atStart => exact ⟨0, Nat.zero_le _, rfl, ho, hb⟩
    case round =>
      obtain ⟨k, hk, rfl, hown, hbr⟩ := hrel
      have Hy := Lib.hid (Hl.out k)
      by_cases hlt : k < rs.length
      · obtain ⟨b, off, rfl, hbb, hc⟩ := hr.2 (by omega)
        obtain ⟨A', c', h1, h2⟩ := hc k hlt
        have Hsn := Lib.hid (Hf.out k hlt)
        have hln := Hall.out k hlt
        rw [hln] at h1
        have Hln := Lib.hid hln
        clear hln hc
        rw [← hbr.cell (p := ⟨b, off + k, none⟩) hbb] at h1
        generalize rs.getD k [] = row at h1 h2 Hsn Hln
        generalize foldG gP 0 zs (rs.take k) = y at hown Hsn Hy
        have hlen := h2.1
        go_wp2
        go_loopw [21] (fun i wr => ∃ j : Nat, j ≤ zs.length ∧ i = .int .i64 j ∧ OwB 5 wr w.heap.size (.slice (some ⟨g, 0, none⟩) zs.length cap) (xorTo y row j) ∧ Below w.heap.size w wr) (fun i _ => zs.length - (intOf i).toNat)
        case atStart => exact ⟨0, Nat.zero_le _, rfl, by rw [xorTo_zero]; exact hown, hbr⟩
        case round =>
          obtain ⟨j, hj, rfl, hown2, hbr2⟩ := hrel
          have hry : row.length = y.length := Hln.out.trans Hy.out.symm
          have Hry := Lib.hid hry
          clear hry
          by_cases hlt2 : j < zs.length
          · obtain ⟨b2, off2, rfl, hb2, hc2⟩ := h2.2 (by have := Hln.out; omega)
            have h3 := hc2 j (by have := Hln.out; omega)
            rw [← hbr2.cell (p := ⟨b2, off2 + j, none⟩) hb2] at h3
            obtain ⟨h4, h5⟩ := hown2.cell ((xorTo_len Hry.out (by have := Hy.out; omega)).trans Hy.out) j hlt2
            rw [xorTo_get Hry.out (by have := Hy.out; omega)] at h4
            have Hset := Lib.hid (hown2.set ((xorTo_len Hry.out (by have := Hy.out; omega)).trans Hy.out) j (y.getD j 0 ^^^ row.getD j 0)).1
            have Hx := Lib.hid (xorTo_succ Hry.out (show j < y.length by have := Hy.out; omega))
            have ex := xor_u8 (y.getD j 0) (row.getD j 0)
            have i0 : (0 : Int) ≤ (j : Int) := by omega
            have i1 : (j : Int) < (zs.length : Int) := by omega
            generalize row.getD j 0 = c at h3 Hset Hx ex
            generalize y.getD j 0 = d at h4 Hset Hx ex
            generalize d ^^^ c = dc at Hset Hx ex
            clear hc2
            go_wp2
            go_roundw
            case rel => exact ⟨j + 1, by omega, by go_num, by rw [← Hx.out]; exact Hset.out, hbr2.setCell (p := ⟨g, j, none⟩) hg _⟩
            case measure => simp [intOf]; omega
          · obtain rfl : j = zs.length := by omega
            have Hxa : Hid (xorTo y row zs.length = xorL y row) := by rw [← Hy.out]; exact xorTo_all Hry.out
            rw [Hxa.out] at hown2
            go_wp2
            go_roundw
            case rel => exact ⟨k + 1, by omega, by go_num, by rw [Hsn.out]; exact hown2, hbr2⟩
            case measure => simp [intOf]; omega
      · obtain rfl : k = rs.length := by omega
        have Hall2 : Hid (foldG gP 0 zs (rs.take rs.length) = pB rs) := by rw [List.take_length]; exact Hs.out.symm
        have Hyl := Lib.hid (show (pB rs).length = zs.length by rw [← Hall2.out]; exact Hy.out)
        rw [Hall2.out] at hown
        go_wp2
        go_ret
        exact ⟨_, rfl, hown, hbr⟩
end Go.Proofs.Ytfbfodcjfcnfoaa
