/- Texts put together: Keep, KeepCopy, Synd, PlaceBackMath, PlaceAll, PlaySec, MakeS, Within, Seal. -/
import Derived.Test.YtenkkdnepmoihaaGreatDoorUdaa
import Derived.StillTailTactics
section
namespace Go.Proofs.YtenkkdnepmoihaaGreatDoor
open Go.RowKit

theorem xor_u8 (a b : UInt8) : bits .xor .u8 (a.toNat : Int) (b.toNat : Int) = (((a ^^^ b).toNat : Nat) : Int) := by
  rw [u8_xor_nat _ _ a.toNat_lt b.toNat_lt, UInt8.toNat_xor]
theorem take_snoc_eq {bs bs' : List UInt8} {j : Nat} (h : bs.take j = bs'.take j) (hj : j < bs.length) (hj' : j < bs'.length) (he : bs.getD j 0 = bs'.getD j 0) : bs.take (j + 1) = bs'.take (j + 1) := by
  rw [List.take_succ_eq_append_getElem hj, List.take_succ_eq_append_getElem hj', h]
  have e : bs[j] = bs'[j] := by simpa [hj, hj'] using he
  rw [e]
theorem getD_of_eq {bs bs' : List UInt8} (h : bs = bs') (j : Nat) : bs.getD j 0 = bs'.getD j 0 := by rw [h]
theorem u8_bne {a b : UInt8} (h : a ≠ b) : ((a.toNat : Int) != (b.toNat : Int)) = true := by
  rw [bne_iff_ne]; intro h'; exact h (UInt8.toNat_inj.1 (by omega))
def SamePost (bs bs' : List UInt8) (w : World) (e : Ending) (w' : World) : Prop := e = .returned (.bool (decide (bs = bs'))) ∧ ∃ m, w' = w.drewN m
set_option maxHeartbeats 400000 in
theorem same_any (A A' : Option Addr) (n n' c c' B : Nat) (bs bs' : List UInt8) (w : World) (hn : n = bs.length) (hn' : n' = bs'.length) (hr : RdB w B A bs) (hr' : RdB w B A' bs') :
    Calls Tryz.prog 19 #[.slice A n c, .slice A' n' c'] w (SamePost bs bs' w) := by
  subst hn hn'
  have hl := hr.1
  have hl' := hr'.1
  by_cases hlen : bs.length = bs'.length
  · have hle := Lib.hid hlen
    have hne : ((bs.length : Int) != (bs'.length : Int)) = false := by rw [hlen]; simp
    clear hlen
    go_enter Tryz.func19, Tryz.ntmps19
    go_wp2
    go_loopw [5] (fun i wr => ∃ j m : Nat, j ≤ bs.length ∧ i = .int .i64 j ∧ bs.take j = bs'.take j ∧ wr = w.drewN m) (fun i _ => bs.length - (intOf i).toNat)
    case atStart => exact ⟨0, 0, Nat.zero_le _, rfl, rfl, rfl⟩
    case round =>
      obtain ⟨j, m, hj, rfl, htk, rfl⟩ := hrel
      have Htk := Lib.hid htk
      clear htk
      by_cases hlt : j < bs.length
      · have hlt' : j < bs'.length := by have := hle.out; omega
        obtain ⟨b, off, rfl, hb, hc⟩ := hr.2 (by omega)
        obtain ⟨b', off', rfl, hb', hc'⟩ := hr'.2 (by omega)
        have h1 := hc j hlt
        have h2 := hc' j hlt'
        have i0 : (0 : Int) ≤ (j : Int) := by omega
        have i1 : (j : Int) < (bs.length : Int) := by omega
        have i2 : (j : Int) < (bs'.length : Int) := by omega
        clear hc hc'
        by_cases he : bs.getD j 0 = bs'.getD j 0
        · have Hsn := Lib.hid (take_snoc_eq Htk.out hlt hlt' he)
          rw [← he] at h2
          clear he
          generalize bs.getD j 0 = x at h1 h2
          go_wp2
          go_quiet (fail)
          go_wp2
          go_roundw
          case rel => exact ⟨j + 1, _, by omega, by go_num, Hsn.out, rfl⟩
          case measure => simp [intOf]; omega
        · have hd : decide (bs = bs') = false := by simpa using fun h => he (getD_of_eq h j)
          have Hd := Lib.hid hd
          have hb := u8_bne he
          clear hd he
          generalize bs.getD j 0 = x at h1 hb
          generalize bs'.getD j 0 = y at h2 hb
          go_wp2
          go_quiet (fail)
          go_wp2
          go_ret
          exact ⟨by rw [Hd.out]; rfl, m + nq, World.drewN_drewN _ _ _⟩
      · obtain rfl : j = bs.length := by omega
        have Hd : Hid (decide (bs = bs') = true) := by
          have h1 := Htk.out
          rw [List.take_length, hle.out, List.take_length] at h1
          exact decide_eq_true h1
        go_wp2
        go_ret
        exact ⟨by rw [Hd.out]; rfl, m, rfl⟩
  · go_enter Tryz.func19, Tryz.ntmps19
    have hne : ((bs.length : Int) != (bs'.length : Int)) = true := by rw [bne_iff_ne]; omega
    go_wp2
    go_ret
    exact ⟨by rw [decide_eq_false (fun h => hlen (by rw [h]))]; rfl, 0, rfl⟩
end Go.Proofs.YtenkkdnepmoihaaGreatDoor
end
section
namespace Go.Proofs.YtenkkdnepmoihaaGreatDoor
open Go.RowKit

end Go.Proofs.YtenkkdnepmoihaaGreatDoor
end
section
namespace Go.Proofs.YtenkkdnepmoihaaGreatDoor
open Go.RowKit

theorem int_bne_no {a b : Nat} (h : a = b) : ((a : Int) != (b : Int)) = false := by simp [h]
theorem int_bne_yes {a b : Nat} (h : a ≠ b) : ((a : Int) != (b : Int)) = true := by simp; omega
theorem nil_own (w : World) (B : Nat) {bs : List UInt8} (h : bs = []) : OwB 5 w B (.slice none 0 0) bs := by subst h; exact OwB.nil _ _ _
set_option maxHeartbeats 400000 in
theorem zeros_any (A : Option Addr) (rs : List (List UInt8)) (n cp : Nat) (w : World) (hn : rs.length = n) (hr : RdR w w.heap.size A rs) :
    Calls Tryz.prog 116 #[.slice A n cp] w fun e w' => ∃ v, e = .returned v ∧ OwB 5 w' w.heap.size v (zerosB rs) ∧ Below w.heap.size w w' := by
  subst hn
  have hm := hr.1
  by_cases h0 : rs.length = 0
  · have hz : zerosB rs = [] := by rw [List.eq_nil_of_length_eq_zero h0]; rfl
    have hz := Lib.hid hz
    have e0 : ((rs.length : Int) == 0) = true := by rw [h0]; rfl
    clear h0
    go_enter Tryz.func116, Tryz.ntmps116
    go_wp2
    go_ret
    exact ⟨_, rfl, nil_own _ _ hz.out, Below.refl _ _⟩
  · obtain ⟨b, off, rfl, hb, hc⟩ := hr.2 (by omega)
    have Hc := Lib.hid hc
    obtain ⟨A0, c0, k0, r0⟩ := hc 0 (by omega)
    have Hno := Lib.hid (fun k => @alikeB_no rs k)
    have Hyes := Lib.hid (@alikeB_iff rs)
    have Hz : Hid (zerosB rs = if alikeB rs then zeroL (rs.getD 0 []).length else []) := rfl
    have hN := r0.1
    rw [Nat.add_zero] at k0
    have i0 : (0 : Int) < (rs.length : Int) := by omega
    have i1 : 0 < rs.length := by omega
    have e0 : ((rs.length : Int) == 0) = false := by rw [beq_eq_false_iff_ne]; omega
    have km := make_bytes (rs.getD 0 []).length hN
    generalize (rs.getD 0 []).length = N at k0 hN km Hno Hyes Hz
    clear hc h0 hr r0
    go_enter Tryz.func116, Tryz.ntmps116
    go_wp2
    go_loop [15] (fun i => ∃ k : Nat, k ≤ rs.length ∧ i = .int .i64 k ∧ Hid (∀ j, j < k → (rs.getD j []).length = N)) (fun i => rs.length - (intOf i).toNat)
    case atStart => exact ⟨0, Nat.zero_le _, rfl, fun j hj => by omega⟩
    case round =>
      obtain ⟨k, hk, rfl, Hj⟩ := hrel
      by_cases hlt : k < rs.length
      · obtain ⟨A', c', h1, h2⟩ := Hc.out k hlt
        have Hno := Lib.hid (Hno.out k hlt)
        by_cases he : (rs.getD k []).length = N
        · have Hn : Hid (∀ j, j < k + 1 → (rs.getD j []).length = N) := fun j hj => by
            by_cases hjk : j = k
            · subst hjk; exact he
            · exact Hj.out j (by omega)
          rw [he] at h1
          clear h2 he
          go_wp2
          go_round
          case rel => exact ⟨k + 1, by omega, by go_num, Hn⟩
          case measure => simp [intOf]; omega
        · have hz : Hid (zerosB rs = []) := by rw [Hz.out, Hno.out he]; rfl
          have hne := int_bne_yes he
          clear he
          generalize rs.getD k [] = row at h1 h2 hne
          go_wp2
          go_ret
          exact ⟨_, rfl, nil_own _ _ hz.out, Below.refl _ _⟩
      · obtain rfl : k = rs.length := by omega
        have hz := Lib.hid (show zerosB rs = zeroL N by rw [Hz.out, if_pos (Hyes.out.2 ⟨i1, Hj.out⟩)])
        go_wp2
        go_ret
        exact ⟨_, rfl, by rw [hz.out]; exact own_make _ w N hN, below1 _ _⟩

/-- Where the zeros are none: nil, whatever the sum. -/
theorem own_nil_len {w : World} {B : Nat} {v : Value} (h : OwB 5 w B v []) : ∃ A c, v = .slice A 0 c := by
  obtain ⟨A, c, hv, _, _⟩ := h.rd
  exact ⟨A, c, hv⟩

set_option maxHeartbeats 800000 in
theorem p_any (A : Option Addr) (rs : List (List UInt8)) (n cp : Nat) (w : World) (hn : rs.length = n) (hr : RdR w w.heap.size A rs) :
    Calls Tryz.prog 87 #[.slice A n cp] w fun e w' => ∃ v, e = .returned v ∧ OwB 5 w' w.heap.size v (pB rs) ∧ Below w.heap.size w w' := by
  have C := Lib.hid (zeros_any A rs n cp w hn hr)
  subst hn
  have hm := hr.1
  by_cases h0 : zerosB rs = []
  · have Hp : Hid (pB rs = []) := sumG_nil gP_len h0
    rw [h0] at C
    clear h0
    go_enter Tryz.func87, Tryz.ntmps87
    go_wp2_with fail
    refine C.out.mono ?_
    rintro e w1 ⟨v, rfl, ho, hb⟩
    obtain ⟨A1, c1, rfl⟩ := own_nil_len ho
    go_wp2
    go_ret
    exact ⟨_, rfl, nil_own _ _ Hp.out, hb⟩
  · obtain ⟨hall, hs, hal⟩ := sumG_cons (g := gP) h0
    have Hs : Hid (pB rs = foldG gP 0 (zerosB rs) rs) := hs
    have Hall := Lib.hid hall
    have Hf := Lib.hid (foldG_snoc gP (zerosB rs) rs)
    have Hl := Lib.hid (foldG_take_len gP_len hall)
    have hpos : 0 < (zerosB rs).length := by cases hz : zerosB rs with | nil => exact absurd hz h0 | cons a b => simp
    clear hall hs hal h0
    generalize zerosB rs = zs at C Hs Hall Hf Hl hpos
    go_enter Tryz.func87, Tryz.ntmps87
    go_wp2_with fail
    refine C.out.mono ?_
    rintro e w1 ⟨v, rfl, ho, hb⟩
    obtain ⟨g, cap, rfl, hg, hg1, hcap, _, _⟩ := ho.pos hpos
    have hzl := ho.2
    have e0 : ((zs.length : Int) == 0) = false := by rw [beq_eq_false_iff_ne]; omega
    go_wp2
    go_loopw [15] (fun i wr => ∃ k : Nat, k ≤ rs.length ∧ i = .int .i64 k ∧ OwB 5 wr w.heap.size (.slice (some ⟨g, 0, none⟩) zs.length cap) (foldG gP 0 zs (rs.take k)) ∧ Below w.heap.size w wr) (fun i _ => rs.length - (intOf i).toNat)
    case atStart => exact ⟨0, Nat.zero_le _, rfl, ho, hb⟩
    case round =>
      obtain ⟨k, hk, rfl, hown, hbr⟩ := hrel
      have Hy := Lib.hid (Hl.out k)
      by_cases hlt : k < rs.length
      · obtain ⟨b, off, rfl, hbb, hc⟩ := hr.2 (by omega)
        obtain ⟨A', c', h1, h2⟩ := hc k hlt
        have Hsn := Lib.hid (Hf.out k hlt)
        have hln := Hall.out k hlt
        rw [hln] at h1
        have Hln := Lib.hid hln
        clear hln hc
        rw [← hbr.cell (p := ⟨b, off + k, none⟩) hbb] at h1
        generalize rs.getD k [] = row at h1 h2 Hsn Hln
        generalize foldG gP 0 zs (rs.take k) = y at hown Hsn Hy
        have hlen := h2.1
        go_wp2
        go_loopw [21] (fun i wr => ∃ j : Nat, j ≤ zs.length ∧ i = .int .i64 j ∧ OwB 5 wr w.heap.size (.slice (some ⟨g, 0, none⟩) zs.length cap) (xorTo y row j) ∧ Below w.heap.size w wr) (fun i _ => zs.length - (intOf i).toNat)
        case atStart => exact ⟨0, Nat.zero_le _, rfl, by rw [xorTo_zero]; exact hown, hbr⟩
        case round =>
          obtain ⟨j, hj, rfl, hown2, hbr2⟩ := hrel
          have hry : row.length = y.length := Hln.out.trans Hy.out.symm
          have Hry := Lib.hid hry
          clear hry
          by_cases hlt2 : j < zs.length
          · obtain ⟨b2, off2, rfl, hb2, hc2⟩ := h2.2 (by have := Hln.out; omega)
            have h3 := hc2 j (by have := Hln.out; omega)
            rw [← hbr2.cell (p := ⟨b2, off2 + j, none⟩) hb2] at h3
            obtain ⟨h4, h5⟩ := hown2.cell ((xorTo_len Hry.out (by have := Hy.out; omega)).trans Hy.out) j hlt2
            rw [xorTo_get Hry.out (by have := Hy.out; omega)] at h4
            have Hset := Lib.hid (hown2.set ((xorTo_len Hry.out (by have := Hy.out; omega)).trans Hy.out) j (y.getD j 0 ^^^ row.getD j 0)).1
            have Hx := Lib.hid (xorTo_succ Hry.out (show j < y.length by have := Hy.out; omega))
            have ex := xor_u8 (y.getD j 0) (row.getD j 0)
            have i0 : (0 : Int) ≤ (j : Int) := by omega
            have i1 : (j : Int) < (zs.length : Int) := by omega
            generalize row.getD j 0 = c at h3 Hset Hx ex
            generalize y.getD j 0 = d at h4 Hset Hx ex
            generalize d ^^^ c = dc at Hset Hx ex
            clear hc2
            go_wp2
            go_roundw
            case rel => exact ⟨j + 1, by omega, by go_num, by rw [← Hx.out]; exact Hset.out, hbr2.setCell (p := ⟨g, j, none⟩) hg _⟩
            case measure => simp [intOf]; omega
          · obtain rfl : j = zs.length := by omega
            have Hxa : Hid (xorTo y row zs.length = xorL y row) := by rw [← Hy.out]; exact xorTo_all Hry.out
            rw [Hxa.out] at hown2
            go_wp2
            go_roundw
            case rel => exact ⟨k + 1, by omega, by go_num, by rw [Hsn.out]; exact hown2, hbr2⟩
            case measure => simp [intOf]; omega
      · obtain rfl : k = rs.length := by omega
        have Hall2 : Hid (foldG gP 0 zs (rs.take rs.length) = pB rs) := by rw [List.take_length]; exact Hs.out.symm
        have Hyl := Lib.hid (show (pB rs).length = zs.length by rw [← Hall2.out]; exact Hy.out)
        rw [Hall2.out] at hown
        go_wp2
        go_ret
        exact ⟨_, rfl, hown, hbr⟩
end Go.Proofs.YtenkkdnepmoihaaGreatDoor
end
section
namespace Go.Proofs.YtenkkdnepmoihaaGreatDoor

/-- A level and so many disks, one by one. -/
theorem ld_cases {l d c : Int} (h : gOk l d c = true) : (l = 5 ∧ d = 3) ∨ (l = 5 ∧ d = 4) ∨ (l = 5 ∧ d = 5) ∨ (l = 5 ∧ d = 6) ∨ (l = 5 ∧ d = 7) ∨ (l = 5 ∧ d = 8) ∨ (l = 6 ∧ d = 4) ∨ (l = 6 ∧ d = 5) ∨ (l = 6 ∧ d = 6) ∨ (l = 6 ∧ d = 7) ∨ (l = 6 ∧ d = 8) := by
  obtain ⟨h1, h8, _⟩ := gOk_yes h
  rcases h1 with ⟨rfl, h3⟩ | ⟨rfl, h4⟩
  · have hd : d = 3 ∨ d = 4 ∨ d = 5 ∨ d = 6 ∨ d = 7 ∨ d = 8 := by omega
    rcases hd with rfl | rfl | rfl | rfl | rfl | rfl <;> simp
  · have hd : d = 4 ∨ d = 5 ∨ d = 6 ∨ d = 7 ∨ d = 8 := by omega
    rcases hd with rfl | rfl | rfl | rfl | rfl <;> simp
theorem plK_only {l d c i r k : Int} (h : plDok l d c r k = true) (he : plD l d c r k = i) : k = plK l d c i r := by
  obtain ⟨hk, h0, h1⟩ := plDok_yes h
  obtain ⟨hg, _, _⟩ := plOk_yes hk
  have hf := plF_bd l c r (show 1 ≤ d by have := gOk_bd hg; omega)
  rw [plD_yes h] at he
  rw [gWid_yes hg] at h1
  unfold plK
  generalize plF l d c r = f at hf he
  subst he
  rcases ld_cases hg with ⟨rfl, rfl⟩ | ⟨rfl, rfl⟩ | ⟨rfl, rfl⟩ | ⟨rfl, rfl⟩ | ⟨rfl, rfl⟩ | ⟨rfl, rfl⟩ | ⟨rfl, rfl⟩ | ⟨rfl, rfl⟩ | ⟨rfl, rfl⟩ | ⟨rfl, rfl⟩ | ⟨rfl, rfl⟩ <;> omega
end Go.Proofs.YtenkkdnepmoihaaGreatDoor
end
section
namespace Go.Proofs.YtenkkdnepmoihaaGreatDoor

theorem wd_cases {l d c : Int} (h : gOk l d c = true) : (d - (l - 4) = 2 ∨ d - (l - 4) = 3 ∨ d - (l - 4) = 4 ∨ d - (l - 4) = 5 ∨ d - (l - 4) = 6 ∨ d - (l - 4) = 7) ∧ (c = 1 ∨ c = 2 ∨ c = 4) := by
  obtain ⟨h1, h8, hc⟩ := gOk_yes h
  refine ⟨?_, hc⟩
  omega
/-- The place of a sector: its row, its data chunk; and the number that stands there. -/
theorem of_row {l d c n : Int} (hg : gOk l d c = true) (h0 : 0 ≤ n) (h1 : n < gCap l d c) :
    0 ≤ plRow l d c n ∧ plRow l d c n < 16 ∧ 0 ≤ n / c % (d - (l - 4)) ∧ n / c % (d - (l - 4)) < d - (l - 4) ∧ plRow l d c n / c = n / c / (d - (l - 4)) ∧ plN l d c (plRow l d c n) (n / c % (d - (l - 4))) = n := by
  obtain ⟨hw, hc⟩ := wd_cases hg
  rw [gCap_yes hg] at h1
  unfold plN plRow
  generalize d - (l - 4) = wd at hw h1
  rcases hw with rfl | rfl | rfl | rfl | rfl | rfl <;> rcases hc with rfl | rfl | rfl <;> omega
/-- The number in a row, of a data chunk: its place is there. -/
theorem num_row {l d c r k : Int} (h : plDok l d c r k = true) : 0 ≤ plN l d c r k ∧ plN l d c r k < gCap l d c ∧ plRow l d c (plN l d c r k) = r ∧ plN l d c r k / c % (d - (l - 4)) = k := by
  obtain ⟨hk, k0, k1⟩ := plDok_yes h
  obtain ⟨hg, r0, r1⟩ := plOk_yes hk
  obtain ⟨hw, hc⟩ := wd_cases hg
  rw [gWid_yes hg] at k1
  rw [gCap_yes hg]
  unfold plN plRow
  generalize d - (l - 4) = wd at hw k1
  rcases hw with rfl | rfl | rfl | rfl | rfl | rfl <;> rcases hc with rfl | rfl | rfl <;> omega
theorem plDok_mk {l d c r k : Int} (h : plOk l d c r = true) (k0 : 0 ≤ k) (k1 : k < d - (l - 4)) : plDok l d c r k = true := by
  unfold plDok
  rw [h, gWid_yes (plOk_yes h).1, decide_eq_true ⟨k0, k1⟩]; rfl
/-- Data stands on no disk of parity. -/
theorem data_ne {l d c r k : Int} (h : plDok l d c r k = true) : 0 ≤ plD l d c r k ∧ plD l d c r k < d ∧ plD l d c r k ≠ plP l d c r ∧ plD l d c r k ≠ plQ l d c r := by
  obtain ⟨hk, k0, k1⟩ := plDok_yes h
  obtain ⟨hg, _, _⟩ := plOk_yes hk
  have hm := rem_bd (r / c) (show 1 ≤ d by have := gOk_bd hg; omega)
  rw [plD_yes h, plP_yes hk]
  rw [gWid_yes hg] at k1
  unfold plQ plF
  rw [if_pos hk]
  generalize r / c % d = m at hm
  rcases ld_cases hg with ⟨rfl, rfl⟩ | ⟨rfl, rfl⟩ | ⟨rfl, rfl⟩ | ⟨rfl, rfl⟩ | ⟨rfl, rfl⟩ | ⟨rfl, rfl⟩ | ⟨rfl, rfl⟩ | ⟨rfl, rfl⟩ | ⟨rfl, rfl⟩ | ⟨rfl, rfl⟩ | ⟨rfl, rfl⟩ <;> simp <;> omega
theorem parity_in {l d c r : Int} (hk : plOk l d c r = true) : 0 ≤ plP l d c r ∧ plP l d c r < d ∧ (l = 5 → plQ l d c r = -1) ∧ (l = 6 → 0 ≤ plQ l d c r ∧ plQ l d c r < d ∧ plQ l d c r ≠ plP l d c r) := by
  obtain ⟨hg, _, _⟩ := plOk_yes hk
  have hm := rem_bd (r / c) (show 1 ≤ d by have := gOk_bd hg; omega)
  rw [plP_yes hk]
  unfold plQ
  rw [if_pos hk]
  generalize r / c % d = m at hm
  rcases ld_cases hg with ⟨rfl, rfl⟩ | ⟨rfl, rfl⟩ | ⟨rfl, rfl⟩ | ⟨rfl, rfl⟩ | ⟨rfl, rfl⟩ | ⟨rfl, rfl⟩ | ⟨rfl, rfl⟩ | ⟨rfl, rfl⟩ | ⟨rfl, rfl⟩ | ⟨rfl, rfl⟩ | ⟨rfl, rfl⟩ <;> simp <;> omega
/-- What stands at data's place. -/
theorem back_data {l d c r k : Int} (h : plDok l d c r k = true) : plBOk l d c (plD l d c r k) r = true ∧ plBk l d c (plD l d c r k) r = 0 ∧ plBn l d c (plD l d c r k) r = plN l d c r k := by
  obtain ⟨a, b, e1, e2⟩ := data_ne h
  have hk := (plDok_yes h).1
  have hb : plBOk l d c (plD l d c r k) r = true := by unfold plBOk; rw [hk, decide_eq_true ⟨a, b⟩]; rfl
  refine ⟨hb, ?_, ?_⟩
  · unfold plBk; rw [if_pos hb, if_neg e1, if_neg e2]
  · unfold plBn; rw [if_pos hb, if_neg e1, if_neg e2, ← plK_only h rfl]
theorem of_yes {l d c n : Int} (hg : gOk l d c = true) (h0 : 0 ≤ n) (h1 : n < gCap l d c) :
    plOfOk l d c n = true ∧ plOfR l d c n = plRow l d c n ∧ plOfD l d c n = plD l d c (plRow l d c n) (n / c % (d - (l - 4))) ∧ plDok l d c (plRow l d c n) (n / c % (d - (l - 4))) = true := by
  obtain ⟨a, b, k0, k1, _, _⟩ := of_row hg h0 h1
  have hok : plOfOk l d c n = true := decide_eq_true ⟨h0, h1⟩
  exact ⟨hok, by rw [plOfR, if_pos hok], by rw [plOfD, if_pos hok], plDok_mk (plOk_mk hg a b) k0 k1⟩
theorem of_back {l d c n : Int} (hg : gOk l d c = true) (h0 : 0 ≤ n) (h1 : n < gCap l d c) :
    plOfOk l d c n = true ∧ (0 ≤ plOfD l d c n ∧ plOfD l d c n < d) ∧ (0 ≤ plOfR l d c n ∧ plOfR l d c n < 16) ∧ plBOk l d c (plOfD l d c n) (plOfR l d c n) = true ∧ plBk l d c (plOfD l d c n) (plOfR l d c n) = 0 ∧ plBn l d c (plOfD l d c n) (plOfR l d c n) = n := by
  obtain ⟨a, b, k0, k1, _, hN⟩ := of_row hg h0 h1
  obtain ⟨hok, hr, hd, hk⟩ := of_yes hg h0 h1
  obtain ⟨b1, b2, b3⟩ := back_data hk
  obtain ⟨d0, d1, _, _⟩ := data_ne hk
  rw [hr, hd]
  exact ⟨hok, ⟨d0, d1⟩, ⟨a, b⟩, b1, b2, by rw [b3]; exact hN⟩
theorem of_num {l d c r k : Int} (h : plDok l d c r k = true) : plOfOk l d c (plN l d c r k) = true ∧ plOfD l d c (plN l d c r k) = plD l d c r k ∧ plOfR l d c (plN l d c r k) = r := by
  have hg := (plOk_yes (plDok_yes h).1).1
  obtain ⟨n0, n1, hr, hk⟩ := num_row h
  obtain ⟨hok, h2, h3, _⟩ := of_yes hg n0 n1
  refine ⟨hok, ?_, ?_⟩
  · rw [h3, hr, hk]
  · rw [h2, hr]
end Go.Proofs.YtenkkdnepmoihaaGreatDoor
end
section
namespace Go.Proofs.YtenkkdnepmoihaaGreatDoor
open Go.RowKit

def secI (n : Int) (k : Nat) : Int := wrap64 (n + wrap64 ((k : Int) * bits .or .i64 (n.tdiv 7) 1)) % 256
def secU (n : Int) (k : Nat) : UInt8 := UInt8.ofNat (secI n k).toNat
theorem secU_val (n : Int) (k : Nat) : ((secU n k).toNat : Int) = secI n k := by
  have h0 : 0 ≤ secI n k := Int.emod_nonneg _ (by omega)
  have h1 : secI n k < 256 := Int.emod_lt_of_pos _ (by omega)
  unfold secU
  rw [UInt8.toNat_ofNat']
  generalize secI n k = x at h0 h1
  have : x.toNat < 256 := by omega
  rw [Nat.mod_eq_of_lt (by simpa using this)]
  omega
def sectorB (n : Int) : List UInt8 := if withinI n 11 = 10 then List.replicate 32 0 else (List.range 32).map (secU n)
theorem sectorB_len (n : Int) : (sectorB n).length = 32 := by
  unfold sectorB; split
  · rw [List.length_replicate]
  · rw [List.length_map, List.length_range]
def secTo (n : Int) (k : Nat) : List UInt8 := (List.range k).map (secU n) ++ List.replicate (32 - k) 0
theorem secTo_zero (n : Int) : secTo n 0 = List.replicate 32 0 := rfl
theorem secTo_all (n : Int) : secTo n 32 = (List.range 32).map (secU n) := by unfold secTo; simp
theorem secTo_len (n : Int) {k : Nat} (h : k ≤ 32) : (secTo n k).length = 32 := by unfold secTo; simp; omega
theorem secTo_succ (n : Int) {k : Nat} (h : k < 32) : (secTo n k).set k (secU n k) = secTo n (k + 1) := by
  have hl : ((List.range k).map (secU n)).length = k := by simp
  unfold secTo
  rw [List.set_append_right _ _ (by omega), hl, Nat.sub_self, show 32 - k = (32 - (k + 1)) + 1 from by omega, List.replicate_succ, List.set_cons_zero, List.range_succ, List.map_append, List.append_assoc]
  rfl
set_option maxHeartbeats 400000 in
theorem sector_any (n : Int) (w : World) (hn : -9223372036854775808 ≤ n ∧ n ≤ 9223372036854775807) :
    Calls Tryz.prog 14 #[.int .i64 n] w fun e w' => ∃ g, e = .returned (.slice (some ⟨g, 0, none⟩) 32 32) ∧ OwB 5 w' w.heap.size (.slice (some ⟨g, 0, none⟩) 32 32) (sectorB n) ∧ Below w.heap.size w w' := by
  have hmk : ∀ w, (Instr.makeSlice 35 (.int .i64 32) (.int .i64 32)).run Tryz.prog w = .ok (.slice (some ⟨w.heap.size, 0, none⟩) 32 32) (w.alloc (.cells (zcells 32) 5)) := make_bytes 32 (by omega)
  have CW := Lib.hid (fun W => within_any n 11 W hn (by omega))
  have HE : Hid (sectorB n = if withinI n 11 = 10 then List.replicate 32 0 else (List.range 32).map (secU n)) := rfl
  have ho := own_make 5 w 32 (by omega)
  have hb0 := below1 w (.cells (zcells 32) 5)
  generalize withinI n 11 = q at CW HE
  by_cases hq : q = 10
  · subst hq
    rw [if_pos rfl] at HE
    go_enter Tryz.func14, Tryz.ntmps14
    go_wp2_with fail
    generalize w.alloc (.cells (zcells 32) 5) = w0 at ho hb0 ⊢
    refine (CW.out _).mono ?_
    rintro e w' ⟨rfl, rfl⟩
    go_wp2
    go_ret
    exact ⟨w.heap.size, rfl, by rw [HE.out]; exact ho, hb0⟩
  · have hqb : (q == 10) = false := by rw [beq_eq_false_iff_ne]; exact hq
    rw [if_neg hq, ← secTo_all] at HE
    rw [← secTo_zero n] at ho
    go_enter Tryz.func14, Tryz.ntmps14
    go_wp2_with fail
    generalize w.alloc (.cells (zcells 32) 5) = w0 at ho hb0 ⊢
    refine (CW.out _).mono ?_
    rintro e w' ⟨rfl, rfl⟩
    clear hmk
    go_wp2
    go_loopw [12] (fun i wr => ∃ k : Nat, k ≤ 32 ∧ i = .int .i64 k ∧ OwB 5 wr w.heap.size (.slice (some ⟨w.heap.size, 0, none⟩) 32 32) (secTo n k) ∧ Below w.heap.size w wr) (fun i _ => 32 - (intOf i).toNat)
    case atStart => exact ⟨0, by omega, rfl, ho, hb0⟩
    case round =>
      obtain ⟨k, hk, rfl, hown, hbr⟩ := hrel
      by_cases hlt : k < 32
      · have i0 : (0 : Int) ≤ (k : Int) := by omega
        have i1 : (k : Int) < 32 := by omega
        obtain ⟨hc, hf⟩ := hown.cell (secTo_len n hk) k hlt
        have hset := (hown.set (secTo_len n hk) k (secU n k)).1
        rw [secU_val, secTo_succ n hlt] at hset
        have Hset := Lib.hid hset
        have Hbs := Lib.hid (hbr.setCell (p := ⟨w.heap.size, k, none⟩) (Nat.le_refl _) (.int .u8 (secI n k)))
        clear hset hown
        go_wp2
        go_roundw
        case rel => exact ⟨k + 1, by omega, by go_num, Hset.out, Hbs.out⟩
        case measure => simp [intOf]; omega
      · obtain rfl : k = 32 := by omega
        go_wp2
        go_ret
        exact ⟨w.heap.size, rfl, by rw [HE.out]; exact hown, hbr⟩
end Go.Proofs.YtenkkdnepmoihaaGreatDoor
end
section
namespace Go.Proofs.YtenkkdnepmoihaaGreatDoor
open Go.RowKit

end Go.Proofs.YtenkkdnepmoihaaGreatDoor
end
section
namespace Go.Proofs.YtenkkdnepmoihaaGreatDoor
open Go.RowKit

end Go.Proofs.YtenkkdnepmoihaaGreatDoor
end
section
namespace Go.Proofs.YtenkkdnepmoihaaGreatDoor
open Go.RowKit

theorem stampByte_any (x k : Nat) (hx : x < 4294967296) (hk : k < 4) (w : World) :
    Calls Tryz.prog 124 #[.int .u32 (x : Int), .int .i64 (k : Int)] w fun e w' => e = .returned (.int .u8 ((beB x k).toNat : Int)) ∧ w' = w := by
  match k, hk with
  | 0, _ =>
    go_enter Tryz.func124, Tryz.ntmps124
    go_wp2
    go_ret
    exact ⟨congrArg (fun z => Ending.returned (.int .u8 z)) (by simp only [beB, UInt8.toNat_ofNat']; omega), rfl⟩
  | 1, _ =>
    go_enter Tryz.func124, Tryz.ntmps124
    go_wp2
    go_ret
    exact ⟨congrArg (fun z => Ending.returned (.int .u8 z)) (by simp only [beB, UInt8.toNat_ofNat']; omega), rfl⟩
  | 2, _ =>
    go_enter Tryz.func124, Tryz.ntmps124
    go_wp2
    go_ret
    exact ⟨congrArg (fun z => Ending.returned (.int .u8 z)) (by simp only [beB, UInt8.toNat_ofNat']; omega), rfl⟩
  | 3, _ =>
    go_enter Tryz.func124, Tryz.ntmps124
    go_wp2
    go_ret
    exact ⟨congrArg (fun z => Ending.returned (.int .u8 z)) (by simp only [beB, UInt8.toNat_ofNat']; omega), rfl⟩
theorem stampOf_any (A Ap : Option Addr) (c cp : Nat) (bs : List UInt8) (rs : List (List UInt8)) (n : Nat) (w : World) (hn : rs.length = n) (hbs : bs.length = 32) (hc : 32 ≤ c) (hr : RdB w w.heap.size A bs) (hp : RdR w w.heap.size Ap rs) (ht : TabOk w) :
    Calls Tryz.prog 123 #[.slice A 32 c, .slice Ap n cp] w fun e w' => e = .returned (.int .u32 ((sumR (bs.take 28 :: rs) : Nat) : Int)) ∧ Below w.heap.size w w' := by
  subst hn
  have hpos := ht.pos
  have hl1 := feedR_lt (x := 4294967295) [bs.take 28] (by decide)
  have hl2 := feedR_lt rs hl1
  have C1 : Hid (∀ W, W.heap[w.heap.size]? = some (.cells #[.slice A 28 c] 35) → Below w.heap.size w W → Calls Tryz.prog 141 #[.int .u32 4294967295, .slice (some ⟨w.heap.size, 0, none⟩) 1 1] W
      fun e w' => e = .returned (.int .u32 ((feedR 4294967295 [bs.take 28] : Nat) : Int)) ∧ w' = W) :=
    Lib.hid fun W hg hb => feed_any _ [bs.take 28] 1 4294967295 (by decide) W (rdr_cells hg (by have := (Array.getElem?_eq_some_iff.1 hg).1; omega) (by simp) fun k hk => by
      obtain rfl : k = 0 := by simp at hk; omega
      exact ⟨A, c, by simp [hbs], ((hr.below hb (Nat.le_refl _)).more hb.size).take 28⟩) (ht.below hb hpos)
  have C2 : Hid (∀ W, Below w.heap.size w W → Calls Tryz.prog 141 #[.int .u32 ((feedR 4294967295 [bs.take 28] : Nat) : Int), .slice Ap rs.length cp] W
      fun e w' => e = .returned (.int .u32 ((feedR (feedR 4294967295 [bs.take 28]) rs : Nat) : Int)) ∧ w' = W) :=
    Lib.hid fun W hb => feed_any Ap rs cp _ hl1 W ((hp.below hb (Nat.le_refl _)).more hb.size) (ht.below hb hpos)
  have e0 : bits .xor .u32 ((feedR (feedR 4294967295 [bs.take 28]) rs : Nat) : Int) 4294967295 = ((sumR (bs.take 28 :: rs) : Nat) : Int) := u32_xor_nat _ 4294967295 hl2 (by decide)
  generalize sumR (bs.take 28 :: rs) = z at e0
  generalize feedR (feedR 4294967295 [bs.take 28]) rs = y2 at C2 e0
  generalize feedR 4294967295 [bs.take 28] = y1 at C1 C2
  have i0 : (28 : Int) ≤ (c : Int) := by omega
  go_enter Tryz.func123, Tryz.ntmps123
  go_wp2_with (first
    | (go_at_call_of 141 (Value.slice (some ⟨w.heap.size, 0, none⟩) 1 1); refine (C1.out _ (hp_new _ _ _ rfl) (below1 _ _)).mono ?_; rintro e w' ⟨rfl, rfl⟩)
    | (go_at_call 141; refine (C2.out _ (below1 _ _)).mono ?_; rintro e w' ⟨rfl, rfl⟩))
  go_ret
  exact ⟨rfl, below1 _ _⟩
set_option maxHeartbeats 400000 in
theorem stamp_any (g cap B : Nat) (Ap : Option Addr) (cp : Nat) (bs : List UInt8) (rs : List (List UInt8)) (n : Nat) (w : World) (hn : rs.length = n) (h : OwB 5 w B (.slice (some ⟨g, 0, none⟩) 32 cap) bs) (hbs : bs.length = 32)
    (hp : RdR w w.heap.size Ap rs) (ht : TabOk w) :
    Calls Tryz.prog 93 #[.slice (some ⟨g, 0, none⟩) 32 cap, .slice Ap n cp] w fun e w' => e = .returned (.bool true) ∧ OwB 5 w' B (.slice (some ⟨g, 0, none⟩) 32 cap) (stamped bs rs) ∧ w.grownBy w' (some g) := by
  obtain ⟨A', cap', hv, hcap, hrd⟩ := h.rd
  injection hv with hA hbl hcc
  clear hbl
  subst hA hcc
  have C1 := Lib.hid (stampOf_any (some ⟨g, 0, none⟩) Ap cap cp bs rs n w hn hbs (by omega) hrd hp ht)
  have hx := sumR_lt (bs.take 28 :: rs)
  have Hf := Lib.hid (stampK_four bs (sumR (bs.take 28 :: rs)) hbs)
  rw [show bs.take 28 ++ be4 (sumR (bs.take 28 :: rs)) = stamped bs rs from rfl] at Hf
  generalize sumR (bs.take 28 :: rs) = x at C1 hx Hf
  have hg : g < w.heap.size := (h.lt g rfl).2
  have hc0 : (28 : Int) ≤ (cap : Int) := by omega
  have hc1 : 32 ≤ cap := by omega
  clear hrd
  go_enter Tryz.func93, Tryz.ntmps93
  go_wp2_with (go_at_call 123; refine C1.out.mono ?_; rintro e w1 ⟨rfl, hb1⟩)
  go_loopw [16] (fun i wr => ∃ k : Nat, k ≤ 4 ∧ i = .int .i64 k ∧ OwB 5 wr B (.slice (some ⟨g, 0, none⟩) 32 cap) (stampK bs x k) ∧ w.grownBy wr (some g)) (fun i _ => 4 - (intOf i).toNat)
  case atStart => exact ⟨0, by omega, rfl, h.below hb1, grown_of_below hb1 _⟩
  case round =>
    obtain ⟨k, hk, rfl, hown, hgr⟩ := hrel
    by_cases hlt : k < 4
    · obtain ⟨hc, hf⟩ := hown.cell ((stampK_len bs x k).trans hbs) (28 + k) (by omega)
      have Hset := Lib.hid (hown.set ((stampK_len bs x k).trans hbs) (28 + k) (beB x k))
      rw [← stampK_succ] at Hset
      go_wp2_with (go_at_call 124; refine (stampByte_any x k hx hlt _).mono ?_; rintro e w' ⟨rfl, rfl⟩)
      go_roundw
      case rel => exact ⟨k + 1, by omega, by go_num, Hset.out.1, hgr.trans Hset.out.2⟩
      case measure => simp [intOf]; omega
    · obtain rfl : k = 4 := by omega
      rw [Hf.out] at hown
      go_wp2
      go_ret
      exact ⟨rfl, hown, hgr⟩
end Go.Proofs.YtenkkdnepmoihaaGreatDoor
end
