/- Texts put together: Keep, Synd, KeepCopy, PlaySec, Chg, DskMem, MakeS, Within, Seal, MapKey. -/
import Derived.Test.YtenkkdnepmoihaaUpaa
import Derived.StillTailTactics
import Derived.Deep.MidRow
import Derived.Test.YtenkkdnepmoihaaProg
import Derived.Maps.OwnSet
section
namespace Go.Proofs.Ytenkkdnepmoihaa
open Go.RowKit

theorem size_u8 : (Try.prog.info? 5).map (·.size) = some 1 := by kernel_rfl
theorem xor_u8 (a b : UInt8) : bits .xor .u8 (a.toNat : Int) (b.toNat : Int) = (((a ^^^ b).toNat : Nat) : Int) := by
  rw [u8_xor_nat _ _ a.toNat_lt b.toNat_lt, UInt8.toNat_xor]
theorem take_snoc_eq {bs bs' : List UInt8} {j : Nat} (h : bs.take j = bs'.take j) (hj : j < bs.length) (hj' : j < bs'.length) (he : bs.getD j 0 = bs'.getD j 0) : bs.take (j + 1) = bs'.take (j + 1) := by
  rw [List.take_succ_eq_append_getElem hj, List.take_succ_eq_append_getElem hj', h]
  have e : bs[j] = bs'[j] := by simpa [hj, hj'] using he
  rw [e]
theorem getD_of_eq {bs bs' : List UInt8} (h : bs = bs') (j : Nat) : bs.getD j 0 = bs'.getD j 0 := by rw [h]
theorem u8_bne {a b : UInt8} (h : a ≠ b) : ((a.toNat : Int) != (b.toNat : Int)) = true := by
  rw [bne_iff_ne]; intro h'; exact h (UInt8.toNat_inj.1 (by omega))
def SamePost (bs bs' : List UInt8) (w : World) (e : Ending) (w' : World) : Prop := e = .returned (.bool (decide (bs = bs'))) ∧ ∃ m, w' = w.drewN m
set_option maxHeartbeats 400000 in
theorem same_any (A A' : Option Addr) (n n' c c' B : Nat) (bs bs' : List UInt8) (w : World) (hn : n = bs.length) (hn' : n' = bs'.length) (hr : RdB w B A bs) (hr' : RdB w B A' bs') :
    Calls Try.prog 18 #[.slice A n c, .slice A' n' c'] w (SamePost bs bs' w) := by
  subst hn hn'
  have hl := hr.1
  have hl' := hr'.1
  by_cases hlen : bs.length = bs'.length
  · have hle := Lib.hid hlen
    have hne : ((bs.length : Int) != (bs'.length : Int)) = false := by rw [hlen]; simp
    clear hlen
    go_enter Try.func18, Try.ntmps18
    go_wp2
    go_loopw [5] (fun i wr => ∃ j m : Nat, j ≤ bs.length ∧ i = .int .i64 j ∧ bs.take j = bs'.take j ∧ wr = w.drewN m) (fun i _ => bs.length - (intOf i).toNat)
    case atStart => exact ⟨0, 0, Nat.zero_le _, rfl, rfl, rfl⟩
    case round =>
      obtain ⟨j, m, hj, rfl, htk, rfl⟩ := hrel
      have Htk := Lib.hid htk
      clear htk
      by_cases hlt : j < bs.length
      · have hlt' : j < bs'.length := by have := hle.out; omega
        obtain ⟨b, off, rfl, hb, hc⟩ := hr.2 (by omega)
        obtain ⟨b', off', rfl, hb', hc'⟩ := hr'.2 (by omega)
        have h1 := hc j hlt
        have h2 := hc' j hlt'
        have i0 : (0 : Int) ≤ (j : Int) := by omega
        have i1 : (j : Int) < (bs.length : Int) := by omega
        have i2 : (j : Int) < (bs'.length : Int) := by omega
        clear hc hc'
        by_cases he : bs.getD j 0 = bs'.getD j 0
        · have Hsn := Lib.hid (take_snoc_eq Htk.out hlt hlt' he)
          rw [← he] at h2
          clear he
          generalize bs.getD j 0 = x at h1 h2
          go_wp2
          go_quiet (fail)
          go_wp2
          go_roundw
          case rel => exact ⟨j + 1, _, by omega, by go_num, Hsn.out, rfl⟩
          case measure => simp [intOf]; omega
        · have hd : decide (bs = bs') = false := by simpa using fun h => he (getD_of_eq h j)
          have Hd := Lib.hid hd
          have hb := u8_bne he
          clear hd he
          generalize bs.getD j 0 = x at h1 hb
          generalize bs'.getD j 0 = y at h2 hb
          go_wp2
          go_quiet (fail)
          go_wp2
          go_ret
          exact ⟨by rw [Hd.out]; rfl, m + nq, World.drewN_drewN _ _ _⟩
      · obtain rfl : j = bs.length := by omega
        have Hd : Hid (decide (bs = bs') = true) := by
          have h1 := Htk.out
          rw [List.take_length, hle.out, List.take_length] at h1
          exact decide_eq_true h1
        go_wp2
        go_ret
        exact ⟨by rw [Hd.out]; rfl, m, rfl⟩
  · go_enter Try.func18, Try.ntmps18
    have hne : ((bs.length : Int) != (bs'.length : Int)) = true := by rw [bne_iff_ne]; omega
    go_wp2
    go_ret
    exact ⟨by rw [decide_eq_false (fun h => hlen (by rw [h]))]; rfl, 0, rfl⟩
end Go.Proofs.Ytenkkdnepmoihaa
end
section
namespace Go.Proofs.Ytenkkdnepmoihaa
open Go.RowKit

theorem int_bne_no {a b : Nat} (h : a = b) : ((a : Int) != (b : Int)) = false := by simp [h]
theorem int_bne_yes {a b : Nat} (h : a ≠ b) : ((a : Int) != (b : Int)) = true := by simp; omega
theorem nil_own (w : World) (B : Nat) {bs : List UInt8} (h : bs = []) : OwB 5 w B (.slice none 0 0) bs := by subst h; exact OwB.nil _ _ _
set_option maxHeartbeats 400000 in
theorem zeros_any (A : Option Addr) (rs : List (List UInt8)) (n cp : Nat) (w : World) (hn : rs.length = n) (hr : RdR w w.heap.size A rs) :
    Calls Try.prog 73 #[.slice A n cp] w fun e w' => ∃ v, e = .returned v ∧ OwB 5 w' w.heap.size v (zerosB rs) ∧ Below w.heap.size w w' := by
  subst hn
  have hm := hr.1
  by_cases h0 : rs.length = 0
  · have hz : zerosB rs = [] := by rw [List.eq_nil_of_length_eq_zero h0]; rfl
    have hz := Lib.hid hz
    have e0 : ((rs.length : Int) == 0) = true := by rw [h0]; rfl
    clear h0
    go_enter Try.func73, Try.ntmps73
    go_wp2
    go_ret
    exact ⟨_, rfl, nil_own _ _ hz.out, Below.refl _ _⟩
  · obtain ⟨b, off, rfl, hb, hc⟩ := hr.2 (by omega)
    have Hc := Lib.hid hc
    obtain ⟨A0, c0, k0, r0⟩ := hc 0 (by omega)
    have Hno := Lib.hid (fun k => @alikeB_no rs k)
    have Hyes := Lib.hid (@alikeB_iff rs)
    have Hz : Hid (zerosB rs = if alikeB rs then zeroL (rs.getD 0 []).length else []) := rfl
    have hN := r0.1
    rw [Nat.add_zero] at k0
    have i0 : (0 : Int) < (rs.length : Int) := by omega
    have i1 : 0 < rs.length := by omega
    have e0 : ((rs.length : Int) == 0) = false := by rw [beq_eq_false_iff_ne]; omega
    have km := make_bytes (rs.getD 0 []).length hN
    generalize (rs.getD 0 []).length = N at k0 hN km Hno Hyes Hz
    clear hc h0 hr r0
    go_enter Try.func73, Try.ntmps73
    go_wp2
    go_loop [15] (fun i => ∃ k : Nat, k ≤ rs.length ∧ i = .int .i64 k ∧ Hid (∀ j, j < k → (rs.getD j []).length = N)) (fun i => rs.length - (intOf i).toNat)
    case atStart => exact ⟨0, Nat.zero_le _, rfl, fun j hj => by omega⟩
    case round =>
      obtain ⟨k, hk, rfl, Hj⟩ := hrel
      by_cases hlt : k < rs.length
      · obtain ⟨A', c', h1, h2⟩ := Hc.out k hlt
        have Hno := Lib.hid (Hno.out k hlt)
        by_cases he : (rs.getD k []).length = N
        · have Hn : Hid (∀ j, j < k + 1 → (rs.getD j []).length = N) := fun j hj => by
            by_cases hjk : j = k
            · subst hjk; exact he
            · exact Hj.out j (by omega)
          rw [he] at h1
          clear h2 he
          go_wp2
          go_round
          case rel => exact ⟨k + 1, by omega, by go_num, Hn⟩
          case measure => simp [intOf]; omega
        · have hz : Hid (zerosB rs = []) := by rw [Hz.out, Hno.out he]; rfl
          have hne := int_bne_yes he
          clear he
          generalize rs.getD k [] = row at h1 h2 hne
          go_wp2
          go_ret
          exact ⟨_, rfl, nil_own _ _ hz.out, Below.refl _ _⟩
      · obtain rfl : k = rs.length := by omega
        have hz := Lib.hid (show zerosB rs = zeroL N by rw [Hz.out, if_pos (Hyes.out.2 ⟨i1, Hj.out⟩)])
        go_wp2
        go_ret
        exact ⟨_, rfl, by rw [hz.out]; exact own_make _ w N hN, below1 _ _⟩

/-- Where the zeros are none: nil, whatever the sum. -/
theorem own_nil_len {w : World} {B : Nat} {v : Value} (h : OwB 5 w B v []) : ∃ A c, v = .slice A 0 c := by
  obtain ⟨A, c, hv, _, _⟩ := h.rd
  exact ⟨A, c, hv⟩

set_option maxHeartbeats 800000 in
theorem p_any (A : Option Addr) (rs : List (List UInt8)) (n cp : Nat) (w : World) (hn : rs.length = n) (hr : RdR w w.heap.size A rs) :
    Calls Try.prog 54 #[.slice A n cp] w fun e w' => ∃ v, e = .returned v ∧ OwB 5 w' w.heap.size v (pB rs) ∧ Below w.heap.size w w' := by
  have C := Lib.hid (zeros_any A rs n cp w hn hr)
  subst hn
  have hm := hr.1
  by_cases h0 : zerosB rs = []
  · have Hp : Hid (pB rs = []) := sumG_nil gP_len h0
    rw [h0] at C
    clear h0
    go_enter Try.func54, Try.ntmps54
    go_wp2_with fail
    refine C.out.mono ?_
    rintro e w1 ⟨v, rfl, ho, hb⟩
    obtain ⟨A1, c1, rfl⟩ := own_nil_len ho
    go_wp2
    go_ret
    exact ⟨_, rfl, nil_own _ _ Hp.out, hb⟩
  · obtain ⟨hall, hs, hal⟩ := sumG_cons (g := gP) h0
    have Hs : Hid (pB rs = foldG gP 0 (zerosB rs) rs) := hs
    have Hall := Lib.hid hall
    have Hf := Lib.hid (foldG_snoc gP (zerosB rs) rs)
    have Hl := Lib.hid (foldG_take_len gP_len hall)
    have hpos : 0 < (zerosB rs).length := by cases hz : zerosB rs with | nil => exact absurd hz h0 | cons a b => simp
    clear hall hs hal h0
    generalize zerosB rs = zs at C Hs Hall Hf Hl hpos
    go_enter Try.func54, Try.ntmps54
    go_wp2_with fail
    refine C.out.mono ?_
    rintro e w1 ⟨v, rfl, ho, hb⟩
    obtain ⟨g, cap, rfl, hg, hg1, hcap, _, _⟩ := ho.pos hpos
    have hzl := ho.2
    have e0 : ((zs.length : Int) == 0) = false := by rw [beq_eq_false_iff_ne]; omega
    go_wp2
    go_loopw [15] (fun i wr => ∃ k : Nat, k ≤ rs.length ∧ i = .int .i64 k ∧ OwB 5 wr w.heap.size (.slice (some ⟨g, 0, none⟩) zs.length cap) (foldG gP 0 zs (rs.take k)) ∧ Below w.heap.size w wr) (fun i _ => rs.length - (intOf i).toNat)
    case atStart => exact ⟨0, Nat.zero_le _, rfl, ho, hb⟩
    case round =>
      obtain ⟨k, hk, rfl, hown, hbr⟩ := hrel
      have Hy := Lib.hid (Hl.out k)
      by_cases hlt : k < rs.length
      · obtain ⟨b, off, rfl, hbb, hc⟩ := hr.2 (by omega)
        obtain ⟨A', c', h1, h2⟩ := hc k hlt
        have Hsn := Lib.hid (Hf.out k hlt)
        have hln := Hall.out k hlt
        rw [hln] at h1
        have Hln := Lib.hid hln
        clear hln hc
        rw [← hbr.cell (p := ⟨b, off + k, none⟩) hbb] at h1
        generalize rs.getD k [] = row at h1 h2 Hsn Hln
        generalize foldG gP 0 zs (rs.take k) = y at hown Hsn Hy
        have hlen := h2.1
        go_wp2
        go_loopw [21] (fun i wr => ∃ j : Nat, j ≤ zs.length ∧ i = .int .i64 j ∧ OwB 5 wr w.heap.size (.slice (some ⟨g, 0, none⟩) zs.length cap) (xorTo y row j) ∧ Below w.heap.size w wr) (fun i _ => zs.length - (intOf i).toNat)
        case atStart => exact ⟨0, Nat.zero_le _, rfl, by rw [xorTo_zero]; exact hown, hbr⟩
        case round =>
          obtain ⟨j, hj, rfl, hown2, hbr2⟩ := hrel
          have hry : row.length = y.length := Hln.out.trans Hy.out.symm
          have Hry := Lib.hid hry
          clear hry
          by_cases hlt2 : j < zs.length
          · obtain ⟨b2, off2, rfl, hb2, hc2⟩ := h2.2 (by have := Hln.out; omega)
            have h3 := hc2 j (by have := Hln.out; omega)
            rw [← hbr2.cell (p := ⟨b2, off2 + j, none⟩) hb2] at h3
            obtain ⟨h4, h5⟩ := hown2.cell ((xorTo_len Hry.out (by have := Hy.out; omega)).trans Hy.out) j hlt2
            rw [xorTo_get Hry.out (by have := Hy.out; omega)] at h4
            have Hset := Lib.hid (hown2.set ((xorTo_len Hry.out (by have := Hy.out; omega)).trans Hy.out) j (y.getD j 0 ^^^ row.getD j 0)).1
            have Hx := Lib.hid (xorTo_succ Hry.out (show j < y.length by have := Hy.out; omega))
            have ex := xor_u8 (y.getD j 0) (row.getD j 0)
            have i0 : (0 : Int) ≤ (j : Int) := by omega
            have i1 : (j : Int) < (zs.length : Int) := by omega
            generalize row.getD j 0 = c at h3 Hset Hx ex
            generalize y.getD j 0 = d at h4 Hset Hx ex
            generalize d ^^^ c = dc at Hset Hx ex
            clear hc2
            go_wp2
            go_roundw
            case rel => exact ⟨j + 1, by omega, by go_num, by rw [← Hx.out]; exact Hset.out, hbr2.setCell (p := ⟨g, j, none⟩) hg _⟩
            case measure => simp [intOf]; omega
          · obtain rfl : j = zs.length := by omega
            have Hxa : Hid (xorTo y row zs.length = xorL y row) := by rw [← Hy.out]; exact xorTo_all Hry.out
            rw [Hxa.out] at hown2
            go_wp2
            go_roundw
            case rel => exact ⟨k + 1, by omega, by go_num, by rw [Hsn.out]; exact hown2, hbr2⟩
            case measure => simp [intOf]; omega
      · obtain rfl : k = rs.length := by omega
        have Hall2 : Hid (foldG gP 0 zs (rs.take rs.length) = pB rs) := by rw [List.take_length]; exact Hs.out.symm
        have Hyl := Lib.hid (show (pB rs).length = zs.length by rw [← Hall2.out]; exact Hy.out)
        rw [Hall2.out] at hown
        go_wp2
        go_ret
        exact ⟨_, rfl, hown, hbr⟩
end Go.Proofs.Ytenkkdnepmoihaa
end
section
namespace Go.Proofs.Ytenkkdnepmoihaa
open Go.RowKit

end Go.Proofs.Ytenkkdnepmoihaa
end
section
namespace Go.Proofs.Ytenkkdnepmoihaa
open Go.RowKit

def secI (n : Int) (k : Nat) : Int := wrap64 (n + wrap64 ((k : Int) * bits .or .i64 (n.tdiv 7) 1)) % 256
def secU (n : Int) (k : Nat) : UInt8 := UInt8.ofNat (secI n k).toNat
theorem secU_val (n : Int) (k : Nat) : ((secU n k).toNat : Int) = secI n k := by
  have h0 : 0 ≤ secI n k := Int.emod_nonneg _ (by omega)
  have h1 : secI n k < 256 := Int.emod_lt_of_pos _ (by omega)
  unfold secU
  rw [UInt8.toNat_ofNat']
  generalize secI n k = x at h0 h1
  have : x.toNat < 256 := by omega
  rw [Nat.mod_eq_of_lt (by simpa using this)]
  omega
def sectorB (n : Int) : List UInt8 := if withinI n 11 = 10 then List.replicate 32 0 else (List.range 32).map (secU n)
theorem sectorB_len (n : Int) : (sectorB n).length = 32 := by
  unfold sectorB; split
  · rw [List.length_replicate]
  · rw [List.length_map, List.length_range]
def secTo (n : Int) (k : Nat) : List UInt8 := (List.range k).map (secU n) ++ List.replicate (32 - k) 0
theorem secTo_zero (n : Int) : secTo n 0 = List.replicate 32 0 := rfl
theorem secTo_all (n : Int) : secTo n 32 = (List.range 32).map (secU n) := by unfold secTo; simp
theorem secTo_len (n : Int) {k : Nat} (h : k ≤ 32) : (secTo n k).length = 32 := by unfold secTo; simp; omega
theorem secTo_succ (n : Int) {k : Nat} (h : k < 32) : (secTo n k).set k (secU n k) = secTo n (k + 1) := by
  have hl : ((List.range k).map (secU n)).length = k := by simp
  unfold secTo
  rw [List.set_append_right _ _ (by omega), hl, Nat.sub_self, show 32 - k = (32 - (k + 1)) + 1 from by omega, List.replicate_succ, List.set_cons_zero, List.range_succ, List.map_append, List.append_assoc]
  rfl
set_option maxHeartbeats 400000 in
theorem sector_any (n : Int) (w : World) (hn : -9223372036854775808 ≤ n ∧ n ≤ 9223372036854775807) :
    Calls Try.prog 9 #[.int .i64 n] w fun e w' => ∃ g, e = .returned (.slice (some ⟨g, 0, none⟩) 32 32) ∧ OwB 5 w' w.heap.size (.slice (some ⟨g, 0, none⟩) 32 32) (sectorB n) ∧ Below w.heap.size w w' := by
  have hmk : ∀ w, (Instr.makeSlice 32 (.int .i64 32) (.int .i64 32)).run Try.prog w = .ok (.slice (some ⟨w.heap.size, 0, none⟩) 32 32) (w.alloc (.cells (zcells 32) 5)) := make_bytes 32 (by omega)
  have CW := Lib.hid (fun W => within_any n 11 W hn (by omega))
  have HE : Hid (sectorB n = if withinI n 11 = 10 then List.replicate 32 0 else (List.range 32).map (secU n)) := rfl
  have ho := own_make 5 w 32 (by omega)
  have hb0 := below1 w (.cells (zcells 32) 5)
  generalize withinI n 11 = q at CW HE
  by_cases hq : q = 10
  · subst hq
    rw [if_pos rfl] at HE
    go_enter Try.func9, Try.ntmps9
    go_wp2_with fail
    generalize w.alloc (.cells (zcells 32) 5) = w0 at ho hb0 ⊢
    refine (CW.out _).mono ?_
    rintro e w' ⟨rfl, rfl⟩
    go_wp2
    go_ret
    exact ⟨w.heap.size, rfl, by rw [HE.out]; exact ho, hb0⟩
  · have hqb : (q == 10) = false := by rw [beq_eq_false_iff_ne]; exact hq
    rw [if_neg hq, ← secTo_all] at HE
    rw [← secTo_zero n] at ho
    go_enter Try.func9, Try.ntmps9
    go_wp2_with fail
    generalize w.alloc (.cells (zcells 32) 5) = w0 at ho hb0 ⊢
    refine (CW.out _).mono ?_
    rintro e w' ⟨rfl, rfl⟩
    clear hmk
    go_wp2
    go_loopw [12] (fun i wr => ∃ k : Nat, k ≤ 32 ∧ i = .int .i64 k ∧ OwB 5 wr w.heap.size (.slice (some ⟨w.heap.size, 0, none⟩) 32 32) (secTo n k) ∧ Below w.heap.size w wr) (fun i _ => 32 - (intOf i).toNat)
    case atStart => exact ⟨0, by omega, rfl, ho, hb0⟩
    case round =>
      obtain ⟨k, hk, rfl, hown, hbr⟩ := hrel
      by_cases hlt : k < 32
      · have i0 : (0 : Int) ≤ (k : Int) := by omega
        have i1 : (k : Int) < 32 := by omega
        obtain ⟨hc, hf⟩ := hown.cell (secTo_len n hk) k hlt
        have hset := (hown.set (secTo_len n hk) k (secU n k)).1
        rw [secU_val, secTo_succ n hlt] at hset
        have Hset := Lib.hid hset
        have Hbs := Lib.hid (hbr.setCell (p := ⟨w.heap.size, k, none⟩) (Nat.le_refl _) (.int .u8 (secI n k)))
        clear hset hown
        go_wp2
        go_roundw
        case rel => exact ⟨k + 1, by omega, by go_num, Hset.out, Hbs.out⟩
        case measure => simp [intOf]; omega
      · obtain rfl : k = 32 := by omega
        go_wp2
        go_ret
        exact ⟨w.heap.size, rfl, by rw [HE.out]; exact hown, hbr⟩
end Go.Proofs.Ytenkkdnepmoihaa
end
section
namespace Go.Proofs.Ytenkkdnepmoihaa
open Go.RowKit

structure Chg (F : Nat → Prop) (w w' : World) : Prop where
  os : w'.os = w.os
  tape : w'.tape = w.tape
  output : w'.output = w.output
  size : w.heap.size ≤ w'.heap.size
  block : ∀ k, k < w.heap.size → ¬ F k → w'.heap[k]? = w.heap[k]?
section
variable {F G : Nat → Prop} {a b c : World}
theorem Chg.refl (F : Nat → Prop) (w : World) : Chg F w w := ⟨rfl, rfl, rfl, Nat.le_refl _, fun _ _ _ => rfl⟩
theorem Chg.trans (h : Chg F a b) (k : Chg G b c) (hs : ∀ i, i < a.heap.size → G i → F i) : Chg F a c :=
  ⟨k.os.trans h.os, k.tape.trans h.tape, k.output.trans h.output, Nat.le_trans h.size k.size, fun i hi hn => (k.block i (Nat.lt_of_lt_of_le hi h.size) fun hg => hn (hs i hi hg)).trans (h.block i hi hn)⟩
theorem Chg.mono (h : Chg F a b) (hs : ∀ i, i < a.heap.size → F i → G i) : Chg G a b := ⟨h.os, h.tape, h.output, h.size, fun i hi hn => h.block i hi fun hf => hn (hs i hi hf)⟩
theorem chg_below (F : Nat → Prop) (h : Below a.heap.size a b) : Chg F a b := ⟨h.os, h.tape, h.output, h.size, fun i hi _ => h.block i hi⟩
theorem chg_grown {row : Option Nat} (h : a.grownBy b row) : Chg (fun k => row = some k) a b := ⟨h.os, h.tape, h.output, h.size, fun i hi hn => h.block i hi fun e => hn e.symm⟩
theorem Chg.below {B : Nat} (h : Chg F a b) (hF : ∀ k, F k → B ≤ k) (hB : B ≤ a.heap.size) : Below B a b := ⟨h.os, h.tape, h.output, h.size, fun i hi => h.block i (by omega) fun hf => by have := hF i hf; omega⟩
theorem Chg.ofDrew (h : Chg F a.drew b) : Chg F a b := ⟨h.os, h.tape, h.output, h.size, h.block⟩
end

/-- An own row hangs on its own block alone. -/
theorem own_heap {w w' : World} {B : Nat} {e : TypeId} {size : Nat} {v : Value} {n : Nat} {xs : List Value} (h : w.ownsRow B e size v n xs) (hk : ∀ k, v.ownBlock = some k → w'.heap[k]? = w.heap[k]?) : w'.ownsRow B e size v n xs := by
  refine ⟨h.1, ?_⟩
  rcases h.2 with h1 | ⟨g, cap, cur, rfl, h2, h3, r⟩
  · exact .inl h1
  · exact .inr ⟨g, cap, cur, rfl, h2, (hk g rfl).trans h3, r⟩
theorem own_chg {F : Nat → Prop} {w w' : World} {B : Nat} {e : TypeId} {size : Nat} {v : Value} {n : Nat} {xs : List Value} (h : w.ownsRow B e size v n xs) (hc : Chg F w w') (hn : ∀ k, v.ownBlock = some k → ¬ F k) : w'.ownsRow B e size v n xs :=
  own_heap h fun k hk => hc.block k (h.lt k hk).2 (hn k hk)
/-- A row of cells with some set. -/
def spl (l : List Value) (o : Nat) (vs : List Value) : List Value := l.take o ++ vs ++ l.drop (o + vs.length)
theorem spl_mid {A X C vs : List Value} {o : Nat} (ho : A.length = o) (hx : X.length = vs.length) : spl (A ++ X ++ C) o vs = A ++ vs ++ C := by
  unfold spl
  subst ho
  have e1 : (A ++ X ++ C).take A.length = A := by rw [List.append_assoc, List.take_left]
  have e2 : (A ++ X ++ C).drop (A.length + vs.length) = C := by rw [← hx, ← List.length_append, List.drop_left]
  rw [e1, e2]
theorem spl_len {l vs : List Value} {o : Nat} (h : o + vs.length ≤ l.length) : (spl l o vs).length = l.length := by
  unfold spl; simp; omega

section
variable {P : Program}
theorem run_storeVar_blk (w : World) (b o : Nat) (ty : TypeId) (v : Value) (cur : List Value) (t : TypeId) (hb : w.heap[b]? = some (.cells cur.toArray t (0, 0))) (hi : (P.info? ty).map (·.size) = some v.cells.size)
    (ho : o + v.cells.size ≤ cur.length) (h1 : ∀ u ∈ v.cells.toList, u.oneCell' = true) : (storeVar ty ⟨b, o, none⟩ v).run P w = .ok () (w.setRow b (spl cur o v.cells.toList).toArray) := by
  have h := run_storeCells_at P b o t v.cells.toList 0 cur.toArray w hb (by simpa using ho) h1
  cases hq : P.info? ty with
  | none => simp [hq] at hi
  | some i =>
    have hs : v.cells.size = i.size := by simp [hq] at hi; omega
    simp only [Nat.add_zero] at h
    simp [storeVar, sizeOf, typeInfo, hq, hs, h, spl]
theorem wpList_store_blk {ops : Array Oper} {rest : List Oper} {op : Oper} {a : Act} {w : World} {Q : Exit → Act → World → Prop} (hgd : op.guard = none) (ty : TypeId) (x y : Operand) (ho : op.op = .store ty x y)
    (b o : Nat) (v : Value) (hx : a.eval x = .pointer (some ⟨b, o, none⟩)) (hy : a.eval y = v) (cur : List Value) (t : TypeId) (hb : w.heap[b]? = some (.cells cur.toArray t (0, 0)))
    (vs : List Value) (hvs : v.cells = vs.toArray) (n : Nat) (hn : vs.length = n) (hi : (P.info? ty).map (·.size) = some n) (hl : o + n ≤ cur.length) (h1 : ∀ u ∈ vs, u.oneCell' = true)
    (new : List Value) (hnew : spl cur o vs = new)
    (h : ∀ w', w'.heap[b]? = some (.cells new.toArray t (0, 0)) → w.grownBy w' (some b) → wpList P ops Q rest (a.put op.dst undef) w') : wpList P ops Q (op :: rest) a w := by
  subst hn hnew
  refine wpList_plain hgd fun K hK => ?_
  have hr := run_storeVar_blk (P := P) w b o ty v cur t hb (by rw [hi, hvs]; rfl) (by rw [hvs]; exact hl) (by rw [hvs]; exact h1)
  unfold Oper.wp execOp
  simp only [ho, hx, hy, Instr.storeAt, Instr.sureAddr, Sem.run_bind, Sem.run_pure, Result.andThen_ok, hr]
  refine hK _ _ (h _ ?_ ?_)
  · rw [hvs]; exact setRow_heap w b _ _ t (0, 0) hb
  · exact ⟨rfl, rfl, rfl, by simp, fun k _ hk => setRow_other w b k _ (fun e => hk (by rw [e]))⟩
theorem wpList_build_run {ops : Array Oper} {rest : List Oper} {op : Oper} {a : Act} {w : World} {Q : Exit → Act → World → Prop} (hgd : op.guard = none) (t : TypeId) (parts : Array (Nat × Operand)) (ho : op.op = .build t parts)
    (ps : Array (Nat × Value)) (hps : parts.map (fun (i, x) => (i, a.eval x)) = ps) (v : Value) (hr : (Instr.build t ps).run P w = .ok v w)
    (h : wpList P ops Q rest (a.put op.dst v) w) : wpList P ops Q (op :: rest) a w := by
  subst hps
  refine wpList_plain hgd fun K hK => ?_
  unfold Oper.wp execOp
  simp only [ho, Sem.run_bind, Sem.run_pure, Result.andThen_ok, hr]
  exact hK _ _ h
end
end Go.Proofs.Ytenkkdnepmoihaa
end
section
namespace Go.Proofs.Ytenkkdnepmoihaa
open Go.RowKit

def dcells (S N : List UInt8) (pv : Value) (f : Bool) : List Value := S.map bv ++ N.map bv ++ ([pv, Value.bool f] : List Value)
def wcell (p : Nat × List UInt8) : List Value := Value.int .i64 (p.1 : Int) :: p.2.map bv
def wcells (ps : List (Nat × List UInt8)) : List Value := ps.flatMap wcell
/-- The disk D lies at block b; its pending writes are the own row pv. -/
structure DskAt (w : World) (B b : Nat) (pv : Value) (D : Dsk) : Prop where
  blk : w.heap[b]? = some (.cells (dcells D.S D.now pv D.f).toArray 96 (0, 0))
  own : w.ownsRow B 100 33 pv D.ps.length (wcells D.ps)
  le : B ≤ b
  ne : pv.ownBlock ≠ some b
  ok : D.Ok
/-- The blocks of a disk. -/
def DF (b : Nat) (pv : Value) (k : Nat) : Prop := k = b ∨ pv.ownBlock = some k
/-- Its pending writes lie where they lay, or in new memory. -/
def NewOr (w : World) (pv pv' : Value) : Prop := ∀ k, pv'.ownBlock = some k → pv.ownBlock = some k ∨ w.heap.size ≤ k
section
variable {w w' : World} {B b : Nat} {pv : Value} {D : Dsk}
theorem DskAt.lt (h : DskAt w B b pv D) : b < w.heap.size := (Array.getElem?_eq_some_iff.1 h.blk).1
theorem DskAt.plt (h : DskAt w B b pv D) : ∀ k, pv.ownBlock = some k → B ≤ k ∧ k < w.heap.size := h.own.lt
theorem DskAt.heap (h : DskAt w B b pv D) (hb : w'.heap[b]? = w.heap[b]?) (hp : ∀ k, pv.ownBlock = some k → w'.heap[k]? = w.heap[k]?) : DskAt w' B b pv D :=
  ⟨hb.trans h.blk, own_heap h.own hp, h.le, h.ne, h.ok⟩
theorem DskAt.chg {F : Nat → Prop} (h : DskAt w B b pv D) (hc : Chg F w w') (hb : ¬ F b) (hp : ∀ k, pv.ownBlock = some k → ¬ F k) : DskAt w' B b pv D :=
  h.heap (hc.block b h.lt hb) fun k hk => hc.block k (h.plt k hk).2 (hp k hk)
theorem DskAt.below (h : DskAt w B b pv D) (hc : Below w.heap.size w w') : DskAt w' B b pv D :=
  h.heap (hc.block b h.lt) fun k hk => hc.block k (h.plt k hk).2
theorem DskAt.mono {B' : Nat} (h : DskAt w B b pv D) (hB : B' ≤ B) : DskAt w B' b pv D :=
  ⟨h.blk, by
    refine ⟨h.own.1, ?_⟩
    rcases h.own.2 with h1 | ⟨g, cap, cur, h1, h2, r⟩
    · exact .inl h1
    · exact .inr ⟨g, cap, cur, h1, by omega, r⟩, by have := h.le; omega, h.ne, h.ok⟩
theorem DF.le (h : DskAt w B b pv D) {k : Nat} (hk : DF b pv k) : B ≤ k := by
  rcases hk with rfl | hk
  · exact h.le
  · exact (h.plt k hk).1
theorem NewOr.refl (w : World) (pv : Value) : NewOr w pv pv := fun _ h => .inl h
theorem dcells_len {S N : List UInt8} (hS : S.length = 1664) (hN : N.length = 1664) (pv : Value) (f : Bool) : (dcells S N pv f).length = 3330 := by
  unfold dcells; simp [hS, hN]
theorem wcell_len {p : Nat × List UInt8} (h : p.2.length = 32) : (wcell p).length = 33 := by unfold wcell; simp [h]
theorem wcells_snoc (ps : List (Nat × List UInt8)) (p : Nat × List UInt8) : wcells (ps ++ [p]) = wcells ps ++ wcell p := by unfold wcells; simp
theorem dcells_pv {S N : List UInt8} (hS : S.length = 1664) (hN : N.length = 1664) (pv : Value) (f : Bool) : (dcells S N pv f)[3328]? = some pv := by
  unfold dcells
  rw [List.getElem?_append_right (by simp [hS, hN])]
  simp [hS, hN]
theorem dcells_f {S N : List UInt8} (hS : S.length = 1664) (hN : N.length = 1664) (pv : Value) (f : Bool) : (dcells S N pv f)[3329]? = some (.bool f) := by
  unfold dcells
  rw [List.getElem?_append_right (by simp [hS, hN])]
  simp [hS, hN]
theorem dcells_S {S N : List UInt8} (pv : Value) (f : Bool) {i : Nat} (hi : i < S.length) : (dcells S N pv f)[i]? = S[i]?.map bv := by
  unfold dcells
  rw [List.append_assoc, List.getElem?_append_left (by simpa using hi), List.getElem?_map]
theorem dcells_N {S N : List UInt8} (hS : S.length = 1664) (pv : Value) (f : Bool) {i : Nat} (hi : i < N.length) : (dcells S N pv f)[1664 + i]? = N[i]?.map bv := by
  unfold dcells
  rw [List.append_assoc, List.getElem?_append_right (by simp [hS]), List.getElem?_append_left (by simp [hS]; omega)]
  simp [hS]
section
variable {S N : List UInt8} {f : Bool} {t : TypeId}
theorem cell_dpv (hb : w.heap[b]? = some (.cells (dcells S N pv f).toArray t (0, 0))) (hS : S.length = 1664) (hN : N.length = 1664) : w.cell? ⟨b, 3328, none⟩ = some pv := by
  rw [cell_of_row w b _ _ t (0, 0) hb, List.getElem?_toArray]; exact dcells_pv hS hN pv f
theorem cell_df (hb : w.heap[b]? = some (.cells (dcells S N pv f).toArray t (0, 0))) (hS : S.length = 1664) (hN : N.length = 1664) : w.cell? ⟨b, 3329, none⟩ = some (.bool f) := by
  rw [cell_of_row w b _ _ t (0, 0) hb, List.getElem?_toArray]; exact dcells_f hS hN pv f
theorem range_S (hb : w.heap[b]? = some (.cells (dcells S N pv f).toArray t (0, 0))) : w.rangeAt b 0 (S.map bv) := fun j v hj => by
  have hl : j < S.length := by have := (List.getElem?_eq_some_iff.1 hj).1; simpa using this
  rw [cell_of_row w b _ _ t (0, 0) hb, List.getElem?_toArray, Nat.zero_add, dcells_S pv f hl, ← hj, List.getElem?_map]
theorem range_N (hb : w.heap[b]? = some (.cells (dcells S N pv f).toArray t (0, 0))) (hS : S.length = 1664) : w.rangeAt b 1664 (N.map bv) := fun j v hj => by
  have hl : j < N.length := by have := (List.getElem?_eq_some_iff.1 hj).1; simpa using this
  rw [cell_of_row w b _ _ t (0, 0) hb, List.getElem?_toArray, dcells_N hS pv f hl, ← hj, List.getElem?_map]
theorem range_sec {L : List UInt8} {o k : Nat} (h : w.rangeAt b o (L.map bv)) : w.rangeAt b (o + k * 32) ((secAt L k).map bv) := fun j v hj => by
  rw [List.getElem?_map, secAt_get] at hj
  split at hj
  · rw [Nat.add_assoc]
    exact h (k * 32 + j) v (by rw [List.getElem?_map]; exact hj)
  · cases hj
theorem spl_pv {pv' : Value} (hS : S.length = 1664) (hN : N.length = 1664) : spl (dcells S N pv f) 3328 [pv'] = dcells S N pv' f := by
  unfold dcells
  rw [show (S.map bv ++ N.map bv ++ [pv, Value.bool f]) = S.map bv ++ N.map bv ++ [pv] ++ [Value.bool f] by simp]
  exact (spl_mid (A := S.map bv ++ N.map bv) (X := [pv]) (C := [Value.bool f]) (vs := [pv']) (o := 3328) (by simp [hS, hN]) rfl).trans (by simp)
theorem map_put {L x : List UInt8} {k : Nat} : (putAt L k x).map bv = (L.take (k * 32)).map bv ++ x.map bv ++ (L.drop (k * 32 + 32)).map bv := by unfold putAt; simp
theorem map_sec {L : List UInt8} {k : Nat} : L.map bv = (L.take (k * 32)).map bv ++ (secAt L k).map bv ++ (L.drop (k * 32 + 32)).map bv := by
  rw [← map_put, put_sec]
theorem spl_Ssec {x : List UInt8} {k : Nat} (hS : S.length = 1664) (hk : k < 52) (hx : x.length = 32) : spl (dcells S N pv f) (k * 32) (x.map bv) = dcells (putAt S k x) N pv f := by
  have hs : (secAt S k).length = 32 := secAt_len (by omega)
  unfold dcells
  rw [map_put, map_sec (L := S) (k := k)]
  generalize hT : (S.drop (k * 32 + 32)).map bv = T
  rw [List.append_assoc (_ ++ _) T, List.append_assoc (_ ++ _) (T ++ _), List.append_assoc (_ ++ _) T, List.append_assoc (_ ++ _) (T ++ _)]
  exact spl_mid (by rw [List.length_map, List.length_take]; omega) (by simp [hs, hx])
theorem spl_Nsec {x : List UInt8} {k : Nat} (hS : S.length = 1664) (hN : N.length = 1664) (hk : k < 52) (hx : x.length = 32) : spl (dcells S N pv f) (1664 + k * 32) (x.map bv) = dcells S (putAt N k x) pv f := by
  have hs : (secAt N k).length = 32 := secAt_len (by omega)
  unfold dcells
  rw [map_put, map_sec (L := N) (k := k)]
  generalize hT : (N.drop (k * 32 + 32)).map bv = T
  generalize hT2 : (N.take (k * 32)).map bv = T2
  have e : ∀ X : List Value, S.map bv ++ (T2 ++ X ++ T) ++ [pv, Value.bool f] = (S.map bv ++ T2) ++ X ++ (T ++ [pv, Value.bool f]) := fun X => by simp
  rw [e, e]
  exact spl_mid (by rw [List.length_append, List.length_map, ← hT2, List.length_map, List.length_take]; omega) (by simp [hs, hx])
end
end
theorem size_sec : (Try.prog.info? 92).map (·.size) = some 32 := by kernel_rfl
theorem size_pend : (Try.prog.info? 94).map (·.size) = some 1 := by kernel_rfl
theorem build_new (w : World) : (Instr.build 96 #[]).run Try.prog w = .ok (.agg (dcells (List.replicate 1664 0) (List.replicate 1664 0) (.slice none 0 0) false).toArray) w := by kernel_rfl
end Go.Proofs.Ytenkkdnepmoihaa
end
section
namespace Go.Proofs.Ytenkkdnepmoihaa
open Go.RowKit

end Go.Proofs.Ytenkkdnepmoihaa
end
section
namespace Go.Proofs.Ytenkkdnepmoihaa
open Go.RowKit

end Go.Proofs.Ytenkkdnepmoihaa
end
section
namespace Go.Proofs.Ytenkkdnepmoihaa
open Go.RowKit

end Go.Proofs.Ytenkkdnepmoihaa
end
section
namespace Go.Proofs.Ytenkkdnepmoihaa
open Go.RowKit

end Go.Proofs.Ytenkkdnepmoihaa
end
