/- Texts put together: Keep, MakeS, PlaySec, Within, KeepCopy, Synd, Rows2, Seal. -/
import Derived.Test.YtjnemopocmhfkaaDoorBbaa
import Derived.StillTailTactics
import Derived.Deep.Matrix
section
namespace Go.Proofs.YtjnemopocmhfkaaDoor
open Go.RowKit

theorem take_snoc_eq {bs bs' : List UInt8} {j : Nat} (h : bs.take j = bs'.take j) (hj : j < bs.length) (hj' : j < bs'.length) (he : bs.getD j 0 = bs'.getD j 0) : bs.take (j + 1) = bs'.take (j + 1) := by
  rw [List.take_succ_eq_append_getElem hj, List.take_succ_eq_append_getElem hj', h]
  have e : bs[j] = bs'[j] := by simpa [hj, hj'] using he
  rw [e]
theorem getD_of_eq {bs bs' : List UInt8} (h : bs = bs') (j : Nat) : bs.getD j 0 = bs'.getD j 0 := by rw [h]
theorem u8_bne {a b : UInt8} (h : a ≠ b) : ((a.toNat : Int) != (b.toNat : Int)) = true := by
  rw [bne_iff_ne]; intro h'; exact h (UInt8.toNat_inj.1 (by omega))
def SamePost (bs bs' : List UInt8) (w : World) (e : Ending) (w' : World) : Prop := e = .returned (.bool (decide (bs = bs'))) ∧ ∃ m, w' = w.drewN m
set_option maxHeartbeats 400000 in
theorem same_any (A A' : Option Addr) (n n' c c' B : Nat) (bs bs' : List UInt8) (w : World) (hn : n = bs.length) (hn' : n' = bs'.length) (hr : RdB w B A bs) (hr' : RdB w B A' bs') :
    Calls Tryd.prog 20 #[.slice A n c, .slice A' n' c'] w (SamePost bs bs' w) := by
  subst hn hn'
  have hl := hr.1
  have hl' := hr'.1
  by_cases hlen : bs.length = bs'.length
  · have hle := Lib.hid hlen
    have hne : ((bs.length : Int) != (bs'.length : Int)) = false := by rw [hlen]; simp
    clear hlen
    go_enter Tryd.func20, Tryd.ntmps20
    go_wp2
    go_loopw [5] (fun i wr => ∃ j m : Nat, j ≤ bs.length ∧ i = .int .i64 j ∧ bs.take j = bs'.take j ∧ wr = w.drewN m) (fun i _ => bs.length - (intOf i).toNat)
    case atStart => exact ⟨0, 0, Nat.zero_le _, rfl, rfl, rfl⟩
    case round =>
      obtain ⟨j, m, hj, rfl, htk, rfl⟩ := hrel
      have Htk := Lib.hid htk
      clear htk
      by_cases hlt : j < bs.length
      · have hlt' : j < bs'.length := by have := hle.out; omega
        obtain ⟨b, off, rfl, hb, hc⟩ := hr.2 (by omega)
        obtain ⟨b', off', rfl, hb', hc'⟩ := hr'.2 (by omega)
        have h1 := hc j hlt
        have h2 := hc' j hlt'
        have i0 : (0 : Int) ≤ (j : Int) := by omega
        have i1 : (j : Int) < (bs.length : Int) := by omega
        have i2 : (j : Int) < (bs'.length : Int) := by omega
        clear hc hc'
        by_cases he : bs.getD j 0 = bs'.getD j 0
        · have Hsn := Lib.hid (take_snoc_eq Htk.out hlt hlt' he)
          rw [← he] at h2
          clear he
          generalize bs.getD j 0 = x at h1 h2
          go_wp2
          go_quiet (fail)
          go_wp2
          go_roundw
          case rel => exact ⟨j + 1, _, by omega, by go_num, Hsn.out, rfl⟩
          case measure => simp [intOf]; omega
        · have hd : decide (bs = bs') = false := by simpa using fun h => he (getD_of_eq h j)
          have Hd := Lib.hid hd
          have hb := u8_bne he
          clear hd he
          generalize bs.getD j 0 = x at h1 hb
          generalize bs'.getD j 0 = y at h2 hb
          go_wp2
          go_quiet (fail)
          go_wp2
          go_ret
          exact ⟨by rw [Hd.out]; rfl, m + nq, World.drewN_drewN _ _ _⟩
      · obtain rfl : j = bs.length := by omega
        have Hd : Hid (decide (bs = bs') = true) := by
          have h1 := Htk.out
          rw [List.take_length, hle.out, List.take_length] at h1
          exact decide_eq_true h1
        go_wp2
        go_ret
        exact ⟨by rw [Hd.out]; rfl, m, rfl⟩
  · go_enter Tryd.func20, Tryd.ntmps20
    have hne : ((bs.length : Int) != (bs'.length : Int)) = true := by rw [bne_iff_ne]; omega
    go_wp2
    go_ret
    exact ⟨by rw [decide_eq_false (fun h => hlen (by rw [h]))]; rfl, 0, rfl⟩
end Go.Proofs.YtjnemopocmhfkaaDoor
end
section
namespace Go.Proofs.YtjnemopocmhfkaaDoor
open Go.RowKit

theorem makeS (w : World) : (Instr.makeSlice 48 (.int .i64 32) (.int .i64 32)).run Tryd.prog w = .ok (.slice (some ⟨w.heap.size, 0, none⟩) 32 32) (w.alloc (.cells (zcells 32) 5)) := make_bytes 32 (by omega) w
end Go.Proofs.YtjnemopocmhfkaaDoor
end
section
namespace Go.Proofs.YtjnemopocmhfkaaDoor
open Go.RowKit

def secI (n : Int) (k : Nat) : Int := wrap64 (n + wrap64 ((k : Int) * bits .or .i64 (n.tdiv 7) 1)) % 256
def secU (n : Int) (k : Nat) : UInt8 := UInt8.ofNat (secI n k).toNat
theorem secU_val (n : Int) (k : Nat) : ((secU n k).toNat : Int) = secI n k := by
  have h0 : 0 ≤ secI n k := Int.emod_nonneg _ (by omega)
  have h1 : secI n k < 256 := Int.emod_lt_of_pos _ (by omega)
  unfold secU
  rw [UInt8.toNat_ofNat']
  generalize secI n k = x at h0 h1
  have : x.toNat < 256 := by omega
  rw [Nat.mod_eq_of_lt (by simpa using this)]
  omega
def sectorB (n : Int) : List UInt8 := if withinI n 11 = 10 then List.replicate 32 0 else (List.range 32).map (secU n)
theorem sectorB_len (n : Int) : (sectorB n).length = 32 := by
  unfold sectorB; split
  · rw [List.length_replicate]
  · rw [List.length_map, List.length_range]
def secTo (n : Int) (k : Nat) : List UInt8 := (List.range k).map (secU n) ++ List.replicate (32 - k) 0
theorem secTo_zero (n : Int) : secTo n 0 = List.replicate 32 0 := rfl
theorem secTo_all (n : Int) : secTo n 32 = (List.range 32).map (secU n) := by unfold secTo; simp
theorem secTo_len (n : Int) {k : Nat} (h : k ≤ 32) : (secTo n k).length = 32 := by unfold secTo; simp; omega
theorem secTo_succ (n : Int) {k : Nat} (h : k < 32) : (secTo n k).set k (secU n k) = secTo n (k + 1) := by
  have hl : ((List.range k).map (secU n)).length = k := by simp
  unfold secTo
  rw [List.set_append_right _ _ (by omega), hl, Nat.sub_self, show 32 - k = (32 - (k + 1)) + 1 from by omega, List.replicate_succ, List.set_cons_zero, List.range_succ, List.map_append, List.append_assoc]
  rfl
set_option maxHeartbeats 400000 in
theorem sector_any (n : Int) (w : World) (hn : -9223372036854775808 ≤ n ∧ n ≤ 9223372036854775807) :
    Calls Tryd.prog 32 #[.int .i64 n] w fun e w' => ∃ g, e = .returned (.slice (some ⟨g, 0, none⟩) 32 32) ∧ OwB 5 w' w.heap.size (.slice (some ⟨g, 0, none⟩) 32 32) (sectorB n) ∧ Below w.heap.size w w' := by
  have hmk : ∀ w, (Instr.makeSlice 48 (.int .i64 32) (.int .i64 32)).run Tryd.prog w = .ok (.slice (some ⟨w.heap.size, 0, none⟩) 32 32) (w.alloc (.cells (zcells 32) 5)) := make_bytes 32 (by omega)
  have CW := Lib.hid (fun W => within_any n 11 W hn (by omega))
  have HE : Hid (sectorB n = if withinI n 11 = 10 then List.replicate 32 0 else (List.range 32).map (secU n)) := rfl
  have ho := own_make 5 w 32 (by omega)
  have hb0 := below1 w (.cells (zcells 32) 5)
  generalize withinI n 11 = q at CW HE
  by_cases hq : q = 10
  · subst hq
    rw [if_pos rfl] at HE
    go_enter Tryd.func32, Tryd.ntmps32
    go_wp2_with fail
    generalize w.alloc (.cells (zcells 32) 5) = w0 at ho hb0 ⊢
    refine (CW.out _).mono ?_
    rintro e w' ⟨rfl, rfl⟩
    go_wp2
    go_ret
    exact ⟨w.heap.size, rfl, by rw [HE.out]; exact ho, hb0⟩
  · have hqb : (q == 10) = false := by rw [beq_eq_false_iff_ne]; exact hq
    rw [if_neg hq, ← secTo_all] at HE
    rw [← secTo_zero n] at ho
    go_enter Tryd.func32, Tryd.ntmps32
    go_wp2_with fail
    generalize w.alloc (.cells (zcells 32) 5) = w0 at ho hb0 ⊢
    refine (CW.out _).mono ?_
    rintro e w' ⟨rfl, rfl⟩
    clear hmk
    go_wp2
    go_loopw [12] (fun i wr => ∃ k : Nat, k ≤ 32 ∧ i = .int .i64 k ∧ OwB 5 wr w.heap.size (.slice (some ⟨w.heap.size, 0, none⟩) 32 32) (secTo n k) ∧ Below w.heap.size w wr) (fun i _ => 32 - (intOf i).toNat)
    case atStart => exact ⟨0, by omega, rfl, ho, hb0⟩
    case round =>
      obtain ⟨k, hk, rfl, hown, hbr⟩ := hrel
      by_cases hlt : k < 32
      · have i0 : (0 : Int) ≤ (k : Int) := by omega
        have i1 : (k : Int) < 32 := by omega
        obtain ⟨hc, hf⟩ := hown.cell (secTo_len n hk) k hlt
        have hset := (hown.set (secTo_len n hk) k (secU n k)).1
        rw [secU_val, secTo_succ n hlt] at hset
        have Hset := Lib.hid hset
        have Hbs := Lib.hid (hbr.setCell (p := ⟨w.heap.size, k, none⟩) (Nat.le_refl _) (.int .u8 (secI n k)))
        clear hset hown
        go_wp2
        go_roundw
        case rel => exact ⟨k + 1, by omega, by go_num, Hset.out, Hbs.out⟩
        case measure => simp [intOf]; omega
      · obtain rfl : k = 32 := by omega
        go_wp2
        go_ret
        exact ⟨w.heap.size, rfl, by rw [HE.out]; exact hown, hbr⟩
end Go.Proofs.YtjnemopocmhfkaaDoor
end
section
namespace Go.Proofs.YtjnemopocmhfkaaDoor
open Go.RowKit

end Go.Proofs.YtjnemopocmhfkaaDoor
end
section
namespace Go.Proofs.YtjnemopocmhfkaaDoor
open Go.RowKit

end Go.Proofs.YtjnemopocmhfkaaDoor
end
section
namespace Go.Proofs.YtjnemopocmhfkaaDoor
open Go.RowKit

end Go.Proofs.YtjnemopocmhfkaaDoor
end
section
namespace Go.Proofs.YtjnemopocmhfkaaDoor
open Go.ChangeShapes Go.WideShapes Go.ChangeAt Go.RowKit

section
variable {H : Type} {enc : TypeId × Value → H} {P : Program}
end

/-- A block of bytes that a literal made. -/
theorem rdb_lit {w : World} {g : Nat} {cs : Array Value} {t : TypeId} {f : Nat × Nat} {bs : List UInt8} (hg : w.heap[g]? = some (.cells cs t f)) (hl : bs.length ≤ 140737488355328) (hcs : cs.toList = bs.map bv) : RdB w w.heap.size (some ⟨g, 0, none⟩) bs :=
  rdb_block hg (Array.getElem?_eq_some_iff.1 hg).1 hl fun k hk => by
    rw [← Array.getElem?_toList, hcs, List.getElem?_map, List.getElem?_eq_getElem hk, List.getD_eq_getElem?_getD, List.getElem?_eq_getElem hk]
    rfl
end Go.Proofs.YtjnemopocmhfkaaDoor
end
section
namespace Go.Proofs.YtjnemopocmhfkaaDoor
open Go.RowKit

theorem stampByte_any (x k : Nat) (hx : x < 4294967296) (hk : k < 4) (w : World) :
    Calls Tryd.prog 51 #[.int .u32 (x : Int), .int .i64 (k : Int)] w fun e w' => e = .returned (.int .u8 ((beB x k).toNat : Int)) ∧ w' = w := by
  match k, hk with
  | 0, _ =>
    go_enter Tryd.func51, Tryd.ntmps51
    go_wp2
    go_ret
    exact ⟨congrArg (fun z => Ending.returned (.int .u8 z)) (by simp only [beB, UInt8.toNat_ofNat']; omega), rfl⟩
  | 1, _ =>
    go_enter Tryd.func51, Tryd.ntmps51
    go_wp2
    go_ret
    exact ⟨congrArg (fun z => Ending.returned (.int .u8 z)) (by simp only [beB, UInt8.toNat_ofNat']; omega), rfl⟩
  | 2, _ =>
    go_enter Tryd.func51, Tryd.ntmps51
    go_wp2
    go_ret
    exact ⟨congrArg (fun z => Ending.returned (.int .u8 z)) (by simp only [beB, UInt8.toNat_ofNat']; omega), rfl⟩
  | 3, _ =>
    go_enter Tryd.func51, Tryd.ntmps51
    go_wp2
    go_ret
    exact ⟨congrArg (fun z => Ending.returned (.int .u8 z)) (by simp only [beB, UInt8.toNat_ofNat']; omega), rfl⟩
theorem stampOf_any (A Ap : Option Addr) (c cp : Nat) (bs : List UInt8) (rs : List (List UInt8)) (n : Nat) (w : World) (hn : rs.length = n) (hbs : bs.length = 32) (hc : 32 ≤ c) (hr : RdB w w.heap.size A bs) (hp : RdR w w.heap.size Ap rs) (ht : TabOk w) :
    Calls Tryd.prog 50 #[.slice A 32 c, .slice Ap n cp] w fun e w' => e = .returned (.int .u32 ((sumR (bs.take 28 :: rs) : Nat) : Int)) ∧ Below w.heap.size w w' := by
  subst hn
  have hpos := ht.pos
  have hl1 := feedR_lt (x := 4294967295) [bs.take 28] (by decide)
  have hl2 := feedR_lt rs hl1
  have C1 : Hid (∀ W, W.heap[w.heap.size]? = some (.cells #[.slice A 28 c] 48) → Below w.heap.size w W → Calls Tryd.prog 56 #[.int .u32 4294967295, .slice (some ⟨w.heap.size, 0, none⟩) 1 1] W
      fun e w' => e = .returned (.int .u32 ((feedR 4294967295 [bs.take 28] : Nat) : Int)) ∧ w' = W) :=
    Lib.hid fun W hg hb => feed_any _ [bs.take 28] 1 4294967295 (by decide) W (rdr_cells hg (by have := (Array.getElem?_eq_some_iff.1 hg).1; omega) (by simp) fun k hk => by
      obtain rfl : k = 0 := by simp at hk; omega
      exact ⟨A, c, by simp [hbs], ((hr.below hb (Nat.le_refl _)).more hb.size).take 28⟩) (ht.below hb hpos)
  have C2 : Hid (∀ W, Below w.heap.size w W → Calls Tryd.prog 56 #[.int .u32 ((feedR 4294967295 [bs.take 28] : Nat) : Int), .slice Ap rs.length cp] W
      fun e w' => e = .returned (.int .u32 ((feedR (feedR 4294967295 [bs.take 28]) rs : Nat) : Int)) ∧ w' = W) :=
    Lib.hid fun W hb => feed_any Ap rs cp _ hl1 W ((hp.below hb (Nat.le_refl _)).more hb.size) (ht.below hb hpos)
  have e0 : bits .xor .u32 ((feedR (feedR 4294967295 [bs.take 28]) rs : Nat) : Int) 4294967295 = ((sumR (bs.take 28 :: rs) : Nat) : Int) := u32_xor_nat _ 4294967295 hl2 (by decide)
  generalize sumR (bs.take 28 :: rs) = z at e0
  generalize feedR (feedR 4294967295 [bs.take 28]) rs = y2 at C2 e0
  generalize feedR 4294967295 [bs.take 28] = y1 at C1 C2
  have i0 : (28 : Int) ≤ (c : Int) := by omega
  go_enter Tryd.func50, Tryd.ntmps50
  go_wp2_with (first
    | (go_at_call_of 56 (Value.slice (some ⟨w.heap.size, 0, none⟩) 1 1); refine (C1.out _ (hp_new _ _ _ rfl) (below1 _ _)).mono ?_; rintro e w' ⟨rfl, rfl⟩)
    | (go_at_call 56; refine (C2.out _ (below1 _ _)).mono ?_; rintro e w' ⟨rfl, rfl⟩))
  go_ret
  exact ⟨rfl, below1 _ _⟩
set_option maxHeartbeats 400000 in
theorem stamp_any (g cap B : Nat) (Ap : Option Addr) (cp : Nat) (bs : List UInt8) (rs : List (List UInt8)) (n : Nat) (w : World) (hn : rs.length = n) (h : OwB 5 w B (.slice (some ⟨g, 0, none⟩) 32 cap) bs) (hbs : bs.length = 32)
    (hp : RdR w w.heap.size Ap rs) (ht : TabOk w) :
    Calls Tryd.prog 44 #[.slice (some ⟨g, 0, none⟩) 32 cap, .slice Ap n cp] w fun e w' => e = .returned (.bool true) ∧ OwB 5 w' B (.slice (some ⟨g, 0, none⟩) 32 cap) (stamped bs rs) ∧ w.grownBy w' (some g) := by
  obtain ⟨A', cap', hv, hcap, hrd⟩ := h.rd
  injection hv with hA hbl hcc
  clear hbl
  subst hA hcc
  have C1 := Lib.hid (stampOf_any (some ⟨g, 0, none⟩) Ap cap cp bs rs n w hn hbs (by omega) hrd hp ht)
  have hx := sumR_lt (bs.take 28 :: rs)
  have Hf := Lib.hid (stampK_four bs (sumR (bs.take 28 :: rs)) hbs)
  rw [show bs.take 28 ++ be4 (sumR (bs.take 28 :: rs)) = stamped bs rs from rfl] at Hf
  generalize sumR (bs.take 28 :: rs) = x at C1 hx Hf
  have hg : g < w.heap.size := (h.lt g rfl).2
  have hc0 : (28 : Int) ≤ (cap : Int) := by omega
  have hc1 : 32 ≤ cap := by omega
  clear hrd
  go_enter Tryd.func44, Tryd.ntmps44
  go_wp2_with (go_at_call 50; refine C1.out.mono ?_; rintro e w1 ⟨rfl, hb1⟩)
  go_loopw [16] (fun i wr => ∃ k : Nat, k ≤ 4 ∧ i = .int .i64 k ∧ OwB 5 wr B (.slice (some ⟨g, 0, none⟩) 32 cap) (stampK bs x k) ∧ w.grownBy wr (some g)) (fun i _ => 4 - (intOf i).toNat)
  case atStart => exact ⟨0, by omega, rfl, h.below hb1, grown_of_below hb1 _⟩
  case round =>
    obtain ⟨k, hk, rfl, hown, hgr⟩ := hrel
    by_cases hlt : k < 4
    · obtain ⟨hc, hf⟩ := hown.cell ((stampK_len bs x k).trans hbs) (28 + k) (by omega)
      have Hset := Lib.hid (hown.set ((stampK_len bs x k).trans hbs) (28 + k) (beB x k))
      rw [← stampK_succ] at Hset
      go_wp2_with (go_at_call 51; refine (stampByte_any x k hx hlt _).mono ?_; rintro e w' ⟨rfl, rfl⟩)
      go_roundw
      case rel => exact ⟨k + 1, by omega, by go_num, Hset.out.1, hgr.trans Hset.out.2⟩
      case measure => simp [intOf]; omega
    · obtain rfl : k = 4 := by omega
      rw [Hf.out] at hown
      go_wp2
      go_ret
      exact ⟨rfl, hown, hgr⟩
end Go.Proofs.YtjnemopocmhfkaaDoor
end
