/- crc's stamp of a sector: set, and asked. -/
import Derived.Test.YtfgiomidlfoonaaDoorKeep
import Derived.Test.YtfgiomidlfoonaaDoorFeed
namespace Go.Proofs.YtfgiomidlfoonaaDoor
open Go.RowKit

theorem stampByte_any (x k : Nat) (hx : x < 4294967296) (hk : k < 4) (w : World) :
    Calls Tryd.prog 37 #[.int .u32 (x : Int), .int .i64 (k : Int)] w fun e w' => e = .returned (.int .u8 ((beB x k).toNat : Int)) ∧ w' = w := by
  match k, hk with
  | 0, _ =>
    go_enter Tryd.func37, Tryd.ntmps37
    go_wp2
    go_ret
    exact ⟨congrArg (fun z => Ending.returned (.int .u8 z)) (by simp only [beB, UInt8.toNat_ofNat']; omega), rfl⟩
  | 1, _ =>
    go_enter Tryd.func37, Tryd.ntmps37
    go_wp2
    go_ret
    exact ⟨congrArg (fun z => Ending.returned (.int .u8 z)) (by simp only [beB, UInt8.toNat_ofNat']; omega), rfl⟩
  | 2, _ =>
    go_enter Tryd.func37, Tryd.ntmps37
    go_wp2
    go_ret
    exact ⟨congrArg (fun z => Ending.returned (.int .u8 z)) (by simp only [beB, UInt8.toNat_ofNat']; omega), rfl⟩
  | 3, _ =>
    go_enter Tryd.func37, Tryd.ntmps37
    go_wp2
    go_ret
    exact ⟨congrArg (fun z => Ending.returned (.int .u8 z)) (by simp only [beB, UInt8.toNat_ofNat']; omega), rfl⟩
theorem stampOf_any (A Ap : Option Addr) (c cp : Nat) (bs : List UInt8) (rs : List (List UInt8)) (n : Nat) (w : World) (hn : rs.length = n) (hbs : bs.length = 32) (hc : 32 ≤ c) (hr : RdB w w.heap.size A bs) (hp : RdR w w.heap.size Ap rs) (ht : TabOk w) :
    Calls Tryd.prog 36 #[.slice A 32 c, .slice Ap n cp] w fun e w' => e = .returned (.int .u32 ((sumR (bs.take 28 :: rs) : Nat) : Int)) ∧ Below w.heap.size w w' := by
  subst hn
  have hpos := ht.pos
  have hl1 := feedR_lt (x := 4294967295) [bs.take 28] (by decide)
  have hl2 := feedR_lt rs hl1
  have C1 : Hid (∀ W, W.heap[w.heap.size]? = some (.cells #[.slice A 28 c] 22) → Below w.heap.size w W → Calls Tryd.prog 41 #[.int .u32 4294967295, .slice (some ⟨w.heap.size, 0, none⟩) 1 1] W
      fun e w' => e = .returned (.int .u32 ((feedR 4294967295 [bs.take 28] : Nat) : Int)) ∧ w' = W) :=
    Lib.hid fun W hg hb => feed_any _ [bs.take 28] 1 4294967295 (by decide) W (rdr_cells hg (by have := (Array.getElem?_eq_some_iff.1 hg).1; omega) (by simp) fun k hk => by
      obtain rfl : k = 0 := by simp at hk; omega
      exact ⟨A, c, by simp [hbs], ((hr.below hb (Nat.le_refl _)).more hb.size).take 28⟩) (ht.below hb hpos)
  have C2 : Hid (∀ W, Below w.heap.size w W → Calls Tryd.prog 41 #[.int .u32 ((feedR 4294967295 [bs.take 28] : Nat) : Int), .slice Ap rs.length cp] W
      fun e w' => e = .returned (.int .u32 ((feedR (feedR 4294967295 [bs.take 28]) rs : Nat) : Int)) ∧ w' = W) :=
    Lib.hid fun W hb => feed_any Ap rs cp _ hl1 W ((hp.below hb (Nat.le_refl _)).more hb.size) (ht.below hb hpos)
  have e0 : bits .xor .u32 ((feedR (feedR 4294967295 [bs.take 28]) rs : Nat) : Int) 4294967295 = ((sumR (bs.take 28 :: rs) : Nat) : Int) := u32_xor_nat _ 4294967295 hl2 (by decide)
  generalize sumR (bs.take 28 :: rs) = z at e0
  generalize feedR (feedR 4294967295 [bs.take 28]) rs = y2 at C2 e0
  generalize feedR 4294967295 [bs.take 28] = y1 at C1 C2
  have i0 : (28 : Int) ≤ (c : Int) := by omega
  go_enter Tryd.func36, Tryd.ntmps36
  go_wp2_with (first
    | (go_at_call_of 41 (Value.slice (some ⟨w.heap.size, 0, none⟩) 1 1); refine (C1.out _ (hp_new _ _ _ rfl) (below1 _ _)).mono ?_; rintro e w' ⟨rfl, rfl⟩)
    | (go_at_call 41; refine (C2.out _ (below1 _ _)).mono ?_; rintro e w' ⟨rfl, rfl⟩))
  go_ret
  exact ⟨rfl, below1 _ _⟩
theorem stampNo_any (A Ap : Option Addr) (n c np cp : Nat) (w : World) (hn : n ≠ 32) :
    Calls Tryd.prog 22 #[.slice A n c, .slice Ap np cp] w fun e w' => e = .returned (.bool false) ∧ w' = w := by
  have h1 : ((n : Int) != 32) = true := by rw [bne_iff_ne]; omega
  go_enter Tryd.func22, Tryd.ntmps22
  go_wp2
  go_ret
  exact ⟨rfl, rfl⟩
set_option maxHeartbeats 400000 in
theorem stamp_any (g cap B : Nat) (Ap : Option Addr) (cp : Nat) (bs : List UInt8) (rs : List (List UInt8)) (n : Nat) (w : World) (hn : rs.length = n) (h : OwB 5 w B (.slice (some ⟨g, 0, none⟩) 32 cap) bs) (hbs : bs.length = 32)
    (hp : RdR w w.heap.size Ap rs) (ht : TabOk w) :
    Calls Tryd.prog 22 #[.slice (some ⟨g, 0, none⟩) 32 cap, .slice Ap n cp] w fun e w' => e = .returned (.bool true) ∧ OwB 5 w' B (.slice (some ⟨g, 0, none⟩) 32 cap) (stamped bs rs) ∧ w.grownBy w' (some g) := by
  obtain ⟨A', cap', hv, hcap, hrd⟩ := h.rd
  injection hv with hA hbl hcc
  clear hbl
  subst hA hcc
  have C1 := Lib.hid (stampOf_any (some ⟨g, 0, none⟩) Ap cap cp bs rs n w hn hbs (by omega) hrd hp ht)
  have hx := sumR_lt (bs.take 28 :: rs)
  have Hf := Lib.hid (stampK_four bs (sumR (bs.take 28 :: rs)) hbs)
  rw [show bs.take 28 ++ be4 (sumR (bs.take 28 :: rs)) = stamped bs rs from rfl] at Hf
  generalize sumR (bs.take 28 :: rs) = x at C1 hx Hf
  have hg : g < w.heap.size := (h.lt g rfl).2
  have hc0 : (28 : Int) ≤ (cap : Int) := by omega
  have hc1 : 32 ≤ cap := by omega
  clear hrd
  go_enter Tryd.func22, Tryd.ntmps22
  go_wp2_with (go_at_call 36; refine C1.out.mono ?_; rintro e w1 ⟨rfl, hb1⟩)
  go_loopw [16] (fun i wr => ∃ k : Nat, k ≤ 4 ∧ i = .int .i64 k ∧ OwB 5 wr B (.slice (some ⟨g, 0, none⟩) 32 cap) (stampK bs x k) ∧ w.grownBy wr (some g)) (fun i _ => 4 - (intOf i).toNat)
  case atStart => exact ⟨0, by omega, rfl, h.below hb1, grown_of_below hb1 _⟩
  case round =>
    obtain ⟨k, hk, rfl, hown, hgr⟩ := hrel
    by_cases hlt : k < 4
    · obtain ⟨hc, hf⟩ := hown.cell ((stampK_len bs x k).trans hbs) (28 + k) (by omega)
      have Hset := Lib.hid (hown.set ((stampK_len bs x k).trans hbs) (28 + k) (beB x k))
      rw [← stampK_succ] at Hset
      go_wp2_with (go_at_call 37; refine (stampByte_any x k hx hlt _).mono ?_; rintro e w' ⟨rfl, rfl⟩)
      go_roundw
      case rel => exact ⟨k + 1, by omega, by go_num, Hset.out.1, hgr.trans Hset.out.2⟩
      case measure => simp [intOf]; omega
    · obtain rfl : k = 4 := by omega
      rw [Hf.out] at hown
      go_wp2
      go_ret
      exact ⟨rfl, hown, hgr⟩
/-- Stamped with one part, whose list the call's statement makes. -/
theorem stamp_one (g cap B : Nat) (A : Option Addr) (c n : Nat) (bs q : List UInt8) (t : TypeId) (W : World) (hn : q.length = n) (h : OwB 5 W B (.slice (some ⟨g, 0, none⟩) 32 cap) bs) (hbs : bs.length = 32) (hq : RdB W W.heap.size A q) (ht : TabOk W) :
    Calls Tryd.prog 22 #[.slice (some ⟨g, 0, none⟩) 32 cap, .slice (some ⟨W.heap.size, 0, none⟩) 1 1] (W.alloc (.cells #[.slice A n c] t)) fun e w' => e = .returned (.bool true) ∧ OwB 5 w' B (.slice (some ⟨g, 0, none⟩) 32 cap) (stamped bs [q]) ∧ W.grownBy w' (some g) := by
  subst hn
  refine (stamp_any g cap B _ 1 bs [q] 1 _ rfl (h.below (below1 W _)) hbs (rdr_cells (hp_new _ _ _ rfl) (by simp) (by simp) fun k hk => by
    obtain rfl : k = 0 := by simp at hk; omega
    exact ⟨A, c, rfl, (hq.below (below1 W _) (Nat.le_refl _)).more (by simp)⟩) (ht.below (below1 W _) ht.pos)).mono ?_
  rintro e w' ⟨h1, h2, h3⟩
  exact ⟨h1, h2, (grown_of_below (below1 W _) _).trans h3⟩
theorem stamp_n (g cap B m : Nat) (Ap : Option Addr) (cp : Nat) (bs : List UInt8) (rs : List (List UInt8)) (n : Nat) (w : World) (hm : m = 32) (hn : rs.length = n) (h : OwB 5 w B (.slice (some ⟨g, 0, none⟩) m cap) bs) (hbs : bs.length = 32)
    (hp : RdR w w.heap.size Ap rs) (ht : TabOk w) :
    Calls Tryd.prog 22 #[.slice (some ⟨g, 0, none⟩) m cap, .slice Ap n cp] w fun e w' => e = .returned (.bool true) ∧ OwB 5 w' B (.slice (some ⟨g, 0, none⟩) m cap) (stamped bs rs) ∧ w.grownBy w' (some g) := by
  subst hm
  exact stamp_any g cap B Ap cp bs rs n w hn h hbs hp ht
end Go.Proofs.YtfgiomidlfoonaaDoor
