/- Texts put together: Bools, PlaySecs, GfAid, RefGf, RefPow, RefSynd, Take. -/
import Derived.Test.YtadfimimkkimmaaSaaaa
import Derived.Test.YtadfimimkkimmaaSaaaf
import Derived.Test.YtadfimimkkimmaaSaaac
import Derived.Test.YtadfimimkkimmaaSaaab
import Derived.StillTail
import Derived.OrdersHeld
import Derived.Deep.MidRow
section
namespace Go.Proofs.Ytadfimimkkimmaa
open Go.RowKit

/-- A slice that reads as yes and no. -/
def RdO (w : World) (B : Nat) (A : Option Addr) (ks : List Bool) : Prop :=
  ks.length ≤ 9223372036854775807 ∧ (0 < ks.length → ∃ b off, A = some ⟨b, off, none⟩ ∧ b < B ∧ ∀ k, k < ks.length → w.cell? ⟨b, off + k, none⟩ = some (.bool (ks.getD k false)))
theorem RdO.nil (w : World) (B : Nat) (A : Option Addr) : RdO w B A [] := ⟨by simp, fun h => by simp at h⟩
theorem RdO.keep {w w' : World} {B B' : Nat} {A : Option Addr} {ks : List Bool} (h : RdO w B A ks) (hB : B ≤ B') (hk : ∀ p : Addr, p.block < B → w'.cell? p = w.cell? p) : RdO w' B' A ks :=
  ⟨h.1, fun hn => by
    obtain ⟨b, off, e, hb, hc⟩ := h.2 hn
    exact ⟨b, off, e, by omega, fun k hk' => (hk ⟨b, off + k, none⟩ hb).trans (hc k hk')⟩⟩
theorem RdO.below {w w' : World} {B B' : Nat} {A : Option Addr} {ks : List Bool} (h : RdO w B A ks) (hb : Below B' w w') (hB : B ≤ B') : RdO w' B A ks := h.keep (Nat.le_refl _) fun p hp => hb.cell (by omega)
theorem RdO.drop {w : World} {B : Nat} {A : Option Addr} {ks : List Bool} (h : RdO w B A ks) (k cap : Nat) (hc : ks.length ≤ cap) : RdO w B (if cap = k then A else A.map (·.add k)) (ks.drop k) :=
  ⟨by have := h.1; simp; omega, fun hn => by
    have hn' : k < ks.length := by simp at hn; omega
    obtain ⟨b, off, rfl, hb, hc⟩ := h.2 (by omega)
    rw [if_neg (by omega)]
    refine ⟨b, off + k, ?_, hb, fun j hj => ?_⟩
    · unfold Addr.add; by_cases hk0 : k = 0 <;> simp [hk0]
    · have hj' : k + j < ks.length := by simp at hj; omega
      rw [Nat.add_assoc, hc (k + j) hj']
      simp⟩
theorem RdO.take {w : World} {B : Nat} {A : Option Addr} {ks : List Bool} (h : RdO w B A ks) (k : Nat) : RdO w B A (ks.take k) :=
  ⟨by have := h.1; simp; omega, fun hn => by
    have hk : 0 < k ∧ 0 < ks.length := by simp at hn; omega
    obtain ⟨b, off, e, hb, hc⟩ := h.2 hk.2
    refine ⟨b, off, e, hb, fun j hj => ?_⟩
    have hj' : j < k ∧ j < ks.length := by simp at hj; omega
    rw [hc j hj'.2]
    simp [hj'.1]⟩
/-- A slice that reads as these numbers. -/
def RdZ (w : World) (B : Nat) (A : Option Addr) (zs : List Int) : Prop :=
  zs.length ≤ 9223372036854775807 ∧ (∀ z ∈ zs, -9223372036854775808 ≤ z ∧ z ≤ 9223372036854775807) ∧ (0 < zs.length → ∃ b off, A = some ⟨b, off, none⟩ ∧ b < B ∧ ∀ k, k < zs.length → w.cell? ⟨b, off + k, none⟩ = some (.int .i64 (zs.getD k 0)))
theorem RdZ.nil (w : World) (B : Nat) (A : Option Addr) : RdZ w B A [] := ⟨by simp, fun z hz => by simp at hz, fun h => by simp at h⟩
theorem RdZ.keep {w w' : World} {B B' : Nat} {A : Option Addr} {zs : List Int} (h : RdZ w B A zs) (hB : B ≤ B') (hk : ∀ p : Addr, p.block < B → w'.cell? p = w.cell? p) : RdZ w' B' A zs :=
  ⟨h.1, h.2.1, fun hn => by
    obtain ⟨b, off, e, hb, hc⟩ := h.2.2 hn
    exact ⟨b, off, e, by omega, fun k hk' => (hk ⟨b, off + k, none⟩ hb).trans (hc k hk')⟩⟩
theorem RdZ.below {w w' : World} {B B' : Nat} {A : Option Addr} {zs : List Int} (h : RdZ w B A zs) (hb : Below B' w w') (hB : B ≤ B') : RdZ w' B A zs := h.keep (Nat.le_refl _) fun p hp => hb.cell (by omega)
theorem RdZ.bd {w : World} {B : Nat} {A : Option Addr} {zs : List Int} (h : RdZ w B A zs) (k : Nat) : -9223372036854775808 ≤ zs.getD k 0 ∧ zs.getD k 0 ≤ 9223372036854775807 := by
  by_cases hk : k < zs.length
  · exact h.2.1 _ (by simp [hk])
  · rw [List.getD_eq_getElem?_getD, List.getElem?_eq_none (by omega)]; simp
end Go.Proofs.Ytadfimimkkimmaa
end
section
set_option maxRecDepth 8000
set_option linter.unusedVariables false
set_option linter.unusedSimpArgs false
namespace Go.Proofs.Ytadfimimkkimmaa
open Go.RowKit

theorem info_row2 : (Try.prog.info? 46).map (fun i => (i.zero, i.size, i.bytes)) = some (some (.slice none 0 0), 1, 24) := by kernel_rfl
/-- An own row of rows, nil or not. -/
def OwV (lo : Nat) (w : World) (v : Value) (rs : List (List UInt8)) : Prop := ∃ xs, w.ownsRow lo 46 1 v rs.length xs ∧ RowsY w lo v.ownBlock xs rs
theorem OwV.below {lo : Nat} {w w' : World} {v : Value} {rs : List (List UInt8)} (h : OwV lo w v rs) (hb : Below w.heap.size w w') : OwV lo w' v rs := by
  obtain ⟨xs, h1, h2⟩ := h
  exact ⟨xs, h1.kept (grown_none hb) (Classical.em _), h2.below hb⟩
theorem OwV.rd {lo : Nat} {w : World} {v : Value} {rs : List (List UInt8)} (h : OwV lo w v rs) (hl : rs.length ≤ 140737488355328) : ∃ A cap, v = .slice A rs.length cap ∧ rs.length ≤ cap ∧ RdR w w.heap.size A rs := by
  obtain ⟨xs, h1, h2⟩ := h
  obtain ⟨A, c, h3, h4, h5⟩ := rdf_own h1 hl h2
  exact ⟨A, c, h3, h4, h5.rdr⟩
theorem OwV.owr {lo : Nat} {w : World} {v : Value} {rs : List (List UInt8)} (h : OwV lo w v rs) (h0 : 0 < rs.length) : ∃ g cap, v = .slice (some ⟨g, 0, none⟩) rs.length cap ∧ OwR w lo g rs.length cap rs := by
  obtain ⟨xs, h1, h2⟩ := h
  rcases h1.2 with ⟨_, h3⟩ | ⟨g, cap, cur, rfl, hb, hg, hc, r⟩
  · omega
  · exact ⟨g, cap, rfl, rfl, hc, hb, xs, h1, h2⟩
theorem OwV.nil (lo : Nat) (w : World) : OwV lo w (.slice none 0 0) [] := ⟨[], World.ownsRow_nil _ _ _ _, RowsY.nil _ _ _⟩
def secZ (zs : List Int) (i : Nat) : Int := if i < zs.length then zs.getD i 0 else 3 * (i : Int)
def sectorsB (zs : List Int) (n : Nat) : List (List UInt8) := (List.range n).map fun i => sectorB (secZ zs i)
theorem sectorsB_len (zs : List Int) (n : Nat) : (sectorsB zs n).length = n := by simp [sectorsB]
theorem sectorsB_mem {zs : List Int} {n : Nat} : ∀ x ∈ sectorsB zs n, x.length = 32 := fun x hx => by
  unfold sectorsB at hx
  obtain ⟨i, _, rfl⟩ := List.mem_map.1 hx
  exact sectorB_len _
theorem sectorsB_snoc (zs : List Int) (k : Nat) : sectorsB zs (k + 1) = sectorsB zs k ++ [sectorB (secZ zs k)] := by
  unfold sectorsB
  rw [List.range_succ, List.map_append]
  rfl
set_option maxHeartbeats 1600000 in
theorem sectors_any (A : Option Addr) (zs : List Int) (m cp n : Nat) (w : World) (hm : m = zs.length) (hr : RdZ w w.heap.size A zs) (hn : n ≤ 8) :
    Calls Try.prog 12 #[.slice A m cp, .int .i64 (n : Int)] w fun e w' => ∃ v, e = .returned v ∧ OwV w.heap.size w' v (sectorsB zs n) ∧ Below w.heap.size w w' := by
  subst hm
  have hz := hr.1
  go_enter Try.func12, Try.ntmps12
  go_wp2
  go_loopw [5, 6] (fun o i wr => ∃ (k : Nat) (vs : List Value), k ≤ n ∧ i = .int .i64 k ∧ wr.ownsRow w.heap.size 46 1 o k vs ∧ RowsY wr w.heap.size o.ownBlock vs (sectorsB zs k) ∧ Below w.heap.size w wr) (fun _ i _ => n - (intOf i).toNat)
  case atStart => exact ⟨0, [], Nat.zero_le _, rfl, World.ownsRow_nil _ _ _ _, RowsY.nil _ _ _, Below.refl _ _⟩
  case round =>
    obtain ⟨k, vs, hk, rfl, hown, hrows, hbr⟩ := hrel
    have Hsn := Lib.hid (sectorsB_snoc zs k)
    by_cases hlt : k < n
    · have i0 : (0 : Int) ≤ (k : Int) := by omega
      have i1 : (k : Int) < (n : Int) := by omega
      generalize sectorsB zs k = rk at hrows Hsn
      by_cases hz2 : k < zs.length
      · have e1 : secZ zs k = zs.getD k 0 := if_pos hz2
        rw [e1] at Hsn
        obtain ⟨b, off, rfl, hbb, hc⟩ := hr.2.2 (by omega)
        have h1 := hc k hz2
        rw [← hbr.cell (p := ⟨b, off + k, none⟩) hbb] at h1
        have hbd := hr.bd k
        have i2 : (k : Int) < (zs.length : Int) := by omega
        generalize zs.getD k 0 = x at h1 hbd Hsn
        clear hc e1
        go_wp2_with fail
        (with_reducible refine (sector_any x _ hbd).mono ?_); rintro e w1 ⟨g1, rfl, ho1, hb1⟩
        have hs0 := hbr.size
        have hrows1 := hrows.below hb1
        have hown1 := hown.kept (grown_none hb1) (Classical.em _)
        have hbw1 := hbr.trans (hb1.mono hs0)
        have hs1 := hbw1.size
        have hob := Lib.hid (fun hp => ho1.addr_ob hp)
        have hl1 : (sectorB x).length = 32 := sectorB_len _
        go_wp2_with (at_builtin; refine wpList_append_V rfl _ _ _ rfl w.heap.size 46 (.slice none 0 0) 24 Try.underlying31 info_row2 rfl _ k vs rfl (hown1.kept (grown_none (below1 w1 _)) (Classical.em _)) (w1.heap.size + 1) (some ⟨w1.heap.size, 0, none⟩) 1 1 [.slice (some ⟨g1, 0, none⟩) 32 32] rfl rfl (fun _ => ⟨w1.heap.size, 0, rfl, by omega, fun j hj => by obtain rfl : j = 0 := (by simp at hj; omega); exact cell_of_row _ _ _ _ _ _ (hp_new _ _ _ rfl)⟩) (fun u hu => by simp at hu; subst hu; rfl) (by unfold maxLen; omega) (by omega) (by have := hbw1.size; simp; omega) ?_; intro v2 w2 hown2 hg2 hat2)
        have hX0 := (hrows1.below (below1 w1 (.cells #[.slice (some ⟨g1, 0, none⟩) 32 32] 46))).snoc (c := 32) ((ho1.le hs0).below (below1 w1 _)).rdbf (fun hp a ha e => by
          injection ha with ha
          subst ha
          have h3 := (hown.lt _ e.symm).2
          have h4 := (ho1.lt g1 rfl).1
          simp at h3
          omega)
        rw [hl1] at hX0
        have hX := hX0.grown hg2 hat2
        have hbw2 := (hbw1.alloc hbw1.size (.cells #[.slice (some ⟨g1, 0, none⟩) 32 32] 46)).grown hg2 (by have := hbw1.size; simp; omega) (fun j hj => (hown.lt j hj).1)
        rw [← Hsn.out] at hX
        clear hX0
        clear hrows1 hown1 hbw1 hg2 ho1 hb1 hbr hown hrows hl1
        go_wp2
        go_roundw
        case rel => exact ⟨k + 1, _, by omega, by go_num, hown2, hX, hbw2⟩
        case measure => simp [intOf]; omega
      · have e1 : secZ zs k = 3 * (k : Int) := if_neg hz2
        rw [e1] at Hsn
        have hbd : -9223372036854775808 ≤ 3 * (k : Int) ∧ 3 * (k : Int) ≤ 9223372036854775807 := by omega
        have i2 : ¬ (k : Int) < (zs.length : Int) := by omega
        clear e1
        go_wp2_with fail
        (with_reducible refine (sector_any (3 * (k : Int)) _ hbd).mono ?_); rintro e w1 ⟨g1, rfl, ho1, hb1⟩
        have hs0 := hbr.size
        have hrows1 := hrows.below hb1
        have hown1 := hown.kept (grown_none hb1) (Classical.em _)
        have hbw1 := hbr.trans (hb1.mono hs0)
        have hs1 := hbw1.size
        have hob := Lib.hid (fun hp => ho1.addr_ob hp)
        have hl1 : (sectorB (3 * (k : Int))).length = 32 := sectorB_len _
        go_wp2_with (at_builtin; refine wpList_append_V rfl _ _ _ rfl w.heap.size 46 (.slice none 0 0) 24 Try.underlying31 info_row2 rfl _ k vs rfl (hown1.kept (grown_none (below1 w1 _)) (Classical.em _)) (w1.heap.size + 1) (some ⟨w1.heap.size, 0, none⟩) 1 1 [.slice (some ⟨g1, 0, none⟩) 32 32] rfl rfl (fun _ => ⟨w1.heap.size, 0, rfl, by omega, fun j hj => by obtain rfl : j = 0 := (by simp at hj; omega); exact cell_of_row _ _ _ _ _ _ (hp_new _ _ _ rfl)⟩) (fun u hu => by simp at hu; subst hu; rfl) (by unfold maxLen; omega) (by omega) (by have := hbw1.size; simp; omega) ?_; intro v2 w2 hown2 hg2 hat2)
        have hX0 := (hrows1.below (below1 w1 (.cells #[.slice (some ⟨g1, 0, none⟩) 32 32] 46))).snoc (c := 32) ((ho1.le hs0).below (below1 w1 _)).rdbf (fun hp a ha e => by
          injection ha with ha
          subst ha
          have h3 := (hown.lt _ e.symm).2
          have h4 := (ho1.lt g1 rfl).1
          simp at h3
          omega)
        rw [hl1] at hX0
        have hX := hX0.grown hg2 hat2
        have hbw2 := (hbw1.alloc hbw1.size (.cells #[.slice (some ⟨g1, 0, none⟩) 32 32] 46)).grown hg2 (by have := hbw1.size; simp; omega) (fun j hj => (hown.lt j hj).1)
        rw [← Hsn.out] at hX
        clear hX0
        clear hrows1 hown1 hbw1 hg2 ho1 hb1 hbr hown hrows hl1
        go_wp2
        go_roundw
        case rel => exact ⟨k + 1, _, by omega, by go_num, hown2, hX, hbw2⟩
        case measure => simp [intOf]; omega
    · obtain rfl : k = n := by omega
      have i1 : ¬ (k : Int) < (k : Int) := by omega
      go_wp2
      go_ret
      exact ⟨_, rfl, ⟨vs, by rw [sectorsB_len]; exact hown, hrows⟩, hbr⟩
end Go.Proofs.Ytadfimimkkimmaa
end
section
namespace Go.Proofs.Ytadfimimkkimmaa
open Go.RowKit

theorem bne_of {k : IntKind} {a b : Nat} (_ : k = k) (h : a ≠ b) : ((a : Int) == (b : Int)) = false := by simp; omega
theorem beq_of {a b : Nat} (h : a = b) : ((a : Int) == (b : Int)) = true := by simp [h]
theorem glog_at {a k : Nat} (hk : k < 255) (h : gE k = a) : ((k : Nat) : Int) = glog a := by rw [← h, glog_gE, Nat.mod_eq_of_lt hk]
theorem glog_none {a : Nat} (ha : a < 256) (h : ∀ j, j < 255 → gE j ≠ a) : (-1 : Int) = glog a := by
  by_cases h0 : a = 0
  · subst h0; rfl
  · exact absurd (gE_gL a ha h0) (h _ (gL_lt a ha))
theorem i64_xor_small (a b : Nat) (ha : a < 1024) (hb : b < 1024) : bits .xor .i64 (a : Int) (b : Int) = ((a ^^^ b : Nat) : Int) := by
  have hx : a ^^^ b < 2 ^ 10 := Nat.xor_lt_two_pow (by omega) (by omega)
  have o : ∀ n : Nat, n < 1024 → (BitVec.ofInt 64 (n : Int)).toNat = n := fun n hn => by rw [BitVec.ofInt_natCast, BitVec.toNat_ofNat]; exact Nat.mod_eq_of_lt (by omega)
  show IntKind.i64.wrap ((BitVec.ofInt 64 (a : Int) ^^^ BitVec.ofInt 64 (b : Int)).toNat : Int) = _
  rw [BitVec.toNat_xor, o a ha, o b hb]
  exact IntWalk.i64_in _ (by omega)
theorem xor285 : ∀ x : Nat, x < 256 → ¬ x < 128 → (2 * x) ^^^ 285 = dbl x := by decide +kernel
end Go.Proofs.Ytadfimimkkimmaa
end
section
namespace Go.Proofs.Ytadfimimkkimmaa
open Go.RowKit

theorem mulF_more (k b : Nat) (h : k < 8) (s x : Nat) : mulF (8 - k) s x (b / 2 ^ k) = mulF (8 - (k + 1)) (if b / 2 ^ k % 2 = 1 then s ^^^ x else s) (dbl x) (b / 2 ^ (k + 1)) := by
  rw [show 8 - k = (8 - (k + 1)) + 1 from by omega, mulF_step, Nat.div_div_eq_div_mul, ← Nat.pow_succ]
theorem bit_any (b k : Nat) (hb : b < 256) : bits .and .u8 ((b : Int) / 2 ^ k) 1 = ((b / 2 ^ k % 2 : Nat) : Int) := by
  have hlt : b / 2 ^ k < 256 := Nat.lt_of_le_of_lt (Nat.div_le_self _ _) hb
  have := u8_and_nat (b / 2 ^ k) 1 hlt (by decide)
  rw [nat_mask1] at this
  rw [← this]
  simp
theorem refMul_any (a b : Nat) (ha : a < 256) (hb : b < 256) (w : World) : Calls Try.prog 85 #[.int .u8 (a : Int), .int .u8 (b : Int)] w fun e w' => e = .returned (.int .u8 ((gmul a b : Nat) : Int)) ∧ w' = w := by
  go_enter Try.func85, Try.ntmps85
  go_wp2
  go_loop [5, 6, 7] (fun vx vs vk => ∃ k s x : Nat, k ≤ 8 ∧ s < 256 ∧ x < 256 ∧ vx = .int .i64 (x : Int) ∧ vs = .int .i64 (s : Int) ∧ vk = .int .i64 (k : Int) ∧ Hid (mulF (8 - k) s x (b / 2 ^ k) = gmul a b)) (fun _ _ vk => 8 - (intOf vk).toNat)
  case atStart => exact ⟨0, 0, a, by omega, by decide, ha, rfl, rfl, rfl, (by rw [Nat.pow_zero, Nat.div_one]; rfl : mulF (8 - 0) 0 a (b / 2 ^ 0) = gmul a b)⟩
  case round =>
    obtain ⟨k, s, x, hk, hs, hx, rfl, rfl, rfl, Hm⟩ := hrel
    by_cases h8 : k < 8
    · have hdx := dbl_lt x hx
      have hxl := xor_lt8 hs hx
      have ex := i64_xor_small s x (by omega) (by omega)
      have e0 := bit_any b k hb
      have Hk := Lib.hid ((mulF_more k b h8 s x).symm.trans Hm.out)
      clear Hm
      by_cases hbit : b / 2 ^ k % 2 = 1
      · rw [hbit, show ((1 : Nat) : Int) = 1 from rfl] at e0
        have Hr : Hid (mulF (8 - (k + 1)) (s ^^^ x) (dbl x) (b / 2 ^ (k + 1)) = gmul a b) := by have := Hk.out; rw [if_pos hbit] at this; exact this
        clear Hk hbit
        by_cases h : x < 128
        · have Hd : Hid (dbl x = 2 * x) := if_pos h
          go_wp2
          go_round
          case rel => exact ⟨k + 1, (s ^^^ x), dbl x, by omega, by assumption, hdx, by rw [Hd.out]; go_num, rfl, by go_num, Hr⟩
          case measure => simp [intOf]; omega
        · have e1 := i64_xor_small (2 * x) 285 (by omega) (by omega)
          have e2 : ((2 * x : Nat) : Int) = (x : Int) * 2 := by omega
          rw [e2, xor285 x hx h, show ((285 : Nat) : Int) = 285 from rfl] at e1
          clear e2
          go_wp2
          go_round
          case rel => exact ⟨k + 1, (s ^^^ x), dbl x, by omega, by assumption, hdx, rfl, rfl, by go_num, Hr⟩
          case measure => simp [intOf]; omega
      · rw [show b / 2 ^ k % 2 = 0 from by omega, show ((0 : Nat) : Int) = 0 from rfl] at e0
        have Hr : Hid (mulF (8 - (k + 1)) s (dbl x) (b / 2 ^ (k + 1)) = gmul a b) := by have := Hk.out; rw [if_neg hbit] at this; exact this
        clear Hk hbit
        by_cases h : x < 128
        · have Hd : Hid (dbl x = 2 * x) := if_pos h
          go_wp2
          go_round
          case rel => exact ⟨k + 1, s, dbl x, by omega, by assumption, hdx, by rw [Hd.out]; go_num, rfl, by go_num, Hr⟩
          case measure => simp [intOf]; omega
        · have e1 := i64_xor_small (2 * x) 285 (by omega) (by omega)
          have e2 : ((2 * x : Nat) : Int) = (x : Int) * 2 := by omega
          rw [e2, xor285 x hx h, show ((285 : Nat) : Int) = 285 from rfl] at e1
          clear e2
          go_wp2
          go_round
          case rel => exact ⟨k + 1, s, dbl x, by omega, by assumption, hdx, rfl, rfl, by go_num, Hr⟩
          case measure => simp [intOf]; omega
    · obtain rfl : k = 8 := by omega
      have Hr : Hid (s = gmul a b) := Hm.out
      clear Hm
      go_wp2
      go_ret
      exact ⟨ret_int (congrArg Nat.cast Hr.out), rfl⟩
end Go.Proofs.Ytadfimimkkimmaa
end
section
namespace Go.Proofs.Ytadfimimkkimmaa
open Go.RowKit

theorem gpw_step {x m : Nat} (hx : x < 256) (h : 0 < m) : gmul (gmul x 2) (gpw 2 (m - 1)) = gmul x (gpw 2 m) := by
  obtain ⟨k, rfl⟩ : ∃ k, m = k + 1 := ⟨m - 1, by omega⟩
  rw [← gmul_assoc hx (by decide) (gpw_lt (by decide) _)]; rfl
set_option maxRecDepth 100000 in
theorem refPow_any (n : Int) (hn : -9223372036854775808 ≤ n ∧ n ≤ 9223372036854775807) (w : World) : Calls Try.prog 84 #[.int .i64 n] w fun e w' => e = .returned (.int .u8 ((gpow n : Nat) : Int)) ∧ w' = w := by
  obtain ⟨hn1, hn2⟩ := hn
  have Ht := tmod255 n
  have h0 := Int.emod_nonneg n (show (255 : Int) ≠ 0 by omega)
  have h1 := Int.emod_lt_of_pos n (show (0 : Int) < 255 by omega)
  have hlo : -255 < n.tmod 255 := Int.lt_tmod_of_pos _ (by omega)
  have hhi : n.tmod 255 < 255 := Int.tmod_lt_of_pos _ (by omega)
  obtain ⟨k, hk⟩ := Int.eq_ofNat_of_zero_le h0
  have H : Hid (gpw 2 k = gpow n) := by unfold gpow; rw [gpw_two_n, hk]; exact congrArg gE rfl
  rw [hk] at h1 Ht
  clear hk h0
  by_cases hneg : n.tmod 255 < 0
  · rw [if_pos hneg] at Ht
    have Ht1 := Lib.hid Ht.symm
    clear Ht
    go_enter Try.func84, Try.ntmps84
    go_wp2
    have Ht2 := Ht1.out
    clear Ht1 hlo hhi hneg
    generalize n.tmod 255 + 255 = z at Ht2 ⊢
    subst Ht2
    go_loop [0, 3] (fun vn vx => ∃ m x : Nat, m < 256 ∧ x < 256 ∧ vn = .int .i64 (m : Int) ∧ vx = .int .u8 (x : Int) ∧ Hid (gmul x (gpw 2 m) = gpow n)) (fun vn _ => (intOf vn).toNat)
    case atStart => exact ⟨k, 1, by omega, by decide, rfl, rfl, (gmul_one_left _ (gpw_lt (by decide) k)).trans H.out⟩
    case round =>
      obtain ⟨m, x, hm, hx, rfl, rfl, Hm⟩ := hrel
      by_cases hz : m = 0
      · have Hr : Hid (x = gpow n) := by subst hz; rw [← Hm.out]; exact (gmul_one_right hx).symm
        have hne : ¬ (0 : Int) < (m : Int) := by omega
        clear hz Hm
        go_wp2
        go_ret
        exact ⟨ret_int (congrArg Nat.cast Hr.out), rfl⟩
      · have hne : (0 : Int) < (m : Int) := by omega
        have hx2 : gmul x 2 < 256 := gmul_lt hx
        have Hr : Hid (gmul (gmul x 2) (gpw 2 (m - 1)) = gpow n) := (gpw_step hx (by omega)).trans Hm.out
        clear Hm
        go_wp2_with (go_at_call 85; refine (refMul_any x 2 hx (by decide) _).mono ?_; rintro e w' ⟨rfl, rfl⟩)
        go_round
        case rel => exact ⟨m - 1, gmul x 2, by omega, hx2, by go_num, rfl, Hr⟩
        case measure => simp [intOf]; omega
  · rw [if_neg hneg] at Ht
    have Ht1 := Lib.hid Ht.symm
    clear Ht
    go_enter Try.func84, Try.ntmps84
    go_wp2
    have Ht2 := Ht1.out
    clear Ht1 hlo hhi hneg
    generalize n.tmod 255 = z at Ht2 ⊢
    subst Ht2
    go_loop [0, 3] (fun vn vx => ∃ m x : Nat, m < 256 ∧ x < 256 ∧ vn = .int .i64 (m : Int) ∧ vx = .int .u8 (x : Int) ∧ Hid (gmul x (gpw 2 m) = gpow n)) (fun vn _ => (intOf vn).toNat)
    case atStart => exact ⟨k, 1, by omega, by decide, rfl, rfl, (gmul_one_left _ (gpw_lt (by decide) k)).trans H.out⟩
    case round =>
      obtain ⟨m, x, hm, hx, rfl, rfl, Hm⟩ := hrel
      by_cases hz : m = 0
      · have Hr : Hid (x = gpow n) := by subst hz; rw [← Hm.out]; exact (gmul_one_right hx).symm
        have hne : ¬ (0 : Int) < (m : Int) := by omega
        clear hz Hm
        go_wp2
        go_ret
        exact ⟨ret_int (congrArg Nat.cast Hr.out), rfl⟩
      · have hne : (0 : Int) < (m : Int) := by omega
        have hx2 : gmul x 2 < 256 := gmul_lt hx
        have Hr : Hid (gmul (gmul x 2) (gpw 2 (m - 1)) = gpow n) := (gpw_step hx (by omega)).trans Hm.out
        clear Hm
        go_wp2_with (go_at_call 85; refine (refMul_any x 2 hx (by decide) _).mono ?_; rintro e w' ⟨rfl, rfl⟩)
        go_round
        case rel => exact ⟨m - 1, gmul x 2, by omega, hx2, by go_num, rfl, Hr⟩
        case measure => simp [intOf]; omega
end Go.Proofs.Ytadfimimkkimmaa
end
section
set_option maxRecDepth 20000
namespace Go.Proofs.Ytadfimimkkimmaa
open Go.RowKit

theorem refMul_u8 (x : UInt8) (f : Nat) (hf : f < 256) (w : World) : Calls Try.prog 85 #[.int .u8 (x.toNat : Int), .int .u8 (f : Int)] w fun e w' => e = .returned (.int .u8 ((mulU x f).toNat : Int)) ∧ w' = w := by
  rw [mulU_nat]
  exact refMul_any x.toNat f x.toNat_lt hf w
set_option maxHeartbeats 400000 in
theorem alike_any (A : Option Addr) (rs : List (List UInt8)) (n cp : Nat) (w : World) (hn : rs.length = n) (hr : RdR w w.heap.size A rs) :
    Calls Try.prog 83 #[.slice A n cp] w fun e w' => e = .returned (.bool (alikeB rs)) ∧ w' = w := by
  subst hn
  have hm := hr.1
  by_cases h0 : rs.length = 0
  · have hz := Lib.hid (show alikeB rs = false by rw [List.eq_nil_of_length_eq_zero h0]; rfl)
    have Hz := Lib.hid h0
    clear h0
    go_enter Try.func83, Try.ntmps83
    rw [Hz.out]
    go_wp2
    go_loop [7] (fun i => i = .int .i64 0) (fun _ => 0)
    case atStart => rfl
    case round =>
      subst hrel
      go_wp2
      go_ret
      exact ⟨by rw [hz.out]; rfl, rfl⟩
  · obtain ⟨b, off, rfl, hb, hc⟩ := hr.2 (by omega)
    have Hc := Lib.hid hc
    obtain ⟨A0, c0, k0, r0⟩ := hc 0 (by omega)
    have Hno := Lib.hid (fun k => @alikeB_no rs k)
    have Hyes := Lib.hid (@alikeB_iff rs)
    have hN := r0.1
    rw [Nat.add_zero] at k0
    have i0 : (0 : Int) < (rs.length : Int) := by omega
    have i1 : 0 < rs.length := by omega
    generalize (rs.getD 0 []).length = N at k0 hN Hno Hyes
    clear hc h0 hr r0
    go_enter Try.func83, Try.ntmps83
    go_wp2
    go_loop [7] (fun i => ∃ k : Nat, k ≤ rs.length ∧ i = .int .i64 k ∧ Hid (∀ j, j < k → (rs.getD j []).length = N)) (fun i => rs.length - (intOf i).toNat)
    case atStart => exact ⟨0, Nat.zero_le _, rfl, fun j hj => by omega⟩
    case round =>
      obtain ⟨k, hk, rfl, Hj⟩ := hrel
      by_cases hlt : k < rs.length
      · obtain ⟨A', c', h1, h2⟩ := Hc.out k hlt
        have Hno := Lib.hid (Hno.out k hlt)
        by_cases he : (rs.getD k []).length = N
        · have Hn : Hid (∀ j, j < k + 1 → (rs.getD j []).length = N) := fun j hj => by
            by_cases hjk : j = k
            · subst hjk; exact he
            · exact Hj.out j (by omega)
          rw [he] at h1
          clear h2 he
          go_wp2
          go_round
          case rel => exact ⟨k + 1, by omega, by go_num, Hn⟩
          case measure => simp [intOf]; omega
        · have hz := Lib.hid (Hno.out he)
          have hne := int_bne_yes he
          clear he
          generalize rs.getD k [] = row at h1 h2 hne
          go_wp2
          go_ret
          exact ⟨by rw [hz.out]; rfl, rfl⟩
      · obtain rfl : k = rs.length := by omega
        have hz := Lib.hid (Hyes.out.2 ⟨i1, Hj.out⟩)
        go_wp2
        go_ret
        exact ⟨by rw [hz.out]; rfl, rfl⟩

set_option maxHeartbeats 800000 in
theorem refP_any (A : Option Addr) (rs : List (List UInt8)) (n cp : Nat) (w : World) (hn : rs.length = n) (hr : RdR w w.heap.size A rs) :
    Calls Try.prog 58 #[.slice A n cp] w fun e w' => ∃ v, e = .returned v ∧ OwB 5 w' w.heap.size v (pB rs) ∧ Below w.heap.size w w' := by
  have C := Lib.hid (alike_any A rs n cp w hn hr)
  subst hn
  have hm := hr.1
  by_cases h0 : alikeB rs = true
  · obtain ⟨hp, hall⟩ := alikeB_iff.1 h0
    have Hs : Hid (pB rs = foldG gP 0 (zeroL (rs.getD 0 []).length) rs) := if_pos h0
    rw [h0] at C
    clear h0
    have Hall := Lib.hid hall
    obtain ⟨b, off, rfl, hbb, hc⟩ := hr.2 hp
    have Hc := Lib.hid hc
    obtain ⟨A0, c0, k0, r0⟩ := hc 0 hp
    have hN := r0.1
    rw [Nat.add_zero] at k0
    have i0 : (0 : Int) < (rs.length : Int) := by omega
    have Hf := Lib.hid (foldG_snoc gP (zeroL (rs.getD 0 []).length) rs)
    have Hl := Lib.hid (foldG_take_len gP_len (z := zeroL (rs.getD 0 []).length) (fun k hk => (hall k hk).trans (zeroL_len _).symm))
    rw [zeroL_len] at Hl
    have own0 := own_make 5 w (rs.getD 0 []).length hN
    have km := make_bytes (rs.getD 0 []).length hN
    rw [show List.replicate (rs.getD 0 []).length (0 : UInt8) = zeroL (rs.getD 0 []).length from rfl] at own0
    clear hc hall hr r0
    generalize (rs.getD 0 []).length = N at Hs Hall k0 hN Hf Hl own0 km
    generalize zeroL N = zs at Hs Hf Hl own0
    go_enter Try.func58, Try.ntmps58
    go_wp2_with fail
    refine C.out.mono ?_
    rintro e w1 ⟨rfl, rfl⟩
    go_wp2
    go_loopw [18] (fun i wr => ∃ k : Nat, k ≤ rs.length ∧ i = .int .i64 k ∧ OwB 5 wr w1.heap.size (.slice (some ⟨w1.heap.size, 0, none⟩) N N) (foldG gP 0 zs (rs.take k)) ∧ Below w1.heap.size w1 wr) (fun i _ => rs.length - (intOf i).toNat)
    case atStart => exact ⟨0, Nat.zero_le _, rfl, own0, below1 _ _⟩
    case round =>
      obtain ⟨k, hk, rfl, hown, hbr⟩ := hrel
      have Hy := Lib.hid (Hl.out k)
      by_cases hlt : k < rs.length
      · obtain ⟨A', c', h1, h2⟩ := Hc.out k hlt
        have Hsn := Lib.hid (Hf.out k hlt)
        have hln := Hall.out k hlt
        rw [hln] at h1
        have Hln := Lib.hid hln
        clear hln
        rw [← hbr.cell (p := ⟨b, off + k, none⟩) hbb] at h1
        generalize rs.getD k [] = row at h1 h2 Hsn Hln
        generalize foldG gP 0 zs (rs.take k) = y at hown Hsn Hy
        have hlen := h2.1
        go_wp2
        go_loopw [24] (fun i wr => ∃ j : Nat, j ≤ N ∧ i = .int .i64 j ∧ OwB 5 wr w1.heap.size (.slice (some ⟨w1.heap.size, 0, none⟩) N N) (xorTo y row j) ∧ Below w1.heap.size w1 wr) (fun i _ => N - (intOf i).toNat)
        case atStart => exact ⟨0, Nat.zero_le _, rfl, by rw [xorTo_zero]; exact hown, hbr⟩
        case round =>
          obtain ⟨j, hj, rfl, hown2, hbr2⟩ := hrel
          have Hry := Lib.hid (show row.length = y.length from Hln.out.trans Hy.out.symm)
          by_cases hlt2 : j < N
          · obtain ⟨b2, off2, rfl, hb2, hc2⟩ := h2.2 (by have := Hln.out; omega)
            have h3 := hc2 j (by have := Hln.out; omega)
            rw [← hbr2.cell (p := ⟨b2, off2 + j, none⟩) hb2] at h3
            obtain ⟨h4, h5⟩ := hown2.cell ((xorTo_len Hry.out (by have := Hy.out; omega)).trans Hy.out) j hlt2
            rw [xorTo_get Hry.out (by have := Hy.out; omega)] at h4
            have Hset := Lib.hid (hown2.set ((xorTo_len Hry.out (by have := Hy.out; omega)).trans Hy.out) j (y.getD j 0 ^^^ row.getD j 0)).1
            have Hx := Lib.hid (xorTo_succ Hry.out (show j < y.length by have := Hy.out; omega))
            have ex := xor_u8 (y.getD j 0) (row.getD j 0)
            have i0 : (0 : Int) ≤ (j : Int) := by omega
            have i1 : (j : Int) < (N : Int) := by omega
            generalize row.getD j 0 = c at h3 Hset Hx ex
            generalize y.getD j 0 = d at h4 Hset Hx ex
            generalize d ^^^ c = dc at Hset Hx ex
            clear hc2
            go_wp2
            go_roundw
            case rel => exact ⟨j + 1, by omega, by go_num, by rw [← Hx.out]; exact Hset.out, hbr2.setCell (p := ⟨w1.heap.size, j, none⟩) (Nat.le_refl _) _⟩
            case measure => simp [intOf]; omega
          · obtain rfl : j = N := by omega
            have Hxa := Lib.hid (show xorTo y row j = xorL y row by rw [← Hy.out]; exact xorTo_all Hry.out)
            rw [Hxa.out] at hown2
            go_wp2
            go_roundw
            case rel => exact ⟨k + 1, by omega, by go_num, by rw [Hsn.out]; exact hown2, hbr2⟩
            case measure => simp [intOf]; omega
      · obtain rfl : k = rs.length := by omega
        have Hall2 := Lib.hid (show foldG gP 0 zs (rs.take rs.length) = pB rs by rw [List.take_length]; exact Hs.out.symm)
        rw [Hall2.out] at hown
        go_wp2
        go_ret
        exact ⟨_, rfl, hown, hbr⟩
  · have hz : alikeB rs = false := by simpa using h0
    have Hp : Hid (pB rs = []) := if_neg h0
    rw [hz] at C
    clear hz h0
    go_enter Try.func58, Try.ntmps58
    go_wp2_with fail
    refine C.out.mono ?_
    rintro e w1 ⟨rfl, rfl⟩
    go_wp2
    go_ret
    exact ⟨_, rfl, nil_own _ _ Hp.out, Below.refl _ _⟩

set_option maxHeartbeats 800000 in
theorem refQ_any (A : Option Addr) (rs : List (List UInt8)) (n cp : Nat) (w : World) (hn : rs.length = n) (hr : RdR w w.heap.size A rs) :
    Calls Try.prog 59 #[.slice A n cp] w fun e w' => ∃ v, e = .returned v ∧ OwB 5 w' w.heap.size v (qB rs) ∧ Below w.heap.size w w' := by
  have C := Lib.hid (alike_any A rs n cp w hn hr)
  subst hn
  have hm := hr.1
  by_cases h0 : alikeB rs = true
  · obtain ⟨hp, hall⟩ := alikeB_iff.1 h0
    have Hs : Hid (qB rs = foldG gQ 0 (zeroL (rs.getD 0 []).length) rs) := if_pos h0
    rw [h0] at C
    clear h0
    have Hall := Lib.hid hall
    obtain ⟨b, off, rfl, hbb, hc⟩ := hr.2 hp
    have Hc := Lib.hid hc
    obtain ⟨A0, c0, k0, r0⟩ := hc 0 hp
    have hN := r0.1
    rw [Nat.add_zero] at k0
    have i0 : (0 : Int) < (rs.length : Int) := by omega
    have Hf := Lib.hid (foldG_snoc gQ (zeroL (rs.getD 0 []).length) rs)
    have Hl := Lib.hid (foldG_take_len gQ_len (z := zeroL (rs.getD 0 []).length) (fun k hk => (hall k hk).trans (zeroL_len _).symm))
    rw [zeroL_len] at Hl
    have own0 := own_make 5 w (rs.getD 0 []).length hN
    have km := make_bytes (rs.getD 0 []).length hN
    rw [show List.replicate (rs.getD 0 []).length (0 : UInt8) = zeroL (rs.getD 0 []).length from rfl] at own0
    clear hc hall hr r0
    generalize (rs.getD 0 []).length = N at Hs Hall k0 hN Hf Hl own0 km
    generalize zeroL N = zs at Hs Hf Hl own0
    go_enter Try.func59, Try.ntmps59
    go_wp2_with fail
    refine C.out.mono ?_
    rintro e w1 ⟨rfl, rfl⟩
    go_wp2
    go_loopw [19] (fun i wr => ∃ k : Nat, k ≤ rs.length ∧ i = .int .i64 k ∧ OwB 5 wr w1.heap.size (.slice (some ⟨w1.heap.size, 0, none⟩) N N) (foldG gQ 0 zs (rs.take k)) ∧ Below w1.heap.size w1 wr) (fun i _ => rs.length - (intOf i).toNat)
    case atStart => exact ⟨0, Nat.zero_le _, rfl, own0, below1 _ _⟩
    case round =>
      obtain ⟨k, hk, rfl, hown, hbr⟩ := hrel
      have Hy := Lib.hid (Hl.out k)
      by_cases hlt : k < rs.length
      · obtain ⟨A', c', h1, h2⟩ := Hc.out k hlt
        have Hsn := Lib.hid (show foldG gQ 0 zs (rs.take (k + 1)) = xorL (foldG gQ 0 zs (rs.take k)) (scaleL (rs.getD k []) (gpow (k : Int))) from Hf.out k hlt)
        have hln := Hall.out k hlt
        rw [hln] at h1
        have Hln := Lib.hid hln
        clear hln
        rw [← hbr.cell (p := ⟨b, off + k, none⟩) hbb] at h1
        generalize rs.getD k [] = row at h1 h2 Hsn Hln
        generalize foldG gQ 0 zs (rs.take k) = y at hown Hsn Hy
        have hlen := h2.1
        have CP := Lib.hid (fun W => refPow_any (k : Int) (by omega) W)
        have hfp := gpow_lt (k : Int)
        generalize gpow (k : Int) = f at CP Hsn hfp
        go_wp2_with fail
        refine (CP.out _).mono ?_
        rintro e w2 ⟨rfl, rfl⟩
        go_wp2
        go_loopw [28] (fun i wr => ∃ j : Nat, j ≤ N ∧ i = .int .i64 j ∧ OwB 5 wr w1.heap.size (.slice (some ⟨w1.heap.size, 0, none⟩) N N) (xorTo y (scaleL row f) j) ∧ Below w1.heap.size w1 wr) (fun i _ => N - (intOf i).toNat)
        case atStart => exact ⟨0, Nat.zero_le _, rfl, by rw [xorTo_zero]; exact hown, hbr⟩
        case round =>
          obtain ⟨j, hj, rfl, hown2, hbr2⟩ := hrel
          have Hry := Lib.hid (show (scaleL row f).length = y.length from (scaleL_len _ _).trans (Hln.out.trans Hy.out.symm))
          by_cases hlt2 : j < N
          · obtain ⟨b2, off2, rfl, hb2, hc2⟩ := h2.2 (by have := Hln.out; omega)
            have h3 := hc2 j (by have := Hln.out; omega)
            rw [← hbr2.cell (p := ⟨b2, off2 + j, none⟩) hb2] at h3
            have hown3 := hown2.drewI
            have hbr3 := hbr2.drew
            obtain ⟨h4, h5⟩ := hown3.cell ((xorTo_len Hry.out (by have := Hy.out; omega)).trans Hy.out) j hlt2
            rw [xorTo_get Hry.out (by have := Hy.out; omega)] at h4
            have Hset := Lib.hid (hown3.set ((xorTo_len Hry.out (by have := Hy.out; omega)).trans Hy.out) j (y.getD j 0 ^^^ (scaleL row f).getD j 0)).1
            have Hx := Lib.hid (xorTo_succ Hry.out (show j < y.length by have := Hy.out; omega))
            rw [scaleL_get] at Hset Hx
            have i0 : (0 : Int) ≤ (j : Int) := by omega
            have i1 : (j : Int) < (N : Int) := by omega
            generalize row.getD j 0 = c at h3 Hset Hx
            have CM := Lib.hid (fun W => refMul_u8 c f hfp W)
            generalize mulU c f = m at CM Hset Hx
            have ex := xor_u8 (y.getD j 0) m
            generalize y.getD j 0 = d at h4 Hset Hx ex
            generalize d ^^^ m = dc at Hset Hx ex
            clear hc2
            go_wp2_with fail
            refine wp_region_still_tail 9 (by kernel_rfl) (by kernel_rfl) ?_
            simp only [List.take_succ_cons, List.take_zero, List.drop_succ_cons, List.drop_zero]
            change wpStill _ _ wr.drew _ _ _
            generalize hwd : wr.drew = wd at h4 h5 Hset hbr3 hown3 ⊢
            have Hwd := Lib.hid hwd
            clear hwd
            repeat (first | still_step | (still_call (CM.out _)))
            refine wpStill_nil ?_
            change wpList _ _ _ _ _ wr.drew
            rw [Hwd.out]
            go_wp2
            go_roundw
            case rel => exact ⟨j + 1, by omega, by go_num, by rw [← Hx.out]; exact Hset.out, hbr3.setCell (p := ⟨w1.heap.size, j, none⟩) (Nat.le_refl _) _⟩
            case measure => simp [intOf]; omega
          · obtain rfl : j = N := by omega
            have Hxa := Lib.hid (show xorTo y (scaleL row f) j = xorL y (scaleL row f) by rw [← Hy.out]; exact xorTo_all Hry.out)
            rw [Hxa.out] at hown2
            go_wp2
            go_roundw
            case rel => exact ⟨k + 1, by omega, by go_num, by rw [Hsn.out]; exact hown2, hbr2⟩
            case measure => simp [intOf]; omega
      · obtain rfl : k = rs.length := by omega
        have Hall2 := Lib.hid (show foldG gQ 0 zs (rs.take rs.length) = qB rs by rw [List.take_length]; exact Hs.out.symm)
        rw [Hall2.out] at hown
        go_wp2
        go_ret
        exact ⟨_, rfl, hown, hbr⟩
  · have hz : alikeB rs = false := by simpa using h0
    have Hp : Hid (qB rs = []) := if_neg h0
    rw [hz] at C
    clear hz h0
    go_enter Try.func59, Try.ntmps59
    go_wp2_with fail
    refine C.out.mono ?_
    rintro e w1 ⟨rfl, rfl⟩
    go_wp2
    go_ret
    exact ⟨_, rfl, nil_own _ _ Hp.out, Below.refl _ _⟩
end Go.Proofs.Ytadfimimkkimmaa
end
section
namespace Go.Proofs.Ytadfimimkkimmaa
open Go.RowKit

section
variable {P : Program} {ops : Array Oper} {Q : Exit → Act → World → Prop} {md : Region.Mode} {S : World → Prop} {n : Nat}
/-- Whatever order is picked, S holds behind each operation but those from n on. -/
def anyE (P : Program) (md : Region.Mode) (ops : Array Oper) (Q : Exit → Act → World → Prop) (S : World → Prop) (n : Nat) : Nat → Array Bool → Act → World → Prop
  | 0, listed, a, w => Region.ready md ops listed = [] ∧ Q .normal a w
  | f + 1, listed, a, w => (Region.ready md ops listed = [] → Q .normal a w) ∧
    ∀ i ∈ Region.ready md ops listed, wpOp P ops Q i (fun a' w' => (i < n → S w') ∧ anyE P md ops Q S n f (listed.setIfInBounds i true) a' w') a w
theorem any_of_E : ∀ (f : Nat) (listed : Array Bool) (a : Act) (w : World), anyE P md ops Q S n f listed a w → wpAny P md ops Q f listed a w
  | 0, _, _, _, h => h
  | f + 1, _, _, _, h => ⟨h.1, fun i hi => wpOp_mono (fun a' w' h' => any_of_E f _ a' w' h'.2) (h.2 i hi)⟩
theorem anyE_first {i : Nat} {oi : Oper} {v : Value} (hi : ops[i]? = some oi) (hsel : ∀ (j : Nat) (o : Oper) cs b, ops[j]? = some o → o.op ≠ .select cs b) (hQ : ∀ c a w, Q (.panic c) (a.put oi.dst v) w → Q (.panic c) a w)
    (hs : Region.sinkB md ops n = true) (hc : Region.chainB md ops n = true) (hn : n < ops.size) (hin : i < n) :
    ∀ (f : Nat) (listed : Array Bool) (a : Act) (w : World), HeadInv md ops n listed →
      (∀ j oj, ops[j]? = some oj → j ≠ i → listed.getD j true = false → (∀ e ∈ oj.after, Region.binds md e = true → e.on ≠ i) → oi.apart ops oj = true) →
      i ∈ Region.ready md ops listed → YieldsIf P ops S oi v a → S w →
      anyE P md ops Q S n f (listed.setIfInBounds i true) (a.put oi.dst v) w → anyE P md ops Q S n (f + 1) listed a w := by
  intro f
  induction f with
  | zero =>
    intro listed a w _ _ hr hy hS H
    refine ⟨fun h => (by rw [h] at hr; cases hr), fun j hj => ?_⟩
    by_cases hji : j = i
    · subst hji; exact hy.wpOp hi hS ⟨fun _ => hS, H⟩
    · have h1 := ready_mono (i := i) hj hji
      rw [H.1] at h1
      cases h1
  | succ f ih =>
    intro listed a w inv hfree hr hy hS H
    have hun := (mem_ready.1 hr).1
    refine ⟨fun h => (by rw [h] at hr; cases hr), fun j hj => ?_⟩
    have hjn : j < n := Nat.lt_of_not_le fun h => tail_waits hs hc hn inv _ i rfl hin hun j h hj
    by_cases hji : j = i
    · subst hji; exact hy.wpOp hi hS ⟨fun _ => hS, H⟩
    · obtain ⟨hjun, oj, hoj, hall⟩ := mem_ready.1 hj
      have hnot : ∀ e ∈ oj.after, Region.binds md e = true → e.on ≠ i := fun e he hb heq => by
        have h1 := hall e he hb
        rw [heq, getD_both hun] at h1
        cases h1
      have hap := hfree j oj hoj hji hjun hnot
      have h2 := wpOp_putIf hoj hap (fun cs b => hsel i oi cs b hi) (fun cs b => hsel j oj cs b hoj) hQ hy (H.2 j (ready_mono hj hji))
      refine wpOp_mono (fun a' w' h3 => ⟨h3.2.1, ?_⟩) h2
      refine ih (listed.setIfInBounds j true) a' w' (inv.set hj hjn) (fun k ok hk hki hku hno => hfree k ok hk hki ?_ hno) (ready_mono hr (Ne.symm hji)) h3.1 (h3.2.1 hjn) ?_
      · by_cases hjk : j = k
        · subst hjk; exact hjun
        · rw [getD_set_ne true hjk] at hku; exact hku
      · rw [Array.setIfInBounds_comm _ _ hji]
        exact h3.2.2
/-- These operations, one by one, each of which yields wherever S holds. -/
def takesE (P : Program) (ops : Array Oper) (S : World → Prop) (K : Act → Prop) : List Oper → Act → Prop
  | [], a => K a
  | o :: rest, a => ∃ v, YieldsIf P ops S o v a ∧ takesE P ops S K rest (a.put o.dst v)
/-- One operation. -/
def opE (P : Program) (ops : Array Oper) (Q : Exit → Act → World → Prop) (o : Oper) (K : Act → World → Prop) (a : Act) (w : World) : Prop :=
  if Region.wanted o (yielded ops a.tmps) then o.wp P a w K Q ∨ (o.asks P a w ∧ LetsOut Q) else K (a.put o.dst undef) w
/-- The rest, one by one; S holds behind each but the last. -/
def listE (P : Program) (ops : Array Oper) (Q : Exit → Act → World → Prop) (S : World → Prop) : List Oper → Act → World → Prop
  | [], a, w => Q .normal a w
  | o :: rest, a, w => opE P ops Q o (fun a' w' => (rest ≠ [] → S w') ∧ listE P ops Q S rest a' w') a w
theorem wpOp_of_opE {i : Nat} {o : Oper} {K : Act → World → Prop} {a : Act} {w : World} (hi : ops[i]? = some o) (h : opE P ops Q o K a w) : wpOp P ops Q i K a w := by
  unfold opE at h
  unfold wpOp
  simp only [hi]
  split at h
  · rename_i hw; simp only [hw, if_true]; exact h
  · rename_i hw; simp only [hw]; exact h
theorem anyE_of_list : ∀ (l : List Oper) (k : Nat) (listed : Array Bool) (a : Act) (w : World), (∀ j, l[j]? = ops[k + j]?) → (l = [] ∨ k + l.length = n + 1) →
    Region.seqB md ops l.length k listed = true → listE P ops Q S l a w → anyE P md ops Q S n l.length listed a w
  | [], k, listed, a, w, _, _, hB, h => ⟨by simpa [Region.seqB] using hB, h⟩
  | o :: l, k, listed, a, w, hl, hk, hB, h => by
    have h0 : ops[k]? = some o := by simpa using (hl 0).symm
    have hk' : k + (l.length + 1) = n + 1 := by
      rcases hk with h | h
      · cases h
      · simpa using h
    simp only [List.length_cons, Region.seqB, Bool.and_eq_true, decide_eq_true_eq] at hB
    refine ⟨fun h1 => (by rw [hB.1] at h1; cases h1), fun i hi => ?_⟩
    rw [hB.1] at hi
    obtain rfl : i = k := by simpa using hi
    refine wpOp_mono (fun a' w' h' => ⟨fun hin => h'.1 (by intro e; subst e; simp at hk'; omega), ?_⟩) (wpOp_of_opE h0 h)
    refine anyE_of_list l (i + 1) _ a' w' (fun j => by have := hl (j + 1); simpa [Nat.add_assoc, Nat.add_comm 1 j] using this) ?_ hB.2 h'.2
    by_cases he : l = []
    · exact .inl he
    · exact .inr (by omega)
theorem anyE_of_takes {g k0 : Nat} (hsel : ∀ (j : Nat) (o : Oper) cs b, ops[j]? = some o → o.op ≠ .select cs b) (hQ : ∀ c a d v w, Q (.panic c) (Act.put a d v) w → Q (.panic c) a w)
    (hs : Region.sinkB md ops n = true) (hc : Region.chainB md ops n = true) (hn : n < ops.size) (hkn : k0 ≤ n) {w : World} (hS : S w) {K : Act → Prop}
    (hK : ∀ listed a, Region.seqB md ops g k0 listed = true → K a → anyE P md ops Q S n g listed a w) :
    ∀ (l : List Oper) (k : Nat) (listed : Array Bool) (a : Act), (∀ j, j < l.length → l[j]? = ops[k + j]?) → k + l.length = k0 → HeadInv md ops n listed → Region.lexHead md ops g l.length k listed = true →
    takesE P ops S K l a → anyE P md ops Q S n (l.length + g) listed a w
  | [], k, listed, a, _, hk, _, hB, h => by
    obtain rfl : k = k0 := by simpa using hk
    rw [List.length_nil, Nat.zero_add]
    exact hK listed a (by simpa [Region.lexHead] using hB) h
  | o :: l, k, listed, a, hl, hk, inv, hB, h => by
    have h0 : ops[k]? = some o := by simpa using (hl 0 (by simp)).symm
    simp only [List.length_cons, Region.lexHead, Bool.and_eq_true] at hB
    obtain ⟨⟨hr, hf⟩, hB'⟩ := hB
    have hkn' : k < n := by simp only [List.length_cons] at hk; omega
    have hr' : k ∈ Region.ready md ops listed := by simpa using hr
    obtain ⟨v, hy, hT⟩ := h
    have ih := anyE_of_takes hsel hQ hs hc hn hkn hS hK l (k + 1) (listed.setIfInBounds k true) (a.put o.dst v) (fun j hj => by have := hl (j + 1) (by simp; omega); simpa [Nat.add_assoc, Nat.add_comm 1 j] using this)
      (by simp only [List.length_cons] at hk; omega) (inv.set hr' hkn') hB' hT
    rw [List.length_cons, show l.length + 1 + g = (l.length + g) + 1 by omega]
    exact anyE_first h0 hsel (fun c a w h => hQ c a _ _ w h) hs hc hn hkn' _ listed a w inv (Region.free_spec h0 hf) hr' hy hS ih
def takeB (md : Region.Mode) (ops : Array Oper) (k : Nat) : Bool :=
  Region.noSelect ops && decide (k < ops.size) && Region.sinkB md ops (ops.size - 1) && Region.chainB md ops (ops.size - 1) && Region.lexHead md ops (ops.size - k) k 0 (Array.replicate ops.size false)
theorem region_take {id : Nat} {a : Act} {w : World} {l : List Oper} (k : Nat) (S : World → Prop) (hm : P.follows .mixedOrders = true) (hB : takeB .any l.toArray k = true) (hQ : ∀ c a d v w, Q (.panic c) (Act.put a d v) w → Q (.panic c) a w)
    (hS : S w.drew) (h : takesE P l.toArray S (fun a' => listE P l.toArray Q S (l.drop k) a' w.drew) (l.take k) a) : (Code.region id l.toArray true).wp P Q a w := by
  simp only [takeB, Bool.and_eq_true, decide_eq_true_eq] at hB
  obtain ⟨⟨⟨⟨hsel, hk⟩, hs⟩, hc⟩, hlex⟩ := hB
  have hk' : k < l.length := by simpa using hk
  have hsz : l.toArray.size = l.length := by simp
  have htl : (l.take k).length = k := by simp; omega
  have hdl : (l.drop k).length = l.toArray.size - k := by simp
  have inv0 : HeadInv .any l.toArray (l.toArray.size - 1) (Array.replicate l.toArray.size false) :=
    ⟨by simp, fun j oj _ hl => (by rw [getD_replicate_false] at hl; cases hl), fun t _ ht => getD_in (by simpa using ht) (getD_replicate_false _ _)⟩
  refine wp_region_any hm (any_of_E (S := S) (n := l.toArray.size - 1) _ _ _ _ ?_)
  have := anyE_of_takes (md := .any) (P := P) (Q := Q) (S := S) (n := l.toArray.size - 1) (g := l.toArray.size - k) (k0 := k) (Region.noSelect_spec hsel) hQ hs hc (by omega) (by omega) (w := w.drew) hS
    (K := fun a' => listE P l.toArray Q S (l.drop k) a' w.drew) (fun listed a' hseq hK => by
      have := anyE_of_list (md := .any) (P := P) (Q := Q) (S := S) (n := l.toArray.size - 1) (l.drop k) k listed a' w.drew (fun j => by simp [List.getElem?_drop]) (.inr (by rw [hdl]; omega)) (by rw [hdl]; exact hseq) hK
      rwa [hdl] at this) (l.take k) 0 _ a (fun j hj => by
      have hj' : j < k := by rw [htl] at hj; exact hj
      simp [hj']) (by simpa using htl) inv0 (by rw [htl]; exact hlex) h
  rw [htl, show k + (l.toArray.size - k) = l.toArray.size by omega] at this
  exact this
/-! The moves. -/
theorem take_of {o : Oper} {rest : List Oper} {K : Act → Prop} {a : Act} {v : Value} (hw : Region.wanted o (yielded ops a.tmps) = true) (hv : ∀ w, S w → (execOp a.eval o).run P w = .ok (.value v) w) (h : takesE P ops S K rest (a.put o.dst v)) : takesE P ops S K (o :: rest) a :=
  ⟨v, .inl ⟨hw, hv⟩, h⟩
theorem take_mid {op : Oper} {rest : List Oper} {K : Act → Prop} {a : Act} (hw : Region.wanted op (yielded ops a.tmps) = true) (ty : TypeId) (x : Operand) (ho : op.op = .load ty x) (b o : Nat) (hx : a.eval x = .pointer (some ⟨b, o, none⟩)) (cs : List Value) (d : TypeDesc)
    (hS : ∀ w, S w → w.rangeAt b o cs) (hu : P.underlying ty = some d) (hd : d.isRow = true) (hi : (P.info? ty).map (·.size) = some cs.length) (h : takesE P ops S K rest (a.put op.dst (.agg cs.toArray))) : takesE P ops S K (op :: rest) a :=
  ⟨_, yieldsIf_load_mid hw ty x ho b o hx cs d hS hu hd hi, h⟩
/-- The last operation. -/
theorem listE_last {o : Oper} {a : Act} {w : World} (h : wpList P ops Q [o] a w) : listE P ops Q S [o] a w := by
  unfold listE opE
  have h' : (if Region.wanted o (yielded ops a.tmps) then o.wp P a w (wpList P ops Q []) Q ∨ (o.asks P a w ∧ LetsOut Q) else wpList P ops Q [] (a.put o.dst undef) w) := h
  split at h'
  · rename_i hw; rw [if_pos hw]; exact h'.imp (Oper.wp_mono fun a w h => ⟨fun e => absurd rfl e, h⟩) id
  · rename_i hw; rw [if_neg hw]; exact ⟨fun e => absurd rfl e, h'⟩
/-- An operation ahead of the last. -/
theorem listE_step {o o2 : Oper} {rest : List Oper} {a : Act} {w : World} (h : ∀ K : Act → World → Prop, (∀ a' w', S w' → listE P ops Q S (o2 :: rest) a' w' → K a' w') → if Region.wanted o (yielded ops a.tmps) = true then o.wp P a w K Q else K (a.put o.dst undef) w) : listE P ops Q S (o :: o2 :: rest) a w := by
  have h' := h (fun a' w' => (o2 :: rest ≠ [] → S w') ∧ listE P ops Q S (o2 :: rest) a' w') fun a' w' h1 h2 => ⟨fun _ => h1, h2⟩
  rw [listE, opE]
  split at h'
  · rename_i hw; rw [if_pos hw]; exact .inl h'
  · rename_i hw; rw [if_neg hw]; exact h'
end
end Go.Proofs.Ytadfimimkkimmaa
end
