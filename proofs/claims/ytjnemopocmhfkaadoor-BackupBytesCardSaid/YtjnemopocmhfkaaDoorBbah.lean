/- Texts put together: PartsOwn, EraseBits, RefCrc. -/
import Derived.Test.YtjnemopocmhfkaaDoorBbab
import Derived.Test.YtjnemopocmhfkaaDoorBbaf
import Derived.Test.YtjnemopocmhfkaaDoorBbad
import Derived.Test.YtjnemopocmhfkaaDoorBbaa
import Derived.Deep.DeepMust
section
namespace Go.Proofs.YtjnemopocmhfkaaDoor
open Go.RowKit

/-- A slice of bytes in a block from lo on. -/
def RdBF (lo : Nat) (w : World) (A : Option Addr) (bs : List UInt8) : Prop :=
  bs.length ≤ 140737488355328 ∧ (0 < bs.length → ∃ b off, A = some ⟨b, off, none⟩ ∧ b < w.heap.size ∧ lo ≤ b ∧ ∀ k, k < bs.length → w.cell? ⟨b, off + k, none⟩ = some (.int .u8 ((bs.getD k 0).toNat : Int)))
def RdF (lo : Nat) (w : World) (A : Option Addr) (rs : List (List UInt8)) : Prop :=
  rs.length ≤ 140737488355328 ∧ (0 < rs.length → ∃ b off, A = some ⟨b, off, none⟩ ∧ b < w.heap.size ∧ lo ≤ b ∧ ∀ k, k < rs.length → ∃ A' c, w.cell? ⟨b, off + k, none⟩ = some (.slice A' (rs.getD k []).length c) ∧ RdBF lo w A' (rs.getD k []))
theorem RdBF.rdb {lo : Nat} {w : World} {A : Option Addr} {bs : List UInt8} (h : RdBF lo w A bs) : RdB w w.heap.size A bs :=
  ⟨h.1, fun h0 => by
    obtain ⟨b, off, e, hb, _, hc⟩ := h.2 h0
    exact ⟨b, off, e, hb, hc⟩⟩
theorem RdF.rdr {lo : Nat} {w : World} {A : Option Addr} {rs : List (List UInt8)} (h : RdF lo w A rs) : RdR w w.heap.size A rs :=
  ⟨h.1, fun h0 => by
    obtain ⟨b, off, e, hb, _, hc⟩ := h.2 h0
    refine ⟨b, off, e, hb, fun k hk => ?_⟩
    obtain ⟨A', c, h1, h2⟩ := hc k hk
    exact ⟨A', c, h1, h2.rdb⟩⟩
theorem RdBF.keep {lo : Nat} {w w' : World} {A : Option Addr} {bs : List UInt8} (h : RdBF lo w A bs) (hz : w.heap.size ≤ w'.heap.size) (hk : ∀ p : Addr, lo ≤ p.block → p.block < w.heap.size → w'.cell? p = w.cell? p) : RdBF lo w' A bs :=
  ⟨h.1, fun h0 => by
    obtain ⟨b, off, e, hb, hl, hc⟩ := h.2 h0
    exact ⟨b, off, e, by omega, hl, fun k hk' => (hk ⟨b, off + k, none⟩ hl hb).trans (hc k hk')⟩⟩
theorem RdBF.le {lo lo' : Nat} {w : World} {A : Option Addr} {bs : List UInt8} (h : RdBF lo w A bs) (hl : lo' ≤ lo) : RdBF lo' w A bs :=
  ⟨h.1, fun h0 => by
    obtain ⟨b, off, e, hb, hl2, hc⟩ := h.2 h0
    exact ⟨b, off, e, hb, by omega, hc⟩⟩
/-- Values that read as rows, none of them in block ob, all from lo on. -/
def RowsY (w : World) (lo : Nat) (ob : Option Nat) (xs : List Value) (rs : List (List UInt8)) : Prop :=
  xs.length = rs.length ∧ ∀ k, k < rs.length → ∃ A c, xs[k]? = some (.slice A (rs.getD k []).length c) ∧ RdBF lo w A (rs.getD k []) ∧ (0 < (rs.getD k []).length → ∀ a, A = some a → some a.block ≠ ob)
theorem RowsY.nil (w : World) (lo : Nat) (ob : Option Nat) : RowsY w lo ob [] [] := ⟨rfl, fun k hk => by simp at hk⟩
theorem RowsY.below {w w' : World} {lo : Nat} {ob : Option Nat} {xs : List Value} {rs : List (List UInt8)} (h : RowsY w lo ob xs rs) (hb : Below w.heap.size w w') : RowsY w' lo ob xs rs :=
  ⟨h.1, fun k hk => by
    obtain ⟨A, c, h1, h2, h3⟩ := h.2 k hk
    exact ⟨A, c, h1, h2.keep hb.size fun _ _ hp => hb.cell hp, h3⟩⟩
theorem RowsY.grown {w w' : World} {lo : Nat} {ob ob' : Option Nat} {xs : List Value} {rs : List (List UInt8)} (h : RowsY w lo ob xs rs) (hg : w.grownBy w' ob) (ho : ob' = ob ∨ ob' = some w.heap.size) : RowsY w' lo ob' xs rs :=
  ⟨h.1, fun k hk => by
    obtain ⟨A, c, h1, h2, h3⟩ := h.2 k hk
    refine ⟨A, c, h1, ⟨h2.1, fun h0 => ?_⟩, fun h0 a ha => ?_⟩
    · obtain ⟨b, off, e, hb, hl, hc⟩ := h2.2 h0
      have hne := h3 h0 _ e
      refine ⟨b, off, e, by have := hg.size; omega, hl, fun j hj => ?_⟩
      rw [← hc j hj]
      exact World.cell?_of_block (w := w) (hg.block b hb hne)
    · rcases ho with rfl | rfl
      · exact h3 h0 a ha
      · obtain ⟨b, off, e, hb, hl, hc⟩ := h2.2 h0
        rw [ha] at e
        injection e with e
        subst e
        intro e
        injection e with e
        simp at e
        omega⟩
theorem RowsY.snoc {w : World} {lo : Nat} {ob : Option Nat} {xs : List Value} {rs : List (List UInt8)} (h : RowsY w lo ob xs rs) {A : Option Addr} {c : Nat} {bs : List UInt8} (hr : RdBF lo w A bs) (hne : 0 < bs.length → ∀ a, A = some a → some a.block ≠ ob) : RowsY w lo ob (xs ++ [.slice A bs.length c]) (rs ++ [bs]) :=
  ⟨by simp [h.1], fun k hk => by
    by_cases hk2 : k < rs.length
    · obtain ⟨A', c', h1, h2, h3⟩ := h.2 k hk2
      have e : (rs ++ [bs]).getD k [] = rs.getD k [] := by simp [List.getElem?_append_left hk2]
      rw [e]
      exact ⟨A', c', by rw [List.getElem?_append_left (by rw [h.1]; exact hk2)]; exact h1, h2, h3⟩
    · have hk3 : k = rs.length := by simp at hk; omega
      subst hk3
      have e : (rs ++ [bs]).getD rs.length [] = bs := by simp
      rw [e]
      exact ⟨A, c, by rw [← h.1]; simp, hr, hne⟩⟩
/-- An own row of slices, read as rows, with its room. -/
theorem rdf_own {w : World} {base : Nat} {e : TypeId} {v : Value} {n : Nat} {xs : List Value} {rs : List (List UInt8)} {ob : Option Nat} (h : w.ownsRow base e 1 v n xs) (hl : rs.length ≤ 140737488355328) (hx : RowsY w base ob xs rs) :
    ∃ A cap, v = .slice A rs.length cap ∧ rs.length ≤ cap ∧ RdF base w A rs := by
  have hn : n = rs.length := by have := h.1; have := hx.1; omega
  subst hn
  rcases h.2 with ⟨rfl, h0⟩ | ⟨g, cap, cur, rfl, hb, hg, h3, _, _, htk⟩
  · exact ⟨none, 0, by rw [h0], by omega, hl, fun h => by omega⟩
  · refine ⟨_, cap, rfl, h3, hl, fun _ => ⟨g, 0, rfl, (Array.getElem?_eq_some_iff.1 hg).1, hb, fun k hk => ?_⟩⟩
    obtain ⟨A, c, h1, h2, _⟩ := hx.2 k hk
    refine ⟨A, c, ?_, h2⟩
    rw [← htk, List.getElem?_take, if_pos (by omega), Array.getElem?_toList] at h1
    rw [Nat.zero_add, cell_of_row w g k cur e (0, 0) hg]
    exact h1
theorem OwB.rdbf {e : TypeId} {w : World} {B : Nat} {A : Option Addr} {n c : Nat} {bs : List UInt8} (h : OwB e w B (.slice A n c) bs) : RdBF B w A bs :=
  ⟨h.2, fun h0 => by
    obtain ⟨b, off, e, hb, hc⟩ := h.rdS.1.2 h0
    exact ⟨b, off, e, hb, by have := h.addr_ob h0 _ e; simpa using this, hc⟩⟩
end Go.Proofs.YtjnemopocmhfkaaDoor
end
section
namespace Go.Proofs.YtjnemopocmhfkaaDoor
open Go.RowKit

theorem RowsY.set {w : World} {lo : Nat} {ob : Option Nat} {xs : List Value} {rs : List (List UInt8)} (h : RowsY w lo ob xs rs) (j : Nat) {A : Option Addr} {c : Nat} {bs : List UInt8} (hr : RdBF lo w A bs) (hne : 0 < bs.length → ∀ a, A = some a → some a.block ≠ ob) : RowsY w lo ob (xs.set j (.slice A bs.length c)) (rs.set j bs) :=
  ⟨by simp [h.1], fun k hk => by
    rw [List.length_set] at hk
    by_cases hkj : j = k
    · subst hkj
      have e : (rs.set j bs).getD j [] = bs := by simp [hk]
      rw [e]
      exact ⟨A, c, by simp [show j < xs.length by rw [h.1]; exact hk], hr, hne⟩
    · have e : (rs.set j bs).getD k [] = rs.getD k [] := by simp [List.getElem?_set_ne hkj]
      rw [e, List.getElem?_set_ne hkj]
      exact h.2 k hk⟩
/-- An own row of rows: its value, what it holds, all from base on. -/
def OwR (w : World) (base g n cap : Nat) (rs : List (List UInt8)) : Prop :=
  rs.length = n ∧ n ≤ cap ∧ base ≤ g ∧ ∃ xs, w.ownsRow base 48 1 (.slice (some ⟨g, 0, none⟩) n cap) n xs ∧ RowsY w base (some g) xs rs
section
variable {w w' : World} {base g n cap : Nat} {rs : List (List UInt8)}
theorem OwR.rdf (h : OwR w base g n cap rs) (hl : n ≤ 140737488355328) : RdF base w (some ⟨g, 0, none⟩) rs := by
  obtain ⟨h0, _, _, xs, h1, h2⟩ := h
  subst h0
  obtain ⟨A, c, hv, _, hr⟩ := rdf_own h1 hl h2
  injection hv with h3 _ _
  rw [h3]
  exact hr
theorem OwR.rdr (h : OwR w base g n cap rs) (hl : n ≤ 140737488355328) : RdR w w.heap.size (some ⟨g, 0, none⟩) rs := (h.rdf hl).rdr
/-- Its row j stored anew. -/
theorem OwR.set (h : OwR w base g n cap rs) (j : Nat) {A : Option Addr} {c : Nat} {bs : List UInt8} (hr : RdBF base w A bs) (hne : 0 < bs.length → ∀ a, A = some a → a.block ≠ g) :
    OwR (w.setCell ⟨g, j, none⟩ (.slice A bs.length c)) base g n cap (rs.set j bs) := by
  obtain ⟨h0, hc, hg, xs, h1, h2⟩ := h
  obtain ⟨h3, h4⟩ := World.ownsRow.stored h1 j (.slice A bs.length c)
  exact ⟨by rw [List.length_set]; exact h0, hc, hg, _, h3, (h2.set j hr fun hp a ha e => hne hp a ha (by injection e)).grown h4 (.inl rfl)⟩
end
end Go.Proofs.YtjnemopocmhfkaaDoor
end
section
set_option maxRecDepth 8000
namespace Go.Proofs.YtjnemopocmhfkaaDoor
open Go.RowKit

theorem and1 (s : Nat) (h : s < 4294967296) : bits .and .u32 (s : Int) 1 = ((s % 2 : Nat) : Int) := by
  have := u32_and_nat s 1 h (by decide)
  rw [show ((1 : Nat) : Int) = 1 from rfl] at this
  rw [this, nat_mask1]
theorem shr1_xor (s : Nat) (h : s < 4294967296) : bits .xor .u32 ((s : Int) / 2) 2197175160 = (((s / 2) ^^^ 2197175160 : Nat) : Int) := by
  have := u32_xor_nat (s / 2) 2197175160 (by omega) (by decide)
  rw [← this]; rfl
theorem not_u32 (y : Nat) (h : y < 4294967296) : bits .xor .u32 IntKind.u32.max (y : Int) = ((y ^^^ 4294967295 : Nat) : Int) := by
  rw [Nat.xor_comm]
  exact u32_xor_nat 4294967295 y (by decide) h
set_option maxHeartbeats 800000 in
theorem refSum_any (A : Option Addr) (rs : List (List UInt8)) (n cp : Nat) (w : World) (hn : rs.length = n) (hr : RdR w w.heap.size A rs) :
    Calls Tryd.prog 39 #[.slice A n cp] w fun e w' => e = .returned (.int .u32 ((sumR rs : Nat) : Int)) ∧ w' = w := by
  subst hn
  have hm := hr.1
  have Hs : Hid (sumR rs = feedR 4294967295 rs ^^^ 4294967295) := rfl
  have hlast := feedR_lt (x := 4294967295) rs (by decide)
  go_enter Tryd.func39, Tryd.ntmps39
  go_wp2
  go_loop [3, 11] (fun v i => ∃ k : Nat, k ≤ rs.length ∧ i = .int .i64 k ∧ v = .int .u32 ((feedR 4294967295 (rs.take k) : Nat) : Int)) (fun _ i => rs.length - (intOf i).toNat)
  case atStart => exact ⟨0, Nat.zero_le _, rfl, rfl⟩
  case round =>
    obtain ⟨k, hk, rfl, rfl⟩ := hrel
    have hy := feedR_lt (x := 4294967295) (rs.take k) (by decide)
    by_cases hlt : k < rs.length
    · obtain ⟨b, off, rfl, hb, hc⟩ := hr.2 (by omega)
      obtain ⟨A', c', h1, h2⟩ := hc k hlt
      have Hsn := Lib.hid (feedR_snoc 4294967295 rs k hlt)
      generalize rs.getD k [] = row at h1 h2 Hsn
      generalize feedR 4294967295 (rs.take k) = y at hy Hsn
      clear hc
      have hlen := h2.1
      go_wp2
      go_loop [3, 17] (fun v i => ∃ j : Nat, j ≤ row.length ∧ i = .int .i64 j ∧ v = .int .u32 ((feedB y (row.take j) : Nat) : Int)) (fun _ i => row.length - (intOf i).toNat)
      case atStart => exact ⟨0, Nat.zero_le _, rfl, rfl⟩
      case round =>
        obtain ⟨j, hj, rfl, rfl⟩ := hrel
        have hz := feedB_lt (row.take j) hy
        by_cases hlt2 : j < row.length
        · obtain ⟨b2, off2, rfl, hb2, hc2⟩ := h2.2 (by omega)
          have h3 := hc2 j hlt2
          have Hsn2 := Lib.hid (feedB_snoc y row j hlt2)
          generalize row.getD j 0 = c at h3 Hsn2
          generalize feedB y (row.take j) = z at hz Hsn2
          have hcb : c.toNat < 256 := c.toNat_lt
          clear hc2
          have e0 := u32_xor_nat z c.toNat hz (by omega)
          have hs0 := xor_lt32 hz (show c.toNat < 4294967296 by omega)
          have Hst := Lib.hid (stepB_bits z c)
          generalize z ^^^ c.toNat = s0 at e0 hs0 Hst
          go_wp2
          go_loop [3, 8] (fun v i => ∃ t : Nat, t ≤ 8 ∧ i = .int .i64 t ∧ v = .int .u32 ((bitN t s0 : Nat) : Int)) (fun _ i => 8 - (intOf i).toNat)
          case atStart => exact ⟨0, by omega, rfl, rfl⟩
          case round =>
            obtain ⟨t, ht, rfl, rfl⟩ := hrel
            by_cases hlt3 : t < 8
            · have hu := bitN_lt t hs0
              have Hb : Hid (bitN (t + 1) s0 = bit1 (bitN t s0)) := rfl
              generalize bitN t s0 = u at hu Hb
              have f1 := and1 u hu
              by_cases hp : u % 2 = 1
              · have f2 := shr1_xor u hu
                have Hb2 : Hid (bit1 u = u / 2 ^^^ 2197175160) := if_pos hp
                generalize u / 2 ^^^ 2197175160 = v at f2 Hb2
                rw [hp] at f1
                clear hp
                go_wp2
                go_round
                case rel => exact ⟨t + 1, by omega, by go_num, by rw [Hb.out, Hb2.out]⟩
                case measure => simp [intOf]; omega
              · have Hb2 : Hid (bit1 u = u / 2) := if_neg hp
                have hp0 : u % 2 = 0 := by omega
                rw [hp0] at f1
                clear hp hp0
                go_wp2
                go_round
                case rel => exact ⟨t + 1, by omega, by go_num, by rw [Hb.out, Hb2.out]; rfl⟩
                case measure => simp [intOf]; omega
            · obtain rfl : t = 8 := by omega
              go_wp2
              go_round
              case rel => exact ⟨j + 1, by omega, by go_num, by rw [Hsn2.out, Hst.out]⟩
              case measure => simp [intOf]; omega
        · obtain rfl : j = row.length := by omega
          go_wp2
          go_round
          case rel => exact ⟨k + 1, by omega, by go_num, by rw [Hsn.out, List.take_length]⟩
          case measure => simp [intOf]; omega
    · obtain rfl : k = rs.length := by omega
      go_wp2
      go_ret
      exact ⟨by rw [Hs.out]; exact congrArg (fun z => Ending.returned (.int .u32 z)) (not_u32 _ hlast), rfl⟩
set_option maxHeartbeats 400000 in
theorem refSealed_any (A Ap : Option Addr) (c cp : Nat) (bs : List UInt8) (rs : List (List UInt8)) (n : Nat) (w : World) (hn : rs.length = n) (hn2 : n ≤ 1000000) (hbs : bs.length = 32) (hr : RdB w w.heap.size A bs) (hp : RdR w w.heap.size Ap rs) :
    Calls Tryd.prog 18 #[.slice A 32 c, .slice Ap n cp] w fun e w' => ∃ v, e = .returned v ∧ OwB 5 w' w.heap.size v (stamped bs rs) ∧ Below w.heap.size w w' := by
  obtain ⟨xs, hxv, hxr, hx1⟩ := hp.vals
  have Hf := Lib.hid (stampK_four bs (sumR (bs.take 28 :: rs)) hbs)
  rw [show bs.take 28 ++ be4 (sumR (bs.take 28 :: rs)) = stamped bs rs from rfl] at Hf
  have hx := sumR_lt (bs.take 28 :: rs)
  have C : Hid (∀ (W : World) A' cap, RdR W W.heap.size A' (bs.take 28 :: rs) → Calls Tryd.prog 39 #[.slice A' (1 + n) cap] W fun e w' => e = .returned (.int .u32 ((sumR (bs.take 28 :: rs) : Nat) : Int)) ∧ w' = W) :=
    Lib.hid fun W A' cap h => refSum_any A' (bs.take 28 :: rs) (1 + n) cap W (by simp; omega) h
  have Ht : Hid ((bs.take 28).length = 28) := by show _ = _; simp [hbs]
  generalize stamped bs rs = out at Hf
  generalize sumR (bs.take 28 :: rs) = x at C Hf hx
  have e0 : (x : Int) / 16777216 = ((beB x 0).toNat : Int) := by simp only [beB, UInt8.toNat_ofNat']; omega
  have e1 : (x : Int) / 65536 % 256 = ((beB x 1).toNat : Int) := by simp only [beB, UInt8.toNat_ofNat']; omega
  have e2 : (x : Int) / 256 % 256 = ((beB x 2).toNat : Int) := by simp only [beB, UInt8.toNat_ofNat']; omega
  have e3 : (x : Int) % 256 = ((beB x 3).toNat : Int) := by simp only [beB, UInt8.toNat_ofNat']; omega
  have Hst : Hid (stampK bs x 4 = ((((bs.set 28 (beB x 0)).set 29 (beB x 1)).set 30 (beB x 2)).set 31 (beB x 3))) := rfl
  generalize beB x 0 = b0 at e0 Hst
  generalize beB x 1 = b1 at e1 Hst
  generalize beB x 2 = b2 at e2 Hst
  generalize beB x 3 = b3 at e3 Hst
  go_enter Tryd.func18, Tryd.ntmps18
  go_wp2_with (first
    | (at_builtin
       refine wpList_append_B _ rfl _ _ _ rfl w.heap.size 5 Tryd.underlying48 info_u8 (.slice none 0 0) [] rfl (OwB.nil _ _ _) w.heap.size A 32 c bs rfl hbs.symm hr (by simp [hbs]) (Nat.le_refl _) ?_
       intro v' w1 hown hg hat
       rw [List.nil_append] at hown
       have hb1 : Below w.heap.size w w1 := (Below.refl _ _).grown hg (Nat.le_refl _) (by simp [Value.ownBlock])
       obtain ⟨g, cap, rfl, hBg, hglt, hcap, hcm, hrd⟩ := hown.pos (by omega)
       have i0 : (28 : Int) ≤ (cap : Int) := by omega)
    | (at_builtin
       refine wpList_append_rows1 rfl _ _ _ rfl 48 Tryd.underlying31 info_row (some ⟨g, 0, none⟩) 28 cap (bs.take 28) Ht.out rfl Ap n cp rs rfl hn hn2 (hrd.take 28) ((hp.below hb1 (Nat.le_refl _)).more hb1.size) ?_
       intro A2 cap2 w2 hrr hb2
       have hown2 := hown.below hb2
       obtain ⟨k28, f28⟩ := hown2.cell rfl 28 (by omega)
       obtain ⟨k29, f29⟩ := hown2.cell rfl 29 (by omega)
       obtain ⟨k30, f30⟩ := hown2.cell rfl 30 (by omega)
       obtain ⟨k31, f31⟩ := hown2.cell rfl 31 (by omega))
    | (go_at_call 39; refine (C.out _ _ _ hrr).mono ?_; rintro e w' ⟨rfl, rfl⟩))
  go_ret
  have s0 := (hown2.set rfl 28 b0).1
  have s1 := (s0.set (by simp) 29 b1).1
  have s2 := (s1.set (by simp) 30 b2).1
  have s3 := (s2.set (by simp) 31 b3).1
  rw [← Hst.out, Hf.out] at s3
  have hb3 := hb1.trans (hb2.mono hb1.size)
  rw [hbs] at s3
  exact ⟨_, rfl, s3, (((hb3.setCell (p := ⟨g, 28, none⟩) hBg _).setCell (p := ⟨g, 29, none⟩) hBg _).setCell (p := ⟨g, 30, none⟩) hBg _).setCell (p := ⟨g, 31, none⟩) hBg _⟩
theorem refSealed_n (A Ap : Option Addr) (m c cp : Nat) (bs : List UInt8) (rs : List (List UInt8)) (n : Nat) (w : World) (hm : m = 32) (hn : rs.length = n) (hn2 : n ≤ 1000000) (hbs : bs.length = 32) (hr : RdB w w.heap.size A bs) (hp : RdR w w.heap.size Ap rs) :
    Calls Tryd.prog 18 #[.slice A m c, .slice Ap n cp] w fun e w' => ∃ v, e = .returned v ∧ OwB 5 w' w.heap.size v (stamped bs rs) ∧ Below w.heap.size w w' := by
  subst hm
  exact refSealed_any A Ap c cp bs rs n w hn hn2 hbs hr hp
end Go.Proofs.YtjnemopocmhfkaaDoor
end
