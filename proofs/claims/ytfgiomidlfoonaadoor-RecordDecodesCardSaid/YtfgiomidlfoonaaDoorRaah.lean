/- Texts put together: Rw, RefCrc, RefRecKit, OrdMore, RefRecLoop. -/
import Derived.Test.YtfgiomidlfoonaaDoorRaaf
import Derived.Test.YtfgiomidlfoonaaDoorRaaa
import Derived.Laws.OwnMore
import Derived.Test.YtfgiomidlfoonaaDoorRaad
import Derived.Deep.DeepMust
import Derived.Test.YtfgiomidlfoonaaDoorRaag
import Derived.Test.YtfgiomidlfoonaaDoorRaac
import Derived.Test.YtfgiomidlfoonaaDoorRaae
import Derived.Carry
section
set_option maxRecDepth 8000
set_option linter.unusedVariables false
set_option linter.unusedSimpArgs false
namespace Go.Proofs.YtfgiomidlfoonaaDoor
open Go.RowKit

def rwv (bk cp : Nat → Nat) (k : Nat) : Value := .slice (some ⟨bk k, 0, none⟩) 32 (cp k)
def rwvs (bk cp : Nat → Nat) (n : Nat) : List Value := (List.range n).map (rwv bk cp)
theorem rwvs_len (bk cp : Nat → Nat) (n : Nat) : (rwvs bk cp n).length = n := by simp [rwvs]
theorem rwvs_get {bk cp : Nat → Nat} {n k : Nat} (hk : k < n) : (rwvs bk cp n)[k]? = some (rwv bk cp k) := by simp [rwvs, hk]
structure Rw (lo : Nat) (W : World) (g cap n : Nat) (bk cp : Nat → Nat) (rs : List (List UInt8)) : Prop where
  row : W.ownsRow lo 22 1 (.slice (some ⟨g, 0, none⟩) n cap) n (rwvs bk cp n)
  nn : rs.length = n
  n9 : n ≤ 9
  len : ∀ k, k < n → (rs.getD k []).length = 32
  own : ∀ k, k < n → OwB 5 W lo (.slice (some ⟨bk k, 0, none⟩) 32 (cp k)) (rs.getD k [])
  ne : ∀ k, k < n → bk k ≠ g
  inj : ∀ j k, j < n → k < n → bk j = bk k → j = k
section
variable {lo : Nat} {W W' : World} {g cap n : Nat} {bk cp : Nat → Nat} {rs : List (List UInt8)}
theorem Rw.glt (h : Rw lo W g cap n bk cp rs) : lo ≤ g ∧ g < W.heap.size := h.row.lt g rfl
theorem Rw.blt (h : Rw lo W g cap n bk cp rs) (k : Nat) (hk : k < n) : lo ≤ bk k ∧ bk k < W.heap.size := (h.own k hk).lt _ rfl
theorem Rw.room (h : Rw lo W g cap n bk cp rs) : n ≤ cap := by
  obtain ⟨A, c, e, hc, _⟩ := rx_form h.row
  injection e with _ _ e
  omega
theorem Rw.ccap (h : Rw lo W g cap n bk cp rs) (k : Nat) (hk : k < n) : 32 ≤ cp k := (h.own k hk).rdS.2.2
theorem Rw.cell (h : Rw lo W g cap n bk cp rs) (k : Nat) (hk : k < n) : W.cell? ⟨g, k, none⟩ = some (.slice (some ⟨bk k, 0, none⟩) 32 (cp k)) := by
  rw [rx_cell_at h.row k (by rw [rwvs_len]; exact hk), rwvs_get hk]; rfl
theorem Rw.fz (h : Rw lo W g cap n bk cp rs) (k : Nat) : W.frozen? ⟨g, k, none⟩ = false := h.row.frozenAt k
theorem Rw.byte (h : Rw lo W g cap n bk cp rs) (k : Nat) (hk : k < n) (i : Nat) (hi : i < 32) : W.cell? ⟨bk k, i, none⟩ = some (.int .u8 (((rs.getD k []).getD i 0).toNat : Int)) ∧ W.frozen? ⟨bk k, i, none⟩ = false := (h.own k hk).cell (h.len k hk) i (by omega)
theorem Rw.rd (h : Rw lo W g cap n bk cp rs) (k : Nat) (hk : k < n) : RdB W W.heap.size (some ⟨bk k, 0, none⟩) (rs.getD k []) := (h.own k hk).rdS.1
theorem Rw.grown {row : Option Nat} (h : Rw lo W g cap n bk cp rs) (hg : W.grownBy W' row) (h1 : row ≠ some g) (h2 : ∀ k, k < n → row ≠ some (bk k)) : Rw lo W' g cap n bk cp rs :=
  ⟨h.row.kept hg (.inr fun e => h1 e.symm), h.nn, h.n9, h.len, fun k hk => (h.own k hk).grown hg (.inr fun e => h2 k hk e.symm), h.ne, h.inj⟩
theorem Rw.below (h : Rw lo W g cap n bk cp rs) (hb : Below W.heap.size W W') : Rw lo W' g cap n bk cp rs := h.grown (grown_none hb) (by simp) (by simp)
theorem Rw.drew (h : Rw lo W g cap n bk cp rs) : Rw lo W.drew g cap n bk cp rs := h.below (Below.refl _ _).drew
theorem Rw.le {lo' : Nat} (h : Rw lo W g cap n bk cp rs) (hl : lo' ≤ lo) : Rw lo' W g cap n bk cp rs :=
  ⟨⟨h.row.1, by
    rcases h.row.2 with h1 | ⟨g', c', cur, h1, h2, r⟩
    · exact .inl h1
    · exact .inr ⟨g', c', cur, h1, Nat.le_trans hl h2, r⟩⟩, h.nn, h.n9, h.len, fun k hk => (h.own k hk).le hl, h.ne, h.inj⟩
theorem rs_set_get {rs : List (List UInt8)} {k j : Nat} {b : List UInt8} (hk : k < rs.length) : (rs.set k b).getD j [] = if k = j then b else rs.getD j [] := by
  simp only [List.getD_eq_getElem?_getD, List.getElem?_set]
  split
  · subst_vars; simp [hk]
  · rfl
/-- One sector written. -/
theorem Rw.set (h : Rw lo W g cap n bk cp rs) (k : Nat) (hk : k < n) {b : List UInt8} (ho : OwB 5 W' lo (.slice (some ⟨bk k, 0, none⟩) 32 (cp k)) b) (hb : b.length = 32) (hg : W.grownBy W' (some (bk k))) : Rw lo W' g cap n bk cp (rs.set k b) := by
  have hkl : k < rs.length := by rw [h.nn]; exact hk
  refine ⟨h.row.kept hg (.inr fun e => h.ne k hk (by injection e with e; exact e.symm)), by rw [List.length_set]; exact h.nn, h.n9, fun j hj => ?_, fun j hj => ?_, h.ne, h.inj⟩
  · rw [rs_set_get hkl]; split
    · exact hb
    · exact h.len j hj
  · rw [rs_set_get hkl]; split
    · subst_vars; exact ho
    · next hne => exact (h.own j hj).grown hg (.inr fun e => hne (by
        have e2 : bk j = bk k := by injection e
        exact (h.inj j k hj hk e2).symm))
theorem Rw.put (h : Rw lo W g cap n bk cp rs) (k : Nat) (hk : k < n) (i : Nat) (x : UInt8) : Rw lo (W.setCell ⟨bk k, i, none⟩ (.int .u8 (x.toNat : Int))) g cap n bk cp (rs.set k ((rs.getD k []).set i x)) ∧ W.grownBy (W.setCell ⟨bk k, i, none⟩ (.int .u8 (x.toNat : Int))) (some (bk k)) := by
  obtain ⟨h1, h2⟩ := (h.own k hk).set (h.len k hk) i x
  exact ⟨h.set k hk h1 (by rw [List.length_set]; exact h.len k hk) h2, h2⟩
/-- Another sector in a place of the row. -/
theorem Rw.swap (h : Rw lo W g cap n bk cp rs) (k : Nat) (hk : k < n) {q c : Nat} {b : List UInt8} (ho : OwB 5 W lo (.slice (some ⟨q, 0, none⟩) 32 c) b) (hb : b.length = 32) (hq : q ≠ g) (hne : ∀ j, j < n → q ≠ bk j) :
    Rw lo (W.setCell ⟨g, k, none⟩ (.slice (some ⟨q, 0, none⟩) 32 c)) g cap n (fun j => if j = k then q else bk j) (fun j => if j = k then c else cp j) (rs.set k b) ∧ W.grownBy (W.setCell ⟨g, k, none⟩ (.slice (some ⟨q, 0, none⟩) 32 c)) (some g) := by
  have hkl : k < rs.length := by rw [h.nn]; exact hk
  obtain ⟨h1, h2⟩ := h.row.stored k (.slice (some ⟨q, 0, none⟩) 32 c)
  have e : (rwvs bk cp n).set k (.slice (some ⟨q, 0, none⟩) 32 c) = rwvs (fun j => if j = k then q else bk j) (fun j => if j = k then c else cp j) n := by
    apply List.ext_getElem (by simp [rwvs])
    intro j h3 h4
    simp only [rwvs, List.getElem_set, List.getElem_map, List.getElem_range]
    by_cases e : k = j
    · subst e; simp [rwv]
    · rw [if_neg e]; unfold rwv; dsimp only; rw [if_neg (Ne.symm e), if_neg (Ne.symm e)]
  rw [e] at h1
  refine ⟨⟨h1, by rw [List.length_set]; exact h.nn, h.n9, fun j hj => ?_, fun j hj => ?_, fun j hj => ?_, fun i j hi hj hij => ?_⟩, h2⟩
  · rw [rs_set_get hkl]; split
    · exact hb
    · exact h.len j hj
  · try dsimp only
    rw [rs_set_get hkl]
    by_cases e : k = j
    · subst e; rw [if_pos rfl, if_pos rfl, if_pos rfl]
      exact ho.grown h2 (.inr fun e => hq (by injection e))
    · rw [if_neg e, if_neg (Ne.symm e), if_neg (Ne.symm e)]
      exact (h.own j hj).grown h2 (.inr fun e => h.ne j hj (by injection e))
  · try dsimp only
    split
    · exact hq
    · exact h.ne j hj
  · try dsimp only at hij
    by_cases e1 : i = k
    · by_cases e2 : j = k
      · omega
      · rw [if_pos e1, if_neg e2] at hij; exact absurd hij (hne j hj)
    · by_cases e2 : j = k
      · rw [if_neg e1, if_pos e2] at hij; exact absurd hij.symm (hne i hi)
      · rw [if_neg e1, if_neg e2] at hij; exact h.inj i j hi hj hij
theorem Rw.rdc (h : Rw lo W g cap n bk cp rs) : RdC W W.heap.size (some ⟨g, 0, none⟩) rs :=
  ⟨by have := h.nn; have := h.n9; omega, fun _ => ⟨g, 0, rfl, h.glt.2, fun k hk => by
    have hk' : k < n := by rw [← h.nn]; exact hk
    exact ⟨_, cp k, by rw [Nat.zero_add, h.len k hk']; exact h.cell k hk', by rw [h.len k hk']; exact h.ccap k hk', h.rd k hk'⟩⟩⟩
theorem Rw.rdr1 (h : Rw lo W g cap n bk cp rs) : RdR W W.heap.size (some ⟨g, 1, none⟩) (rs.drop 1) :=
  ⟨by have := h.nn; have := h.n9; simp; omega, fun _ => ⟨g, 1, rfl, h.glt.2, fun k hk => by
    have hk' : 1 + k < n := by rw [← h.nn]; simp at hk; omega
    have e : (rs.drop 1).getD k [] = rs.getD (1 + k) [] := by simp [List.getD_eq_getElem?_getD, Nat.add_comm]
    rw [e]
    exact ⟨_, cp (1 + k), by rw [h.len _ hk']; exact h.cell _ hk', h.rd _ hk'⟩⟩⟩
theorem Rw.rdv (h : Rw lo W g cap n bk cp rs) : RdV W W.heap.size (some ⟨g, 0, none⟩) (rwvs bk cp n) := fun _ => ⟨g, 0, rfl, h.glt.2, fun k hk => by rw [Nat.zero_add]; exact rx_cell_at h.row k hk⟩
theorem rwvs_one (bk cp : Nat → Nat) (n : Nat) : ∀ u ∈ rwvs bk cp n, u.oneCell' = true := fun u hu => by
  simp only [rwvs, List.mem_map] at hu
  obtain ⟨k, _, rfl⟩ := hu
  rfl
end
/-- Sectors of zeros, made one after the other. -/
structure Mk (lo : Nat) (V : World) (bs : List Nat) : Prop where
  own : ∀ b ∈ bs, OwB 5 V lo (.slice (some ⟨b, 0, none⟩) 32 32) z32
  nd : bs.Nodup
  lo : lo ≤ V.heap.size
theorem Mk.nil (V : World) (lo : Nat) (h : lo ≤ V.heap.size) : Mk lo V [] := ⟨fun b hb => by simp at hb, by simp, h⟩
theorem Mk.push {lo : Nat} {V : World} {bs : List Nat} (h : Mk lo V bs) : Mk lo (V.alloc (.cells (zcells 32) 5)) (V.heap.size :: bs) := by
  refine ⟨fun b hb => ?_, List.nodup_cons.2 ⟨fun hm => ?_, h.nd⟩, by have := h.lo; simp; omega⟩
  · rcases List.mem_cons.1 hb with rfl | hb
    · exact (own_make 5 V 32 (by omega)).le h.lo
    · exact (h.own b hb).below (below1 V _)
  · have := ((h.own _ hm).lt V.heap.size rfl).2; omega
/-- A row of them. -/
theorem Mk.row {lo : Nat} {V : World} {bs : List Nat} (h : Mk lo V bs) (l : List Nat) (hl : l.length ≤ 9) (hs : ∀ b ∈ l, b ∈ bs) (hn : l.Nodup) :
    Rw lo (V.alloc (.cells (l.map fun b => Value.slice (some ⟨b, 0, none⟩) 32 32).toArray 22)) V.heap.size l.length l.length (fun k => l.getD k 0) (fun _ => 32) (List.replicate l.length z32) := by
  have hm : ∀ k, k < l.length → l.getD k 0 ∈ l := fun k hk => by
    rw [List.getD_eq_getElem?_getD, List.getElem?_eq_getElem hk]; exact List.getElem_mem hk
  have hr := World.ownsRow_lit (base := lo) (e := 22) (size := 1) V (l.map fun b => Value.slice (some ⟨b, 0, none⟩) 32 32).toArray l.length h.lo (by unfold maxLen; omega) (by simp)
  have e : (l.map fun b => Value.slice (some ⟨b, 0, none⟩) 32 32).toArray.toList = rwvs (fun k => l.getD k 0) (fun _ => 32) l.length := by
    apply List.ext_getElem (by simp [rwvs])
    intro k h1 h2
    have hk : k < l.length := by simpa using h1
    simp [rwvs, rwv, List.getD_eq_getElem?_getD, hk]
  rw [e] at hr
  have hz : ∀ k, k < l.length → (List.replicate l.length z32).getD k [] = z32 := fun k hk => by simp [List.getD_eq_getElem?_getD, hk]
  refine ⟨hr, by simp, hl, fun k hk => by rw [hz k hk]; rfl, fun k hk => ?_, fun k hk => ?_, fun j k hj hk e => ?_⟩
  · rw [hz k hk]; exact (h.own _ (hs _ (hm k hk))).below (below1 V _)
  · have := ((h.own _ (hs _ (hm k hk))).lt (l.getD k 0) rfl).2
    omega
  · try dsimp only at e
    rw [List.getD_eq_getElem?_getD, List.getD_eq_getElem?_getD, List.getElem?_eq_getElem hj, List.getElem?_eq_getElem hk] at e
    have hp := List.pairwise_iff_getElem.1 hn
    rcases Nat.lt_trichotomy j k with h1 | h1 | h1
    · exact absurd e (hp j k hj hk h1)
    · exact h1
    · exact absurd e.symm (hp k j hk hj h1)
end Go.Proofs.YtfgiomidlfoonaaDoor
end
section
set_option maxRecDepth 8000
namespace Go.Proofs.YtfgiomidlfoonaaDoor
open Go.RowKit

theorem and1 (s : Nat) (h : s < 4294967296) : bits .and .u32 (s : Int) 1 = ((s % 2 : Nat) : Int) := by
  have := u32_and_nat s 1 h (by decide)
  rw [show ((1 : Nat) : Int) = 1 from rfl] at this
  rw [this, nat_mask1]
theorem shr1_xor (s : Nat) (h : s < 4294967296) : bits .xor .u32 ((s : Int) / 2) 2197175160 = (((s / 2) ^^^ 2197175160 : Nat) : Int) := by
  have := u32_xor_nat (s / 2) 2197175160 (by omega) (by decide)
  rw [← this]; rfl
theorem not_u32 (y : Nat) (h : y < 4294967296) : bits .xor .u32 IntKind.u32.max (y : Int) = ((y ^^^ 4294967295 : Nat) : Int) := by
  rw [Nat.xor_comm]
  exact u32_xor_nat 4294967295 y (by decide) h
set_option maxHeartbeats 800000 in
theorem refSum_any (A : Option Addr) (rs : List (List UInt8)) (n cp : Nat) (w : World) (hn : rs.length = n) (hr : RdR w w.heap.size A rs) :
    Calls Tryd.prog 34 #[.slice A n cp] w fun e w' => e = .returned (.int .u32 ((sumR rs : Nat) : Int)) ∧ w' = w := by
  subst hn
  have hm := hr.1
  have Hs : Hid (sumR rs = feedR 4294967295 rs ^^^ 4294967295) := rfl
  have hlast := feedR_lt (x := 4294967295) rs (by decide)
  go_enter Tryd.func34, Tryd.ntmps34
  go_wp2
  go_loop [3, 11] (fun v i => ∃ k : Nat, k ≤ rs.length ∧ i = .int .i64 k ∧ v = .int .u32 ((feedR 4294967295 (rs.take k) : Nat) : Int)) (fun _ i => rs.length - (intOf i).toNat)
  case atStart => exact ⟨0, Nat.zero_le _, rfl, rfl⟩
  case round =>
    obtain ⟨k, hk, rfl, rfl⟩ := hrel
    have hy := feedR_lt (x := 4294967295) (rs.take k) (by decide)
    by_cases hlt : k < rs.length
    · obtain ⟨b, off, rfl, hb, hc⟩ := hr.2 (by omega)
      obtain ⟨A', c', h1, h2⟩ := hc k hlt
      have Hsn := Lib.hid (feedR_snoc 4294967295 rs k hlt)
      generalize rs.getD k [] = row at h1 h2 Hsn
      generalize feedR 4294967295 (rs.take k) = y at hy Hsn
      clear hc
      have hlen := h2.1
      go_wp2
      go_loop [3, 17] (fun v i => ∃ j : Nat, j ≤ row.length ∧ i = .int .i64 j ∧ v = .int .u32 ((feedB y (row.take j) : Nat) : Int)) (fun _ i => row.length - (intOf i).toNat)
      case atStart => exact ⟨0, Nat.zero_le _, rfl, rfl⟩
      case round =>
        obtain ⟨j, hj, rfl, rfl⟩ := hrel
        have hz := feedB_lt (row.take j) hy
        by_cases hlt2 : j < row.length
        · obtain ⟨b2, off2, rfl, hb2, hc2⟩ := h2.2 (by omega)
          have h3 := hc2 j hlt2
          have Hsn2 := Lib.hid (feedB_snoc y row j hlt2)
          generalize row.getD j 0 = c at h3 Hsn2
          generalize feedB y (row.take j) = z at hz Hsn2
          have hcb : c.toNat < 256 := c.toNat_lt
          clear hc2
          have e0 := u32_xor_nat z c.toNat hz (by omega)
          have hs0 := xor_lt32 hz (show c.toNat < 4294967296 by omega)
          have Hst := Lib.hid (stepB_bits z c)
          generalize z ^^^ c.toNat = s0 at e0 hs0 Hst
          go_wp2
          go_loop [3, 8] (fun v i => ∃ t : Nat, t ≤ 8 ∧ i = .int .i64 t ∧ v = .int .u32 ((bitN t s0 : Nat) : Int)) (fun _ i => 8 - (intOf i).toNat)
          case atStart => exact ⟨0, by omega, rfl, rfl⟩
          case round =>
            obtain ⟨t, ht, rfl, rfl⟩ := hrel
            by_cases hlt3 : t < 8
            · have hu := bitN_lt t hs0
              have Hb : Hid (bitN (t + 1) s0 = bit1 (bitN t s0)) := rfl
              generalize bitN t s0 = u at hu Hb
              have f1 := and1 u hu
              by_cases hp : u % 2 = 1
              · have f2 := shr1_xor u hu
                have Hb2 : Hid (bit1 u = u / 2 ^^^ 2197175160) := if_pos hp
                generalize u / 2 ^^^ 2197175160 = v at f2 Hb2
                rw [hp] at f1
                clear hp
                go_wp2
                go_round
                case rel => exact ⟨t + 1, by omega, by go_num, by rw [Hb.out, Hb2.out]⟩
                case measure => simp [intOf]; omega
              · have Hb2 : Hid (bit1 u = u / 2) := if_neg hp
                have hp0 : u % 2 = 0 := by omega
                rw [hp0] at f1
                clear hp hp0
                go_wp2
                go_round
                case rel => exact ⟨t + 1, by omega, by go_num, by rw [Hb.out, Hb2.out]; rfl⟩
                case measure => simp [intOf]; omega
            · obtain rfl : t = 8 := by omega
              go_wp2
              go_round
              case rel => exact ⟨j + 1, by omega, by go_num, by rw [Hsn2.out, Hst.out]⟩
              case measure => simp [intOf]; omega
        · obtain rfl : j = row.length := by omega
          go_wp2
          go_round
          case rel => exact ⟨k + 1, by omega, by go_num, by rw [Hsn.out, List.take_length]⟩
          case measure => simp [intOf]; omega
    · obtain rfl : k = rs.length := by omega
      go_wp2
      go_ret
      exact ⟨by rw [Hs.out]; exact congrArg (fun z => Ending.returned (.int .u32 z)) (not_u32 _ hlast), rfl⟩
theorem info_row : (Tryd.prog.info? 22).map (fun i => (i.zero, i.size, i.bytes)) = some (some (.slice none 0 0), 1, 24) := by kernel_rfl
set_option maxHeartbeats 400000 in
theorem refSealed_any (A Ap : Option Addr) (c cp : Nat) (bs : List UInt8) (rs : List (List UInt8)) (n : Nat) (w : World) (hn : rs.length = n) (hn2 : n ≤ 1000000) (hbs : bs.length = 32) (hr : RdB w w.heap.size A bs) (hp : RdR w w.heap.size Ap rs) :
    Calls Tryd.prog 18 #[.slice A 32 c, .slice Ap n cp] w fun e w' => ∃ v, e = .returned v ∧ OwB 5 w' w.heap.size v (stamped bs rs) ∧ Below w.heap.size w w' := by
  obtain ⟨xs, hxv, hxr, hx1⟩ := hp.vals
  have Hf := Lib.hid (stampK_four bs (sumR (bs.take 28 :: rs)) hbs)
  rw [show bs.take 28 ++ be4 (sumR (bs.take 28 :: rs)) = stamped bs rs from rfl] at Hf
  have hx := sumR_lt (bs.take 28 :: rs)
  have C : Hid (∀ (W : World) A' cap, RdR W W.heap.size A' (bs.take 28 :: rs) → Calls Tryd.prog 34 #[.slice A' (1 + n) cap] W fun e w' => e = .returned (.int .u32 ((sumR (bs.take 28 :: rs) : Nat) : Int)) ∧ w' = W) :=
    Lib.hid fun W A' cap h => refSum_any A' (bs.take 28 :: rs) (1 + n) cap W (by simp; omega) h
  have Ht : Hid ((bs.take 28).length = 28) := by show _ = _; simp [hbs]
  generalize stamped bs rs = out at Hf
  generalize sumR (bs.take 28 :: rs) = x at C Hf hx
  have e0 : (x : Int) / 16777216 = ((beB x 0).toNat : Int) := by simp only [beB, UInt8.toNat_ofNat']; omega
  have e1 : (x : Int) / 65536 % 256 = ((beB x 1).toNat : Int) := by simp only [beB, UInt8.toNat_ofNat']; omega
  have e2 : (x : Int) / 256 % 256 = ((beB x 2).toNat : Int) := by simp only [beB, UInt8.toNat_ofNat']; omega
  have e3 : (x : Int) % 256 = ((beB x 3).toNat : Int) := by simp only [beB, UInt8.toNat_ofNat']; omega
  have Hst : Hid (stampK bs x 4 = ((((bs.set 28 (beB x 0)).set 29 (beB x 1)).set 30 (beB x 2)).set 31 (beB x 3))) := rfl
  generalize beB x 0 = b0 at e0 Hst
  generalize beB x 1 = b1 at e1 Hst
  generalize beB x 2 = b2 at e2 Hst
  generalize beB x 3 = b3 at e3 Hst
  go_enter Tryd.func18, Tryd.ntmps18
  go_wp2_with (first
    | (at_builtin
       refine wpList_append_B _ rfl _ _ _ rfl w.heap.size 5 Tryd.underlying22 info_u8 (.slice none 0 0) [] rfl (OwB.nil _ _ _) w.heap.size A 32 c bs rfl hbs.symm hr (by simp [hbs]) (Nat.le_refl _) ?_
       intro v' w1 hown hg hat
       rw [List.nil_append] at hown
       have hb1 : Below w.heap.size w w1 := (Below.refl _ _).grown hg (Nat.le_refl _) (by simp [Value.ownBlock])
       obtain ⟨g, cap, rfl, hBg, hglt, hcap, hcm, hrd⟩ := hown.pos (by omega)
       have i0 : (28 : Int) ≤ (cap : Int) := by omega)
    | (at_builtin
       refine wpList_append_rows1 rfl _ _ _ rfl 22 Tryd.underlying24 info_row (some ⟨g, 0, none⟩) 28 cap (bs.take 28) Ht.out rfl Ap n cp rs rfl hn hn2 (hrd.take 28) ((hp.below hb1 (Nat.le_refl _)).more hb1.size) ?_
       intro A2 cap2 w2 hrr hb2
       have hown2 := hown.below hb2
       obtain ⟨k28, f28⟩ := hown2.cell rfl 28 (by omega)
       obtain ⟨k29, f29⟩ := hown2.cell rfl 29 (by omega)
       obtain ⟨k30, f30⟩ := hown2.cell rfl 30 (by omega)
       obtain ⟨k31, f31⟩ := hown2.cell rfl 31 (by omega))
    | (go_at_call 34; refine (C.out _ _ _ hrr).mono ?_; rintro e w' ⟨rfl, rfl⟩))
  go_ret
  have s0 := (hown2.set rfl 28 b0).1
  have s1 := (s0.set (by simp) 29 b1).1
  have s2 := (s1.set (by simp) 30 b2).1
  have s3 := (s2.set (by simp) 31 b3).1
  rw [← Hst.out, Hf.out] at s3
  have hb3 := hb1.trans (hb2.mono hb1.size)
  rw [hbs] at s3
  exact ⟨_, rfl, s3, (((hb3.setCell (p := ⟨g, 28, none⟩) hBg _).setCell (p := ⟨g, 29, none⟩) hBg _).setCell (p := ⟨g, 30, none⟩) hBg _).setCell (p := ⟨g, 31, none⟩) hBg _⟩
theorem refSealed_n (A Ap : Option Addr) (m c cp : Nat) (bs : List UInt8) (rs : List (List UInt8)) (n : Nat) (w : World) (hm : m = 32) (hn : rs.length = n) (hn2 : n ≤ 1000000) (hbs : bs.length = 32) (hr : RdB w w.heap.size A bs) (hp : RdR w w.heap.size Ap rs) :
    Calls Tryd.prog 18 #[.slice A m c, .slice Ap n cp] w fun e w' => ∃ v, e = .returned v ∧ OwB 5 w' w.heap.size v (stamped bs rs) ∧ Below w.heap.size w w' := by
  subst hm
  exact refSealed_any A Ap c cp bs rs n w hn hn2 hbs hr hp
end Go.Proofs.YtfgiomidlfoonaaDoor
end
section
set_option maxRecDepth 8000
set_option linter.unusedVariables false
set_option linter.unusedSimpArgs false
namespace Go.Proofs.YtfgiomidlfoonaaDoor
open Go.RowKit

theorem refFour_any (n : Int) (w : World) (hn : 0 ≤ n ∧ n ≤ 2147483647) :
    Calls Tryd.prog 32 #[.int .i64 n] w fun e w' => ∃ g : Nat, e = .returned (.slice (some ⟨g, 0, none⟩) 4 4) ∧ OwB 5 w' w.heap.size (.slice (some ⟨g, 0, none⟩) 4 4) [byN n 3, byN n 2, byN n 1, byN n 0] ∧ Below w.heap.size w w' := by
  have e3 : n / 16777216 = ((byN n 3).toNat : Int) := by have := byN_u8 hn.1 3 (by omega); omega
  have e2 : n / 65536 % 256 = ((byN n 2).toNat : Int) := byN_u8 hn.1 2 (by omega)
  have e1 : n / 256 % 256 = ((byN n 1).toNat : Int) := byN_u8 hn.1 1 (by omega)
  have e0 : n % 256 = ((byN n 0).toNat : Int) := by have := byN_u8 hn.1 0 (by omega); omega
  generalize byN n 3 = b3 at e3
  generalize byN n 2 = b2 at e2
  generalize byN n 1 = b1 at e1
  generalize byN n 0 = b0 at e0
  go_enter Tryd.func32, Tryd.ntmps32
  go_wp2
  go_ret
  exact ⟨_, rfl, own_lit [b3, b2, b1, b0] rfl rfl (by omega), below1 _ _⟩
theorem refFull_n (v : Value) (bs : List UInt8) (n B : Nat) (w : World) (h : OwB 5 w B v bs) (hl : bs.length = n) (hn : n < 32) (hB : B ≤ w.heap.size) :
    Calls Tryd.prog 33 #[v] w fun e w' => ∃ v', e = .returned v' ∧ OwB 5 w' B v' (bs ++ List.replicate (32 - n) 0) ∧ w.grownBy w' v.ownBlock := by
  obtain ⟨A, c, rfl, hc, hr⟩ := h.rd
  have Hh := Lib.hid h
  have HL := Lib.hid hl
  rw [hl]
  rw [hl] at Hh
  obtain ⟨m, hm⟩ : ∃ m, 32 - n = m := ⟨_, rfl⟩
  have kz : IntKind.i64.wrap (32 - (n : Int)) = (m : Int) := by rw [IntKind.wrap_i64]; omega
  have hm32 : 0 < m ∧ m ≤ 32 := by omega
  rw [hm]
  clear h hl hr hc hm
  go_enter Tryd.func33, Tryd.ntmps33
  go_wp2_with (refine wpList_append_Z _ rfl _ _ _ _ rfl B 5 .i64 Tryd.underlying22 Tryd.underlying3 info_u8 (.slice A n c) bs rfl Hh.out .i64 m rfl (by omega) (by rw [HL.out]; omega) hB ?_; intro v1 w1 o1 g1 h1)
  go_ret
  exact ⟨_, rfl, o1, g1⟩
/-- One row ahead of others, in a row of one's own. -/
theorem rw_cons {lo : Nat} {W6 W8 : World} {g cap n : Nat} {bk cp : Nat → Nat} {rs : List (List UInt8)} {gs cs : Nat} {b : List UInt8} {v' : Value} (h : Rw lo W6 g cap n bk cp rs) (ho : OwB 5 W6 lo (.slice (some ⟨gs, 0, none⟩) 32 cs) b) (hb : b.length = 32) (hgs : ∀ k, k < n → gs ≠ bk k) (hn : n < 9)
    (hr : W8.ownsRow lo 22 1 v' (1 + n) ([.slice (some ⟨gs, 0, none⟩) 32 cs] ++ rwvs bk cp n)) (hB : Below W6.heap.size W6 W8) (hv : ∀ q, v'.ownBlock = some q → W6.heap.size ≤ q) :
    ∃ g' cap' bk' cp', v' = .slice (some ⟨g', 0, none⟩) (1 + n) cap' ∧ Rw lo W8 g' cap' (1 + n) bk' cp' (b :: rs) := by
  obtain ⟨A, c, rfl, hc, hg⟩ := rx_form hr
  obtain ⟨g', rfl, hB'⟩ := hg (by omega)
  have hg' := hv g' rfl
  have e : [.slice (some ⟨gs, 0, none⟩) 32 cs] ++ rwvs bk cp n = rwvs (fun k => if k = 0 then gs else bk (k - 1)) (fun k => if k = 0 then cs else cp (k - 1)) (1 + n) := by
    apply List.ext_getElem (by simp [rwvs]; omega)
    intro k h1 h2
    match k with
    | 0 => simp [rwvs, rwv]
    | k + 1 => simp [rwvs, rwv]
  rw [e] at hr
  have hgl := (ho.lt gs rfl).2
  refine ⟨g', c, _, _, rfl, hr, by simp [h.nn]; omega, by omega, fun k hk => ?_, fun k hk => ?_, fun k hk => ?_, fun j k hj hk hjk => ?_⟩
  · match k with
    | 0 => exact hb
    | k + 1 => exact h.len k (by omega)
  · match k with
    | 0 => exact ho.below hB
    | k + 1 => exact (h.own k (by omega)).below hB
  · match k with
    | 0 => show gs ≠ g'; omega
    | k + 1 =>
      have := (h.blt k (by omega)).2
      show bk k ≠ g'; omega
  · match j, k with
    | 0, 0 => rfl
    | 0, k + 1 => exact absurd hjk (hgs k (by omega))
    | j + 1, 0 => exact absurd hjk.symm (hgs j (by omega))
    | j + 1, k + 1 => have := h.inj j k (by omega) (by omega) hjk; omega
theorem partsB_next {l : List It} {j : Nat} (h : l.length ≤ 3) (hj : j < l.length) : (partsB (l.take j)).getD j [] = z32 ∧ (partsB (l.take j)).set j (itN l j).b = partsB (l.take (j + 1)) := by
  have h1 := stgB_get (s := 0) h hj
  have h2 := stgB_succ (s := 0) h hj
  rw [Nat.add_comm 1 j] at h1 h2
  refine ⟨?_, ?_⟩
  · have e : (stgB 0 l j).getD (j + 1) [] = (partsB (l.take j)).getD j [] := by simp [stgB, List.getD_eq_getElem?_getD]
    rw [← e]; exact h1
  · have e : (stgB 0 l j).set (j + 1) (itN l j).b = fullB 0 l :: (partsB (l.take j)).set j (itN l j).b := rfl
    rw [e] at h2
    exact (List.cons.inj h2).2
/-- What stays while the document makes its sectors. -/
def ErS (w : World) (g cap : Nat) (bk cp : Nat → Nat) (v : Value) (bs : List UInt8) (ps : List (List UInt8)) (V : World) : Prop :=
  OwB 5 V w.heap.size v bs ∧ Rw w.heap.size V g cap 3 bk cp ps ∧ (∀ k, v.ownBlock = some k → k ≠ g ∧ ∀ j, j < 3 → k ≠ bk j) ∧ Below w.heap.size w V
section
variable {w V V' : World} {g cap : Nat} {bk cp : Nat → Nat} {v v' : Value} {bs bs' : List UInt8} {ps : List (List UInt8)}
theorem ErS.below (h : ErS w g cap bk cp v bs ps V) (hb : Below V.heap.size V V') : ErS w g cap bk cp v bs ps V' := ⟨h.1.below hb, h.2.1.below hb, h.2.2.1, h.2.2.2.trans (hb.mono h.2.2.2.size)⟩
theorem ErS.drew (h : ErS w g cap bk cp v bs ps V) : ErS w g cap bk cp v bs ps V.drew := h.below (Below.refl _ _).drew
/-- The bytes grow. -/
theorem ErS.grow (h : ErS w g cap bk cp v bs ps V) (ho : OwB 5 V' w.heap.size v' bs') (hg : V.grownBy V' v.ownBlock) (hat : v'.ownBlock = v.ownBlock ∨ v'.ownBlock = some V.heap.size) : ErS w g cap bk cp v' bs' ps V' := by
  obtain ⟨h1, h2, h3, h4⟩ := h
  refine ⟨ho, h2.grown hg (fun e => (h3 g e).1 rfl) (fun k hk e => (h3 _ e).2 k hk rfl), fun k e => ?_, h4.grown hg h4.size (fun k e => (h1.lt k e).1)⟩
  rcases hat with hat | hat
  · rw [hat] at e; exact h3 k e
  · rw [hat] at e
    injection e with e
    have := h2.glt.2
    exact ⟨by omega, fun j hj => by have := (h2.blt j hj).2; omega⟩
/-- One sector written. -/
theorem ErS.copy (h : ErS w g cap bk cp v bs ps V) (k : Nat) (hk : k < 3) {b : List UInt8} (ho : OwB 5 V' w.heap.size (.slice (some ⟨bk k, 0, none⟩) 32 (cp k)) b) (hb : b.length = 32) (hg : V.grownBy V' (some (bk k))) : ErS w g cap bk cp v bs (ps.set k b) V' := by
  obtain ⟨h1, h2, h3, h4⟩ := h
  exact ⟨h1.grown hg (by
    rcases hv : v.ownBlock with _ | q
    · exact .inl rfl
    · exact .inr fun e => by injection e with e; exact (h3 q hv).2 k hk e), h2.set k hk ho hb hg, h3, h4.grown hg h4.size (fun j e => by injection e with e; subst e; exact (h2.blt k hk).1)⟩
end
end Go.Proofs.YtfgiomidlfoonaaDoor
end
section
namespace Go.Proofs.YtfgiomidlfoonaaDoor
open Go.RowKit

section
variable {P : Program} {ops : Array Oper} {Q : Exit → Act → World → Prop} {S : World → Prop} {n : Nat} {ex : List Nat}
theorem anyI_all (rs : List Nat) {f : Nat} {listed : Array Bool} {a : Act} {w : World} (hrs : Region.ready .any ops listed = rs) (h0 : rs ≠ [])
    (h : ∀ t ∈ rs, ∃ ot, ops[t]? = some ot ∧ opE P ops Q ot (fun a' w' => S w' ∧ anyI P ops Q S n ex f (listed.setIfInBounds t true) a' w') a w) : anyI P ops Q S n ex (f + 1) listed a w := fun inv => by
  refine ⟨fun h => (by rw [hrs] at h; exact absurd h h0), fun t ht => ?_⟩
  have ht' := ht
  rw [hrs] at ht
  obtain ⟨ot, h1, h2⟩ := h t ht
  exact wpOp_mono (fun a' w' h => ⟨fun _ => h.1, h.2 (inv.set ht')⟩) (wpOp_of_opE h1 h2)
theorem anyI_three (i j k : Nat) {oi oj ok : Oper} {f : Nat} {listed : Array Bool} {a : Act} {w : World} (hrs : Region.ready .any ops listed = [i, j, k]) (hi : ops[i]? = some oi) (hj : ops[j]? = some oj) (hk : ops[k]? = some ok)
    (h1 : opE P ops Q oi (fun a' w' => S w' ∧ anyI P ops Q S n ex f (listed.setIfInBounds i true) a' w') a w) (h2 : opE P ops Q oj (fun a' w' => S w' ∧ anyI P ops Q S n ex f (listed.setIfInBounds j true) a' w') a w) (h3 : opE P ops Q ok (fun a' w' => S w' ∧ anyI P ops Q S n ex f (listed.setIfInBounds k true) a' w') a w) : anyI P ops Q S n ex (f + 1) listed a w :=
  anyI_all [i, j, k] hrs (by simp) fun t ht => by
    simp only [List.mem_cons, List.not_mem_nil, or_false] at ht
    rcases ht with rfl | rfl | rfl
    · exact ⟨_, hi, h1⟩
    · exact ⟨_, hj, h2⟩
    · exact ⟨_, hk, h3⟩
theorem anyI_four (i j k m : Nat) {oi oj ok om : Oper} {f : Nat} {listed : Array Bool} {a : Act} {w : World} (hrs : Region.ready .any ops listed = [i, j, k, m]) (hi : ops[i]? = some oi) (hj : ops[j]? = some oj) (hk : ops[k]? = some ok) (hm : ops[m]? = some om)
    (h1 : opE P ops Q oi (fun a' w' => S w' ∧ anyI P ops Q S n ex f (listed.setIfInBounds i true) a' w') a w) (h2 : opE P ops Q oj (fun a' w' => S w' ∧ anyI P ops Q S n ex f (listed.setIfInBounds j true) a' w') a w) (h3 : opE P ops Q ok (fun a' w' => S w' ∧ anyI P ops Q S n ex f (listed.setIfInBounds k true) a' w') a w) (h4 : opE P ops Q om (fun a' w' => S w' ∧ anyI P ops Q S n ex f (listed.setIfInBounds m true) a' w') a w) : anyI P ops Q S n ex (f + 1) listed a w :=
  anyI_all [i, j, k, m] hrs (by simp) fun t ht => by
    simp only [List.mem_cons, List.not_mem_nil, or_false] at ht
    rcases ht with rfl | rfl | rfl | rfl
    · exact ⟨_, hi, h1⟩
    · exact ⟨_, hj, h2⟩
    · exact ⟨_, hk, h3⟩
    · exact ⟨_, hm, h4⟩
end
end Go.Proofs.YtfgiomidlfoonaaDoor
end
section
set_option linter.unusedVariables false
set_option linter.unusedSimpArgs false
namespace Go.Proofs.YtfgiomidlfoonaaDoor
open Go.RowKit

noncomputable def codeER : Code := Tryd.f16.body.getD .skip
set_option maxRecDepth 100000 in
set_option maxHeartbeats 3200000 in
theorem erRb {w0 : World} {A : Option Addr} {c g cap : Nat} {bk cp : Nat → Nat} {l : List It} {b0 : List UInt8} {j : Nat} {v : Value} {w : World} (u0 u1 u2 u3 u4 u5 u8 u9 u10 u11 u12 u13 u14 u15 u16 u17 u18 u19 u20 u21 u22 u23 u24 u25 u26 u27 u31 u32 u33 u34 u35 u36 u37 u38 u39 u40 u41 u42 u43 u44 u45 u46 u47 u48 u49 u50 u51 u52 u53 u54 u55 u56 u57 u58 : Value) (K : Act → World → Prop) (Q0 : Exit → Act → World → Prop) (hr : RdI w0 w0.heap.size A l) (hl : l.length ≤ 3) (hb0 : b0.length = 9) (hm : ∀ x ∈ l, 0 ≤ x.d ∧ x.d < 8 ∧ 36 ≤ x.a ∧ x.a < 52 ∧ x.b.length = 32) (hI : (j ≤ l.length ∧ ErS w0 g cap bk cp v (b0 ++ plcB (l.take j)) (partsB (l.take j)) w))
    (hK : ∀ (v8 v9 v31 v32 v33 v34 v35 v36 v37 v38 v39 v40 v41 v42 v43 v44 v45 v46 v47 v48 v49 v50 v51 : Value) (v2 : Value) (V : World), ((j + 1) ≤ l.length ∧ ErS w0 g cap bk cp v2 (b0 ++ plcB (l.take (j + 1))) (partsB (l.take (j + 1))) V) → l.length - (j + 1) < l.length - j → K ⟨List.toArray (u0 :: u1 :: u2 :: u3 :: u4 :: u5 :: v2 :: (.slice (some ⟨g, 0, none⟩) 3 cap) :: v8 :: v9 :: u10 :: u11 :: u12 :: u13 :: u14 :: u15 :: u16 :: u17 :: u18 :: u19 :: u20 :: u21 :: u22 :: u23 :: u24 :: u25 :: u26 :: u27 :: (.slice A l.length c) :: (.int .i64 (l.length : Int)) :: (.int .i64 (((j + 1) : Nat) : Int)) :: v31 :: v32 :: v33 :: v34 :: v35 :: v36 :: v37 :: v38 :: v39 :: v40 :: v41 :: v42 :: v43 :: v44 :: v45 :: v46 :: v47 :: v48 :: v49 :: v50 :: v51 :: u52 :: u53 :: u54 :: u55 :: u56 :: u57 :: u58 :: []), []⟩ V)
    (hX : ∀ (v8 v9 v31 v32 v33 v34 v35 v36 v37 v38 v39 v40 v41 v42 v43 v44 v45 v46 v47 v48 v49 v50 v51 : Value), (j = l.length) → Q0 (.exit 0) ⟨List.toArray (u0 :: u1 :: u2 :: u3 :: u4 :: u5 :: v :: (.slice (some ⟨g, 0, none⟩) 3 cap) :: v8 :: v9 :: u10 :: u11 :: u12 :: u13 :: u14 :: u15 :: u16 :: u17 :: u18 :: u19 :: u20 :: u21 :: u22 :: u23 :: u24 :: u25 :: u26 :: u27 :: (.slice A l.length c) :: (.int .i64 (l.length : Int)) :: (.int .i64 ((j : Nat) : Int)) :: v31 :: v32 :: v33 :: v34 :: v35 :: v36 :: v37 :: v38 :: v39 :: v40 :: v41 :: v42 :: v43 :: v44 :: v45 :: v46 :: v47 :: v48 :: v49 :: v50 :: v51 :: u52 :: u53 :: u54 :: u55 :: u56 :: u57 :: u58 :: []), []⟩ w) :
    Code.wp Tryd.prog (sub [1, 1, 1, 1, 0, 1, 0, 0] codeER) (Exit.then K Q0) ⟨List.toArray (u0 :: u1 :: u2 :: u3 :: u4 :: u5 :: v :: (.slice (some ⟨g, 0, none⟩) 3 cap) :: u8 :: u9 :: u10 :: u11 :: u12 :: u13 :: u14 :: u15 :: u16 :: u17 :: u18 :: u19 :: u20 :: u21 :: u22 :: u23 :: u24 :: u25 :: u26 :: u27 :: (.slice A l.length c) :: (.int .i64 (l.length : Int)) :: (.int .i64 ((j : Nat) : Int)) :: u31 :: u32 :: u33 :: u34 :: u35 :: u36 :: u37 :: u38 :: u39 :: u40 :: u41 :: u42 :: u43 :: u44 :: u45 :: u46 :: u47 :: u48 :: u49 :: u50 :: u51 :: u52 :: u53 :: u54 :: u55 :: u56 :: u57 :: u58 :: []), []⟩ w := by
  have HK := Lib.hid hK
  have HX := Lib.hid hX
  clear hK hX
  conv => arg 2; whnf
  obtain ⟨hj, hst⟩ := hI
  by_cases hlt : j < l.length
  · obtain ⟨ga, rfl, hga, hc⟩ := hr.2 (by omega)
    obtain ⟨D, cd, hrp, hrd⟩ := hc j hlt
    have hk := hm _ (itN_mem hlt)
    have Ht := Lib.hid (plcB_take hlt)
    obtain ⟨hz, hset⟩ := partsB_next hl hlt
    have hpl : (b0 ++ plcB (l.take j)).length ≤ 15 := by rw [List.length_append, plcB_len, hb0]; simp; omega
    generalize itN l j = y at hrp hrd hk Ht hset
    obtain ⟨d, a, b⟩ := y
    dsimp only at hrp hrd hk Ht hset
    obtain ⟨hd0, hd1, ha0, ha1, hb32⟩ := hk
    rw [hb32] at hrp
    have ed : d = ((byN d 0).toNat : Int) := by have := byX_one (n := d) (by omega); omega
    have ea : a = ((byN a 0).toNat : Int) := by have := byX_one (n := a) (by omega); omega
    generalize byN d 0 = ub at ed Ht
    generalize byN a 0 = uc at ea Ht
    subst ed ea
    have mu : (ub.toNat : Int) % 256 = (ub.toNat : Int) := by have : ub.toNat < 256 := ub.toNat_lt; omega
    have mc : (uc.toNat : Int) % 256 = (uc.toNat : Int) := by have : uc.toNat < 256 := uc.toNat_lt; omega
    have Hrp := Lib.hid (rangeAt_keep (w' := w) hrp fun k => hst.2.2.2.cell hga)
    obtain ⟨q, hq⟩ : ∃ q, w.heap.size = q := ⟨_, rfl⟩
    have hx2 := cell_of_row _ _ 2 _ _ _ (heap_alloc_new w (.cells #[.int .i64 (ub.toNat : Int), .int .i64 (uc.toNat : Int), .slice D 32 cd] 51))
    rw [hq] at hx2
    have hvq := fun k e => (hst.1.lt k e).2
    rw [hq] at hvq
    have HA := Lib.hid (hst.below (below1 w (.cells #[.int .i64 (ub.toNat : Int), .int .i64 (uc.toNat : Int), .slice D 32 cd] 51)))
    have hsz1 : (w.alloc (.cells #[.int .i64 (ub.toNat : Int), .int .i64 (uc.toNat : Int), .slice D 32 cd] 51)).heap.size = q + 1 := by simp [hq]
    have HA2 := Lib.hid (HA.out.below (below1 (w.alloc (.cells #[.int .i64 (ub.toNat : Int), .int .i64 (uc.toNat : Int), .slice D 32 cd] 51)) (.cells #[.int .u8 (ub.toNat : Int), .int .u8 (uc.toNat : Int)] 5)))
    have HX2 := Lib.hid ((World.cell?_alloc_lt (w.alloc (.cells #[.int .i64 (ub.toNat : Int), .int .i64 (uc.toNat : Int), .slice D 32 cd] 51)) (.cells #[.int .u8 (ub.toNat : Int), .int .u8 (uc.toNat : Int)] 5) ⟨q, 2, none⟩ (by show q < _; rw [hsz1]; omega)).trans hx2)
    have RL := Lib.hid (rd_lit (W := w.alloc (.cells #[.int .i64 (ub.toNat : Int), .int .i64 (uc.toNat : Int), .slice D 32 cd] 51)) (e := 5) (C := #[.int .u8 (ub.toNat : Int), .int .u8 (uc.toNat : Int)]) [ub, uc] rfl rfl (by simp))
    rw [hsz1] at RL
    obtain ⟨W2, hW2⟩ : ∃ W, (w.alloc (.cells #[.int .i64 (ub.toNat : Int), .int .i64 (uc.toNat : Int), .slice D 32 cd] 51)).alloc (.cells #[.int .u8 (ub.toNat : Int), .int .u8 (uc.toNat : Int)] 5) = W := ⟨_, rfl⟩
    rw [hW2] at HA2 HX2 RL
    have HVq := Lib.hid hvq
    have Hq := Lib.hid (show q < W2.heap.size from World.block_lt_of_cell? _ _ HX2.out)
    have HZ := Lib.hid hz
    have HSet := Lib.hid hset
    have HRd := Lib.hid hrd
    have H32 := Lib.hid hb32
    have k0 : (0 : Int) ≤ (j : Int) := by omega
    have k1 : (j : Int) < (l.length : Int) := by omega
    have k3 : (j : Int) < 3 := by omega
    have HL3 := Lib.hid hl
    have HB0 := Lib.hid hpl
    generalize hbs : b0 ++ plcB (l.take j) = bs at HA2 HB0
    have Hbs := Lib.hid hbs
    generalize partsB (l.take j) = ps at HA2 HZ HSet
    clear hbs hr hl hb0 hm hst hc hrp hrd hz hset hpl HX HA hx2 hvq hb32
    go_wp2_with (first
      | ((with_reducible refine (id ?_ : wpList _ _ _ (⟨some 34, _, _, _, _, _⟩ :: _) _ _)); refine wpList_load_mid rfl 51 _ (by rfl) ga (j * 3) (by rfl) [.int .i64 (ub.toNat : Int), .int .i64 (uc.toNat : Int), .slice D 32 cd] _ Hrp.out Tryd.underlying51 rfl (by kernel_rfl) ?_)
      | ((with_reducible refine (id ?_ : wpList _ _ _ (⟨some 43, _, _, _, _, _⟩ :: _) _ _)); refine wpList_append_B _ rfl _ _ _ rfl w0.heap.size 5 Tryd.underlying22 info_u8 v bs rfl HA2.out.1 _ (some ⟨q + 1, 0, none⟩) 2 2 [ub, uc] rfl rfl RL.out (by have := HB0.out; simp; omega) HA2.out.2.2.2.size ?_
         intro v4 w4 O4 g4 hat4
         have H4 := Lib.hid (HA2.out.grow O4 g4 hat4)
         have C4 := Lib.hid ((g4.cell_far ⟨q, 2, none⟩ Hq.out (fun e => by have := HVq.out q e.symm; omega)).trans HX2.out)
         clear O4 g4 hat4))
    generalize hbq : bs ++ [ub, uc] = bq at H4
    have Hbq := Lib.hid hbq
    generalize hpj : ps = pj at H4 HZ HSet
    clear hbq hpj HA2 HX2 RL hW2 HVq Hq HB0
    refine wp_region_noPanic (region_ord 6 [] (fun V => ErS w0 g cap bk cp v4 bq pj V ∧ V.cell? ⟨q, 2, none⟩ = some (.slice D 32 cd)) (by kernel_rfl) (by kernel_rfl) (fun _ _ _ _ _ h => h) fun R => ?_)
    change anyI _ _ _ _ _ _ 7 _ _ w4.drew
    have HS0 := Lib.hid (show (fun V => ErS w0 g cap bk cp v4 bq pj V ∧ V.cell? ⟨q, 2, none⟩ = some (.slice D 32 cd)) w4.drew from ⟨H4.out.drew, C4.out⟩)
    refine' anyI_take R 0 rfl (v := ?_) (by kernel_rfl) (by rfl) (fun V hV => ?hy) HS0.out ?_
    case hy => ((try dsimp only at hV);  have p0 := hV.1.2.1.cell j (by omega); have p1 := hV.2; go_simp; try with_reducible rfl)
    try simp only [Act.put, List.getElem_toArray, List.getElem_cons_succ, List.getElem_cons_zero, List.setIfInBounds_toArray, List.set_cons_zero, List.set_cons_succ]
    refine' anyI_take R 1 rfl (v := ?_) (by kernel_rfl) (by rfl) (fun V hV => ?hy) HS0.out ?_
    case hy => ((try dsimp only at hV);  have p0 := hV.1.2.1.cell j (by omega); have p1 := hV.2; go_simp; try with_reducible rfl)
    try simp only [Act.put, List.getElem_toArray, List.getElem_cons_succ, List.getElem_cons_zero, List.setIfInBounds_toArray, List.set_cons_zero, List.set_cons_succ]
    refine' anyI_take R 2 rfl (v := ?_) (by kernel_rfl) (by rfl) (fun V hV => ?hy) HS0.out ?_
    case hy => ((try dsimp only at hV);  have p0 := hV.1.2.1.cell j (by omega); have p1 := hV.2; go_simp; try with_reducible rfl)
    try simp only [Act.put, List.getElem_toArray, List.getElem_cons_succ, List.getElem_cons_zero, List.setIfInBounds_toArray, List.set_cons_zero, List.set_cons_succ]
    refine' anyI_take R 3 rfl (v := ?_) (by kernel_rfl) (by rfl) (fun V hV => ?hy) HS0.out ?_
    case hy => ((try dsimp only at hV);  have p0 := hV.1.2.1.cell j (by omega); have p1 := hV.2; go_simp; try with_reducible rfl)
    try simp only [Act.put, List.getElem_toArray, List.getElem_cons_succ, List.getElem_cons_zero, List.setIfInBounds_toArray, List.set_cons_zero, List.set_cons_succ]
    refine' anyI_take R 4 rfl (v := ?_) (by kernel_rfl) (by rfl) (fun V hV => ?hy) HS0.out ?_
    case hy => ((try dsimp only at hV);  have p0 := hV.1.2.1.cell j (by omega); have p1 := hV.2; go_simp; try with_reducible rfl)
    try simp only [Act.put, List.getElem_toArray, List.getElem_cons_succ, List.getElem_cons_zero, List.setIfInBounds_toArray, List.set_cons_zero, List.set_cons_succ]
    refine' anyI_take R 5 rfl (v := ?_) (by kernel_rfl) (by rfl) (fun V hV => ?hy) HS0.out ?_
    case hy => ((try dsimp only at hV);  have p0 := hV.1.2.1.cell j (by omega); have p1 := hV.2; go_simp; try with_reducible rfl)
    try simp only [Act.put, List.getElem_toArray, List.getElem_cons_succ, List.getElem_cons_zero, List.setIfInBounds_toArray, List.set_cons_zero, List.set_cons_succ]
    refine anyI_tail (by kernel_rfl) ?_
    try simp only [List.drop_succ_cons, List.drop_zero]
    clear R
    have h5 := HS0.out.1.2.1.own j (by omega)
    rw [HZ.out] at h5
    refine wpList_copy_B rfl _ _ _ rfl 5 Tryd.underlying22 (by kernel_rfl) (bk j) 32 (cp j) w0.heap.size z32 rfl h5 rfl _ D 32 cd b rfl H32.out.symm ((HRd.out.below HS0.out.1.2.2.2 (Nat.le_refl _))) ?_
    intro w6 O6 g6 _
    rw [copyB_32 H32.out] at O6
    have H6 := Lib.hid (HS0.out.1.copy j (by omega) O6 H32.out g6)
    rw [HSet.out, ← Hbq.out] at H6
    clear O6 g6 HS0 h5 C4
    go_wp2_with fail
    refine NoPanic.normal ?_
    go_wp2_with fail
    exact HK.out _ _ _ _ _ _ _ _ _ _ _ _ _ _ _ _ _ _ _ _ _ _ _ _ _ ⟨by omega, by rw [Ht.out, ← List.append_assoc, Hbs.out]; exact H6.out⟩ (by omega)
  · obtain rfl : j = l.length := by omega
    clear HK hr hl hb0 hm hst
    go_wp2_with fail
    exact HX.out _ _ _ _ _ _ _ _ _ _ _ _ _ _ _ _ _ _ _ _ _ _ _ (by trivial)
set_option maxRecDepth 100000 in
set_option maxHeartbeats 3200000 in
theorem erR {w0 : World} {A : Option Addr} {c g cap : Nat} {bk cp : Nat → Nat} {l : List It} {b0 : List UInt8} {v0 : Value} {w : World} (u0 u1 u2 u3 u4 u5 u8 u9 u10 u11 u12 u13 u14 u15 u16 u17 u18 u19 u20 u21 u22 u23 u24 u25 u26 u27 u31 u32 u33 u34 u35 u36 u37 u38 u39 u40 u41 u42 u43 u44 u45 u46 u47 u48 u49 u50 u51 u52 u53 u54 u55 u56 u57 u58 : Value) (Q : Exit → Act → World → Prop) (hr : RdI w0 w0.heap.size A l) (hl : l.length ≤ 3) (hb0 : b0.length = 9) (hm : ∀ x ∈ l, 0 ≤ x.d ∧ x.d < 8 ∧ 36 ≤ x.a ∧ x.a < 52 ∧ x.b.length = 32) (hI : (0 ≤ l.length ∧ ErS w0 g cap bk cp v0 (b0 ++ plcB (l.take 0)) (partsB (l.take 0)) w))
    (hX : ∀ (v8 v9 v31 v32 v33 v34 v35 v36 v37 v38 v39 v40 v41 v42 v43 v44 v45 v46 v47 v48 v49 v50 v51 : Value) (j : Nat) (v : Value) (V : World), (j ≤ l.length ∧ ErS w0 g cap bk cp v (b0 ++ plcB (l.take j)) (partsB (l.take j)) V) → (j = l.length) → Q (.exit 0) ⟨List.toArray (u0 :: u1 :: u2 :: u3 :: u4 :: u5 :: v :: (.slice (some ⟨g, 0, none⟩) 3 cap) :: v8 :: v9 :: u10 :: u11 :: u12 :: u13 :: u14 :: u15 :: u16 :: u17 :: u18 :: u19 :: u20 :: u21 :: u22 :: u23 :: u24 :: u25 :: u26 :: u27 :: (.slice A l.length c) :: (.int .i64 (l.length : Int)) :: (.int .i64 ((j : Nat) : Int)) :: v31 :: v32 :: v33 :: v34 :: v35 :: v36 :: v37 :: v38 :: v39 :: v40 :: v41 :: v42 :: v43 :: v44 :: v45 :: v46 :: v47 :: v48 :: v49 :: v50 :: v51 :: u52 :: u53 :: u54 :: u55 :: u56 :: u57 :: u58 :: []), []⟩ V) :
    Code.wp Tryd.prog (.loop (sub [1, 1, 1, 1, 0, 1, 0, 0] codeER)) Q ⟨List.toArray (u0 :: u1 :: u2 :: u3 :: u4 :: u5 :: v0 :: (.slice (some ⟨g, 0, none⟩) 3 cap) :: u8 :: u9 :: u10 :: u11 :: u12 :: u13 :: u14 :: u15 :: u16 :: u17 :: u18 :: u19 :: u20 :: u21 :: u22 :: u23 :: u24 :: u25 :: u26 :: u27 :: (.slice A l.length c) :: (.int .i64 (l.length : Int)) :: (.int .i64 ((0 : Nat) : Int)) :: u31 :: u32 :: u33 :: u34 :: u35 :: u36 :: u37 :: u38 :: u39 :: u40 :: u41 :: u42 :: u43 :: u44 :: u45 :: u46 :: u47 :: u48 :: u49 :: u50 :: u51 :: u52 :: u53 :: u54 :: u55 :: u56 :: u57 :: u58 :: []), []⟩ w := by
  refine wp_loop_ghost (fun gk a V => ∀ C : Prop, (∀ (u8 u9 u31 u32 u33 u34 u35 u36 u37 u38 u39 u40 u41 u42 u43 u44 u45 u46 u47 u48 u49 u50 u51 : Value) (j : Nat) (v : Value), gk = l.length - j → (j ≤ l.length ∧ ErS w0 g cap bk cp v (b0 ++ plcB (l.take j)) (partsB (l.take j)) V) → a = ⟨List.toArray (u0 :: u1 :: u2 :: u3 :: u4 :: u5 :: v :: (.slice (some ⟨g, 0, none⟩) 3 cap) :: u8 :: u9 :: u10 :: u11 :: u12 :: u13 :: u14 :: u15 :: u16 :: u17 :: u18 :: u19 :: u20 :: u21 :: u22 :: u23 :: u24 :: u25 :: u26 :: u27 :: (.slice A l.length c) :: (.int .i64 (l.length : Int)) :: (.int .i64 ((j : Nat) : Int)) :: u31 :: u32 :: u33 :: u34 :: u35 :: u36 :: u37 :: u38 :: u39 :: u40 :: u41 :: u42 :: u43 :: u44 :: u45 :: u46 :: u47 :: u48 :: u49 :: u50 :: u51 :: u52 :: u53 :: u54 :: u55 :: u56 :: u57 :: u58 :: []), []⟩ → C) → C) (l.length - 0) ?_ ?_
  · intro C hC
    exact hC _ _ _ _ _ _ _ _ _ _ _ _ _ _ _ _ _ _ _ _ _ _ _ (0) (v0) rfl hI rfl
  · intro gk a V hI'
    refine hI' _ ?_
    intro u8 u9 u31 u32 u33 u34 u35 u36 u37 u38 u39 u40 u41 u42 u43 u44 u45 u46 u47 u48 u49 u50 u51 j v hk hinv ha
    subst ha
    subst hk
    refine erRb _ _ _ _ _ _ _ _ _ _ _ _ _ _ _ _ _ _ _ _ _ _ _ _ _ _ _ _ _ _ _ _ _ _ _ _ _ _ _ _ _ _ _ _ _ _ _ _ _ _ _ _ _ _ _ _ hr hl hb0 hm hinv (fun v8 v9 v31 v32 v33 v34 v35 v36 v37 v38 v39 v40 v41 v42 v43 v44 v45 v46 v47 v48 v49 v50 v51 v2 V2 h2 hm => ?_) (fun v8 v9 v31 v32 v33 v34 v35 v36 v37 v38 v39 v40 v41 v42 v43 v44 v45 v46 v47 v48 v49 v50 v51 hx => hX v8 v9 v31 v32 v33 v34 v35 v36 v37 v38 v39 v40 v41 v42 v43 v44 v45 v46 v47 v48 v49 v50 v51 j v V hinv hx)
    refine ⟨_, hm, fun C hC => ?_⟩
    exact hC v8 v9 v31 v32 v33 v34 v35 v36 v37 v38 v39 v40 v41 v42 v43 v44 v45 v46 v47 v48 v49 v50 v51 ((j + 1)) (v2) rfl h2 rfl
end Go.Proofs.YtfgiomidlfoonaaDoor
end
