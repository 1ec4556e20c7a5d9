/- Texts put together: PartsOwn, SyndOwn, EraseMath, CloneB, EraseBits, Rq, GeoMath. -/
import Derived.Test.YtenkkdnepmoihaaGreatDoorUrab
import Derived.Test.YtenkkdnepmoihaaGreatDoorUrac
import Derived.Laws.OwnMore
import Derived.WalkKit
section
namespace Go.Proofs.YtenkkdnepmoihaaGreatDoor
open Go.RowKit

/-- A slice of bytes in a block from lo on. -/
def RdBF (lo : Nat) (w : World) (A : Option Addr) (bs : List UInt8) : Prop :=
  bs.length ≤ 140737488355328 ∧ (0 < bs.length → ∃ b off, A = some ⟨b, off, none⟩ ∧ b < w.heap.size ∧ lo ≤ b ∧ ∀ k, k < bs.length → w.cell? ⟨b, off + k, none⟩ = some (.int .u8 ((bs.getD k 0).toNat : Int)))
def RdF (lo : Nat) (w : World) (A : Option Addr) (rs : List (List UInt8)) : Prop :=
  rs.length ≤ 140737488355328 ∧ (0 < rs.length → ∃ b off, A = some ⟨b, off, none⟩ ∧ b < w.heap.size ∧ lo ≤ b ∧ ∀ k, k < rs.length → ∃ A' c, w.cell? ⟨b, off + k, none⟩ = some (.slice A' (rs.getD k []).length c) ∧ RdBF lo w A' (rs.getD k []))
theorem RdBF.rdb {lo : Nat} {w : World} {A : Option Addr} {bs : List UInt8} (h : RdBF lo w A bs) : RdB w w.heap.size A bs :=
  ⟨h.1, fun h0 => by
    obtain ⟨b, off, e, hb, _, hc⟩ := h.2 h0
    exact ⟨b, off, e, hb, hc⟩⟩
theorem RdF.rdr {lo : Nat} {w : World} {A : Option Addr} {rs : List (List UInt8)} (h : RdF lo w A rs) : RdR w w.heap.size A rs :=
  ⟨h.1, fun h0 => by
    obtain ⟨b, off, e, hb, _, hc⟩ := h.2 h0
    refine ⟨b, off, e, hb, fun k hk => ?_⟩
    obtain ⟨A', c, h1, h2⟩ := hc k hk
    exact ⟨A', c, h1, h2.rdb⟩⟩
theorem RdBF.keep {lo : Nat} {w w' : World} {A : Option Addr} {bs : List UInt8} (h : RdBF lo w A bs) (hz : w.heap.size ≤ w'.heap.size) (hk : ∀ p : Addr, lo ≤ p.block → p.block < w.heap.size → w'.cell? p = w.cell? p) : RdBF lo w' A bs :=
  ⟨h.1, fun h0 => by
    obtain ⟨b, off, e, hb, hl, hc⟩ := h.2 h0
    exact ⟨b, off, e, by omega, hl, fun k hk' => (hk ⟨b, off + k, none⟩ hl hb).trans (hc k hk')⟩⟩
/-- Values that read as rows, none of them in block ob, all from lo on. -/
def RowsY (w : World) (lo : Nat) (ob : Option Nat) (xs : List Value) (rs : List (List UInt8)) : Prop :=
  xs.length = rs.length ∧ ∀ k, k < rs.length → ∃ A c, xs[k]? = some (.slice A (rs.getD k []).length c) ∧ RdBF lo w A (rs.getD k []) ∧ (0 < (rs.getD k []).length → ∀ a, A = some a → some a.block ≠ ob)
theorem RowsY.nil (w : World) (lo : Nat) (ob : Option Nat) : RowsY w lo ob [] [] := ⟨rfl, fun k hk => by simp at hk⟩
theorem RowsY.below {w w' : World} {lo : Nat} {ob : Option Nat} {xs : List Value} {rs : List (List UInt8)} (h : RowsY w lo ob xs rs) (hb : Below w.heap.size w w') : RowsY w' lo ob xs rs :=
  ⟨h.1, fun k hk => by
    obtain ⟨A, c, h1, h2, h3⟩ := h.2 k hk
    exact ⟨A, c, h1, h2.keep hb.size fun _ _ hp => hb.cell hp, h3⟩⟩
theorem RowsY.grown {w w' : World} {lo : Nat} {ob ob' : Option Nat} {xs : List Value} {rs : List (List UInt8)} (h : RowsY w lo ob xs rs) (hg : w.grownBy w' ob) (ho : ob' = ob ∨ ob' = some w.heap.size) : RowsY w' lo ob' xs rs :=
  ⟨h.1, fun k hk => by
    obtain ⟨A, c, h1, h2, h3⟩ := h.2 k hk
    refine ⟨A, c, h1, ⟨h2.1, fun h0 => ?_⟩, fun h0 a ha => ?_⟩
    · obtain ⟨b, off, e, hb, hl, hc⟩ := h2.2 h0
      have hne := h3 h0 _ e
      refine ⟨b, off, e, by have := hg.size; omega, hl, fun j hj => ?_⟩
      rw [← hc j hj]
      exact World.cell?_of_block (w := w) (hg.block b hb hne)
    · rcases ho with rfl | rfl
      · exact h3 h0 a ha
      · obtain ⟨b, off, e, hb, hl, hc⟩ := h2.2 h0
        rw [ha] at e
        injection e with e
        subst e
        intro e
        injection e with e
        simp at e
        omega⟩
theorem RowsY.snoc {w : World} {lo : Nat} {ob : Option Nat} {xs : List Value} {rs : List (List UInt8)} (h : RowsY w lo ob xs rs) {A : Option Addr} {c : Nat} {bs : List UInt8} (hr : RdBF lo w A bs) (hne : 0 < bs.length → ∀ a, A = some a → some a.block ≠ ob) : RowsY w lo ob (xs ++ [.slice A bs.length c]) (rs ++ [bs]) :=
  ⟨by simp [h.1], fun k hk => by
    by_cases hk2 : k < rs.length
    · obtain ⟨A', c', h1, h2, h3⟩ := h.2 k hk2
      have e : (rs ++ [bs]).getD k [] = rs.getD k [] := by simp [List.getElem?_append_left hk2]
      rw [e]
      exact ⟨A', c', by rw [List.getElem?_append_left (by rw [h.1]; exact hk2)]; exact h1, h2, h3⟩
    · have hk3 : k = rs.length := by simp at hk; omega
      subst hk3
      have e : (rs ++ [bs]).getD rs.length [] = bs := by simp
      rw [e]
      exact ⟨A, c, by rw [← h.1]; simp, hr, hne⟩⟩
/-- An own row of slices, read as rows, with its room. -/
theorem rdf_own {w : World} {base : Nat} {e : TypeId} {v : Value} {n : Nat} {xs : List Value} {rs : List (List UInt8)} {ob : Option Nat} (h : w.ownsRow base e 1 v n xs) (hl : rs.length ≤ 140737488355328) (hx : RowsY w base ob xs rs) :
    ∃ A cap, v = .slice A rs.length cap ∧ rs.length ≤ cap ∧ RdF base w A rs := by
  have hn : n = rs.length := by have := h.1; have := hx.1; omega
  subst hn
  rcases h.2 with ⟨rfl, h0⟩ | ⟨g, cap, cur, rfl, hb, hg, h3, _, _, htk⟩
  · exact ⟨none, 0, by rw [h0], by omega, hl, fun h => by omega⟩
  · refine ⟨_, cap, rfl, h3, hl, fun _ => ⟨g, 0, rfl, (Array.getElem?_eq_some_iff.1 hg).1, hb, fun k hk => ?_⟩⟩
    obtain ⟨A, c, h1, h2, _⟩ := hx.2 k hk
    refine ⟨A, c, ?_, h2⟩
    rw [← htk, List.getElem?_take, if_pos (by omega), Array.getElem?_toList] at h1
    rw [Nat.zero_add, cell_of_row w g k cur e (0, 0) hg]
    exact h1
theorem OwB.rdbf {e : TypeId} {w : World} {B : Nat} {A : Option Addr} {n c : Nat} {bs : List UInt8} (h : OwB e w B (.slice A n c) bs) : RdBF B w A bs :=
  ⟨h.2, fun h0 => by
    obtain ⟨b, off, e, hb, hc⟩ := h.rdS.1.2 h0
    exact ⟨b, off, e, hb, by have := h.addr_ob h0 _ e; simpa using this, hc⟩⟩
end Go.Proofs.YtenkkdnepmoihaaGreatDoor
end
section
namespace Go.Proofs.YtenkkdnepmoihaaGreatDoor
open Go.RowKit

/-- An own slice of these bytes came back; nothing old has turned. -/
def Gives (w : World) (p : List UInt8) (e : Ending) (w' : World) : Prop := ∃ A c, e = .returned (.slice A p.length c) ∧ OwB 5 w' w.heap.size (.slice A p.length c) p ∧ Below w.heap.size w w'
theorem gives_of {w : World} {p q : List UInt8} (hp : p = q) {e : Ending} {w' : World} (h : ∃ v, e = .returned v ∧ OwB 5 w' w.heap.size v p ∧ Below w.heap.size w w') : Gives w q e w' := by
  subst hp
  obtain ⟨v, he, ho, hb⟩ := h
  obtain ⟨A, c, rfl, _, _⟩ := ho.rd
  exact ⟨A, c, he, ho, hb⟩
theorem p_gives {A : Option Addr} {rs : List (List UInt8)} {n cp : Nat} {w : World} {p : List UInt8} (hr : RdR w w.heap.size A rs) (hn : rs.length = n) (hp : pB rs = p) : Calls Tryz.prog 87 #[.slice A n cp] w (Gives w p) :=
  (p_any A rs n cp w hn hr).mono fun _ _ h => gives_of hp h
theorem q_gives {A : Option Addr} {rs : List (List UInt8)} {n cp : Nat} {w : World} {p : List UInt8} (hr : RdR w w.heap.size A rs) (hn : rs.length = n) (hp : qB rs = p) : Calls Tryz.prog 88 #[.slice A n cp] w (Gives w p) :=
  (q_any A rs n cp w hn hr).mono fun _ _ h => gives_of hp h
end Go.Proofs.YtenkkdnepmoihaaGreatDoor
end
section
namespace Go.Proofs.YtenkkdnepmoihaaGreatDoor

/-- Which of the first k rows are missing. -/
def missTo (rs : List (List UInt8)) (k : Nat) : List Nat := (List.range k).filter fun j => (rs.getD j []).length == 0
def missB (rs : List (List UInt8)) : List Nat := missTo rs rs.length
def sizedB (n : Nat) (rs : List (List UInt8)) : Bool := rs.all fun r => r.length == 0 || r.length == n
def fillR (n : Nat) (r : List UInt8) : List UInt8 := if r.length = 0 then zeroL n else r
def filledB (n : Nat) (rs : List (List UInt8)) : List (List UInt8) := rs.map (fillR n)
def byPB (p : List UInt8) (all : List (List UInt8)) : List UInt8 := pB [p, pB all]
def byQB (q : List UInt8) (all : List (List UInt8)) (k : Nat) : List UInt8 := scaleL (pB [q, qB all]) (gpow (-(k : Int)))
def bothB (p q : List UInt8) (all : List (List UInt8)) (i j : Nat) : List UInt8 :=
  scaleL (pB [pB [q, qB all], scaleL (pB [p, pB all]) (gpow i)]) (ginv (gpow i ^^^ gpow j))
def bothA (p q : List UInt8) (all : List (List UInt8)) (i j : Nat) : List UInt8 := pB [pB [p, pB all], bothB p q all i j]
/-- May it be asked, and can it be told? -/
def askB (n : Nat) (p q : List UInt8) (rs : List (List UInt8)) : Bool := decide (1 ≤ n) && (sizedB n [p, q] && sizedB n rs)
def canB (p q : List UInt8) (rs : List (List UInt8)) : Bool := decide ((missB rs).length ≤ 2 - (missB [p, q]).length) && (decide (0 < rs.length) && decide (rs.length ≤ 8))
def toldB (p q : List UInt8) (all : List (List UInt8)) : List Nat → List (List UInt8)
  | [] => all
  | [i] => all.set i (if p.length ≠ 0 then byPB p all else byQB q all i)
  | i :: j :: _ => (all.set i (bothA p q all i j)).set j (bothB p q all i j)
def solveB (n : Nat) (p q : List UInt8) (rs : List (List UInt8)) : Option (List (List UInt8)) :=
  if (askB n p q rs && canB p q rs) = true then some (toldB p q (filledB n rs) (missB rs)) else none

theorem missTo_succ (rs : List (List UInt8)) (k : Nat) : missTo rs (k + 1) = if (rs.getD k []).length = 0 then missTo rs k ++ [k] else missTo rs k := by
  unfold missTo
  rw [List.range_succ, List.filter_append]
  by_cases h : (rs.getD k []).length = 0
  · rw [if_pos h, List.filter_cons_of_pos (by simpa using h)]; rfl
  · rw [if_neg h, List.filter_cons_of_neg (by simpa using h)]; simp
theorem missTo_lt {rs : List (List UInt8)} {k : Nat} : ∀ j ∈ missTo rs k, j < k ∧ (rs.getD j []).length = 0 := fun j hj => by
  unfold missTo at hj
  simpa using hj
theorem missTo_len (rs : List (List UInt8)) (k : Nat) : (missTo rs k).length ≤ k := by
  unfold missTo
  have := List.length_filter_le (fun j => (rs.getD j []).length == 0) (List.range k)
  simpa using this
theorem missTo_mem {rs : List (List UInt8)} {k j : Nat} : j ∈ missTo rs k ↔ j < k ∧ (rs.getD j []).length = 0 := by
  unfold missTo
  simp
theorem missTo_sorted (rs : List (List UInt8)) (k : Nat) : (missTo rs k).Pairwise (· < ·) := List.Pairwise.filter _ List.pairwise_lt_range
theorem filledB_len (n : Nat) (rs : List (List UInt8)) : (filledB n rs).length = rs.length := by simp [filledB]
theorem filledB_get (n : Nat) (rs : List (List UInt8)) {k : Nat} (h : k < rs.length) : (filledB n rs).getD k [] = fillR n (rs.getD k []) := by simp [filledB, h]
theorem sizedB_mem {n : Nat} {rs : List (List UInt8)} (h : sizedB n rs = true) : ∀ r ∈ rs, r.length = 0 ∨ r.length = n := fun r hr => by
  unfold sizedB at h
  rw [List.all_eq_true] at h
  simpa using h r hr
theorem sizedB_iff {n : Nat} {rs : List (List UInt8)} : sizedB n rs = true ↔ ∀ k, k < rs.length → (rs.getD k []).length = 0 ∨ (rs.getD k []).length = n := by
  constructor
  · intro h k hk
    exact sizedB_mem h _ (by simp [hk])
  · intro h
    unfold sizedB
    rw [List.all_eq_true]
    intro r hr
    obtain ⟨k, hk, rfl⟩ := List.getElem_of_mem hr
    have := h k hk
    simpa [hk] using this
theorem filledB_mem {n : Nat} {rs : List (List UInt8)} (h : sizedB n rs = true) : ∀ r ∈ filledB n rs, r.length = n := fun r hr => by
  unfold filledB at hr
  obtain ⟨r', h1, rfl⟩ := List.mem_map.1 hr
  unfold fillR
  split
  · exact zeroL_len _
  · rcases sizedB_mem h r' h1 with h2 | h2
    · exact absurd h2 (by assumption)
    · exact h2

theorem xorL_cancel {a b : List UInt8} (h : a.length = b.length) : xorL (xorL a b) b = a := by
  rw [xorL_assoc, xorL_self, xorL_zero a _ h]
theorem xorL_left {a b : List UInt8} (h : a.length = b.length) : xorL a (xorL a b) = b := by
  rw [xorL_comm a, xorL_comm a, xorL_cancel h.symm]
theorem xorL_length {a b : List UInt8} {N : Nat} (h : a.length = N) (h' : b.length = N) : (xorL a b).length = N := by rw [xorL_len, h, h', Nat.min_self]
theorem mulU_xor_right (x : UInt8) {f g : Nat} (hf : f < 256) (hg : g < 256) : mulU x (f ^^^ g) = mulU x f ^^^ mulU x g :=
  UInt8.toNat_inj.1 (by rw [mulU_nat, UInt8.toNat_xor, mulU_nat, mulU_nat]; exact gmul_xor_right x.toNat_lt hf hg)
theorem scaleL_xor (a : List UInt8) {f g : Nat} (hf : f < 256) (hg : g < 256) : scaleL a (f ^^^ g) = xorL (scaleL a f) (scaleL a g) := by
  unfold scaleL xorL
  induction a with
  | nil => rfl
  | cons x a ih => rw [List.map_cons, List.map_cons, List.map_cons, List.zipWith_cons_cons, ih, mulU_xor_right x hf hg]
theorem scaleL_forth (a : List UInt8) {h : Nat} (hh : h < 256) (h0 : h ≠ 0) : scaleL (scaleL a h) (ginv h) = a := by
  rw [scaleL_scaleL a hh (ginv_lt h), gmul_inv hh h0, scaleL_one]
theorem gpow_inj {i j : Nat} (hi : i < 255) (hj : j < 255) (h : gpow (i : Int) = gpow (j : Int)) : i = j := by
  have := congrArg glog h
  rw [glog_gpow, glog_gpow] at this
  omega
theorem gpow_dif {i j : Nat} (hi : i < 255) (hj : j < 255) (h : i ≠ j) : gpow (i : Int) ^^^ gpow (j : Int) ≠ 0 := fun e => h (gpow_inj hi hj (by
  have h1 : gpow (i : Int) ^^^ gpow (j : Int) ^^^ gpow (j : Int) = 0 ^^^ gpow (j : Int) := by rw [e]
  rw [Nat.xor_assoc, Nat.xor_self, Nat.xor_zero, Nat.zero_xor] at h1
  exact h1))
theorem gpow_neg (k : Nat) (a : List UInt8) : scaleL (scaleL a (gpow k)) (gpow (-(k : Int))) = a ∧ scaleL (scaleL a (gpow (-(k : Int)))) (gpow k) = a := by
  constructor
  · rw [scaleL_scaleL a (gpow_lt _) (gpow_lt _), gpow_add, Int.add_right_neg, show gpow 0 = 1 by decide +kernel, scaleL_one]
  · rw [scaleL_scaleL a (gpow_lt _) (gpow_lt _), gpow_add, Int.add_left_neg, show gpow 0 = 1 by decide +kernel, scaleL_one]

/-- A row of zeros filled: the sum is what it was, and the row's. -/
theorem foldG_set {g : Nat → List UInt8 → List UInt8} {N : Nat} (hg : ∀ k r, (g k r).length = r.length) (h0 : ∀ k, g k (zeroL N) = zeroL N) (rs : List (List UInt8)) : ∀ i k z r, i < rs.length → rs.getD i [] = zeroL N → z.length = N → r.length = N → (∀ r ∈ rs, r.length = N) → foldG g k z (rs.set i r) = xorL (foldG g k z rs) (g (k + i) r) := by
  induction rs with
  | nil => intro i k z r hi; simp at hi
  | cons s rs ih =>
    intro i k z r hi hs hz hr hall
    cases i with
    | zero =>
      have hs' : s = zeroL N := by simpa using hs
      rw [List.set_cons_zero, foldG, foldG, hs', h0, xorL_zero z N hz, xorL_comm z, foldG_lin, xorL_comm]
      rfl
    | succ i =>
      rw [List.set_cons_succ, foldG, foldG, ih i (k + 1) _ r (by simpa using hi) (by simpa using hs) (xorL_length hz ((hg _ _).trans (hall s (by simp)))) hr (fun r' h' => hall r' (by simp [h']))]
      rw [Nat.add_assoc, Nat.add_comm 1 i]
theorem set_alike {rs : List (List UInt8)} {N i : Nat} {r : List UInt8} (hall : ∀ r ∈ rs, r.length = N) (hr : r.length = N) : ∀ s ∈ rs.set i r, s.length = N := fun s hs => by
  rcases List.mem_or_eq_of_mem_set hs with h | h
  · exact hall s h
  · exact h ▸ hr
theorem sumG_set {g : Nat → List UInt8 → List UInt8} {N : Nat} (hg : ∀ k r, (g k r).length = r.length) (h0 : ∀ k, g k (zeroL N) = zeroL N) {rs : List (List UInt8)} {i : Nat} {r : List UInt8} (hi : i < rs.length) (hs : rs.getD i [] = zeroL N) (hr : r.length = N) (hall : ∀ r ∈ rs, r.length = N) : sumG g (rs.set i r) = xorL (sumG g rs) (g i r) := by
  have h1 := alikeB_of (by omega : 0 < rs.length) hall
  have h2 := alikeB_of (rs := rs.set i r) (by simp; omega) (set_alike hall hr)
  unfold sumG
  rw [if_pos h1.1, if_pos h2.1, h1.2, h2.2, foldG_set hg h0 rs i 0 _ r hi hs (zeroL_len N) hr hall, Nat.zero_add]
theorem gP_zero (N k : Nat) : gP k (zeroL N) = zeroL N := rfl
theorem gQ_zero (N k : Nat) : gQ k (zeroL N) = zeroL N := scaleL_zero _ _
theorem pB_set {N : Nat} {rs : List (List UInt8)} {i : Nat} {r : List UInt8} (hi : i < rs.length) (hs : rs.getD i [] = zeroL N) (hr : r.length = N) (hall : ∀ r ∈ rs, r.length = N) : pB (rs.set i r) = xorL (pB rs) r := sumG_set gP_len (gP_zero N) hi hs hr hall
theorem qB_set {N : Nat} {rs : List (List UInt8)} {i : Nat} {r : List UInt8} (hi : i < rs.length) (hs : rs.getD i [] = zeroL N) (hr : r.length = N) (hall : ∀ r ∈ rs, r.length = N) : qB (rs.set i r) = xorL (qB rs) (scaleL r (gpow i)) := sumG_set gQ_len (gQ_zero N) hi hs hr hall
theorem pB_len {N : Nat} {rs : List (List UInt8)} (h0 : 0 < rs.length) (hall : ∀ r ∈ rs, r.length = N) : (pB rs).length = N := (sumG_len gP_len (alikeB_of h0 hall).1).trans (alikeB_of h0 hall).2
theorem qB_len {N : Nat} {rs : List (List UInt8)} (h0 : 0 < rs.length) (hall : ∀ r ∈ rs, r.length = N) : (qB rs).length = N := (sumG_len gQ_len (alikeB_of h0 hall).1).trans (alikeB_of h0 hall).2

/-- Rows all of N bytes, the asked ones zeros. -/
structure Holed (N : Nat) (all : List (List UInt8)) (i : Nat) : Prop where
  lt : i < all.length
  zero : all.getD i [] = zeroL N
  all : ∀ r ∈ all, r.length = N
/-- One is what its sum asks, and only that. -/
theorem byPB_only {N : Nat} {all : List (List UInt8)} {i : Nat} (h : Holed N all i) {r : List UInt8} (hr : r.length = N) : byPB (pB (all.set i r)) all = r := by
  have hl := pB_len (by have := h.lt; omega) h.all
  unfold byPB
  rw [pB_set h.lt h.zero hr h.all, pB_two ((xorL_length hl hr).trans hl.symm), xorL_comm, xorL_left (hl.trans hr.symm)]
theorem byQB_only {N : Nat} {all : List (List UInt8)} {i : Nat} (h : Holed N all i) {r : List UInt8} (hr : r.length = N) : byQB (qB (all.set i r)) all i = r := by
  have hl := qB_len (by have := h.lt; omega) h.all
  have hr' : (scaleL r (gpow i)).length = N := (scaleL_len _ _).trans hr
  unfold byQB
  rw [qB_set h.lt h.zero hr h.all, pB_two ((xorL_length hl hr').trans hl.symm), xorL_comm, xorL_left (hl.trans hr'.symm), (gpow_neg i r).1]

section
variable {N : Nat} {p q : List UInt8} {all : List (List UInt8)} {i j : Nat}
theorem both_shape (hi : Holed N all i) (hp : p.length = N) (hq : q.length = N) :
    bothB p q all i j = scaleL (xorL (xorL q (qB all)) (scaleL (xorL p (pB all)) (gpow i))) (ginv (gpow i ^^^ gpow j)) ∧ (bothB p q all i j).length = N ∧ bothA p q all i j = xorL (xorL p (pB all)) (bothB p q all i j) ∧ (bothA p q all i j).length = N := by
  have hl := pB_len (by have := hi.lt; omega) hi.all
  have hm := qB_len (by have := hi.lt; omega) hi.all
  have h1 := xorL_length hp hl
  have h2 := xorL_length hq hm
  have h3 : (scaleL (xorL p (pB all)) (gpow i)).length = N := (scaleL_len _ _).trans h1
  have e : bothB p q all i j = scaleL (xorL (xorL q (qB all)) (scaleL (xorL p (pB all)) (gpow i))) (ginv (gpow i ^^^ gpow j)) := by
    unfold bothB
    rw [pB_two (hp.trans hl.symm), pB_two (hq.trans hm.symm), pB_two (h2.trans h3.symm)]
  have hb : (bothB p q all i j).length = N := by rw [e, scaleL_len]; exact xorL_length h2 h3
  have e2 : bothA p q all i j = xorL (xorL p (pB all)) (bothB p q all i j) := by
    unfold bothA
    rw [pB_two (hp.trans hl.symm), pB_two (h1.trans hb.symm)]
  exact ⟨e, hb, e2, by rw [e2]; exact xorL_length h1 hb⟩
theorem holed_set (hi : Holed N all i) (hj : Holed N all j) (hne : i ≠ j) {r : List UInt8} (hr : r.length = N) : Holed N (all.set i r) j :=
  ⟨by simpa using hj.lt, by
    have := hj.zero
    simpa [List.getElem?_set_ne hne] using this, set_alike hi.all hr⟩
/-- Two are what both sums ask, and only that. -/
theorem both_only (hi : Holed N all i) (hj : Holed N all j) (hne : i ≠ j) (hi8 : i < 255) (hj8 : j < 255) {a b : List UInt8} (ha : a.length = N) (hb : b.length = N) :
    bothB (pB ((all.set i a).set j b)) (qB ((all.set i a).set j b)) all i j = b ∧ bothA (pB ((all.set i a).set j b)) (qB ((all.set i a).set j b)) all i j = a := by
  have hl := pB_len (by have := hi.lt; omega) hi.all
  have hm := qB_len (by have := hi.lt; omega) hi.all
  have hh := holed_set hi hj hne ha
  have hfa : (scaleL a (gpow i)).length = N := (scaleL_len _ _).trans ha
  have hfb : (scaleL b (gpow i)).length = N := (scaleL_len _ _).trans hb
  have hgb : (scaleL b (gpow j)).length = N := (scaleL_len _ _).trans hb
  have hab := xorL_length ha hb
  have hp : (pB ((all.set i a).set j b)).length = N := pB_len (by simp; have := hi.lt; omega) (set_alike hh.all hb)
  have hq : (qB ((all.set i a).set j b)).length = N := qB_len (by simp; have := hi.lt; omega) (set_alike hh.all hb)
  obtain ⟨e1, _, e2, _⟩ := both_shape (j := j) hi hp hq
  have ep : xorL (pB ((all.set i a).set j b)) (pB all) = xorL a b := by
    rw [pB_set hh.lt hh.zero hb hh.all, pB_set hi.lt hi.zero ha hi.all, xorL_assoc (pB all), xorL_comm, xorL_left (hl.trans hab.symm)]
  have eq : xorL (qB ((all.set i a).set j b)) (qB all) = xorL (scaleL a (gpow i)) (scaleL b (gpow j)) := by
    rw [qB_set hh.lt hh.zero hb hh.all, qB_set hi.lt hi.zero ha hi.all, xorL_assoc (qB all), xorL_comm, xorL_left (hm.trans (xorL_length hfa hgb).symm)]
  rw [ep, eq, scaleL_xorL a b] at e1
  have e3 : xorL (xorL (scaleL a (gpow i)) (scaleL b (gpow j))) (xorL (scaleL a (gpow i)) (scaleL b (gpow i))) = scaleL b (gpow i ^^^ gpow j) := by
    rw [scaleL_xor b (gpow_lt _) (gpow_lt _), xorL_comm (scaleL a (gpow i)) (scaleL b (gpow j)), xorL_assoc, xorL_left (hfa.trans hfb.symm), xorL_comm]
  rw [e3, scaleL_forth _ (xor_lt8 (gpow_lt _) (gpow_lt _)) (gpow_dif hi8 hj8 hne)] at e1
  exact ⟨e1, by rw [e2, e1, ep, xorL_cancel (ha.trans hb.symm)]⟩
end
end Go.Proofs.YtenkkdnepmoihaaGreatDoor
end
section
set_option maxRecDepth 8000
namespace Go.Proofs.YtenkkdnepmoihaaGreatDoor
open Go.RowKit

theorem own_empty (w : World) : OwB 5 (w.alloc (.cells #[] 5)) w.heap.size (.slice (some ⟨w.heap.size, 0, none⟩) 0 0) [] :=
  ⟨World.ownsRow_lit w #[] 0 (Nat.le_refl _) (by unfold maxLen; omega) rfl, by simp⟩
theorem clone_any (A : Option Addr) (bs : List UInt8) (n c : Nat) (w : World) (hn : n = bs.length) (hp : 0 < bs.length) (hr : RdB w w.heap.size A bs) :
    Calls Tryz.prog 86 #[.slice A n c] w fun e w' => ∃ v, e = .returned v ∧ OwB 5 w' w.heap.size v bs ∧ Below w.heap.size w w' := by
  have hl := hr.1
  obtain ⟨b, off, rfl, hb, hc⟩ := hr.2 hp
  subst hn
  have ho := own_empty w
  have hq : ∀ W : World, (binOp .eql 35 (.slice (some ⟨b, off, none⟩) bs.length c) (.slice none 0 0)).run Tryz.prog W = .ok (.bool false) W := fun _ => rfl
  have hr1 := hr.below (below1 w (.cells #[] 5)) (Nat.le_refl _)
  go_enter Tryz.func86, Tryz.ntmps86
  go_wp2_with (at_builtin; refine wpList_append_B _ rfl _ _ _ rfl w.heap.size 5 Tryz.underlying35 info_u8 (.slice (some ⟨w.heap.size, 0, none⟩) 0 0) [] rfl ho w.heap.size (some ⟨b, off, none⟩) bs.length c bs rfl rfl hr1 (by simpa using hl) (by simp) ?_; intro v' w' hown hg hat)
  have hbw := (below1 w (.cells #[] 5)).grown hg (by simp) (by simp [Value.ownBlock])
  rw [List.nil_append] at hown
  go_ret
  exact ⟨v', rfl, hown, hbw⟩
end Go.Proofs.YtenkkdnepmoihaaGreatDoor
end
section
namespace Go.Proofs.YtenkkdnepmoihaaGreatDoor
open Go.RowKit

def iv (k : Nat) : Value := .int .i64 (k : Int)
/-- The slice value v owns these numbers. -/
def OwI (w : World) (B : Nat) (v : Value) (ks : List Nat) : Prop := w.ownsRow B 3 1 v ks.length (ks.map iv)
theorem OwI.rd {w : World} {B : Nat} {v : Value} {ks : List Nat} (h : OwI w B v ks) : ∃ A c, v = .slice A ks.length c ∧ (0 < ks.length → ∃ g, A = some ⟨g, 0, none⟩ ∧ B ≤ g ∧ g < w.heap.size ∧ ∀ j, j < ks.length → w.cell? ⟨g, j, none⟩ = some (.int .i64 ((ks.getD j 0 : Nat) : Int))) := by
  rcases h.2 with ⟨rfl, h0⟩ | ⟨g, cap, cur, rfl, hB, hg, _⟩
  · exact ⟨none, 0, by rw [h0], fun h => by omega⟩
  · refine ⟨_, cap, rfl, fun _ => ⟨g, rfl, hB, (Array.getElem?_eq_some_iff.1 hg).1, fun j hj => ?_⟩⟩
    rw [World.ownsRow.cellAt h j (by omega)]
    simp [hj, iv]
theorem OwI.below {w w' : World} {B : Nat} {v : Value} {ks : List Nat} (h : OwI w B v ks) (hb : Below w.heap.size w w') : OwI w' B v ks := World.ownsRow.kept h (grown_none hb) (Classical.em _)
theorem info_int : (Tryz.prog.info? 3).map (fun i => (i.zero, i.size, i.bytes)) = some (some (.int .i64 0), 1, 8) := by kernel_rfl
theorem make_rows (n : Nat) (hn : n ≤ 1000000) (w : World) :
    (Instr.makeSlice 32 (.int .i64 (n : Int)) (.int .i64 (n : Int))).run Tryz.prog w = .ok (.slice (some ⟨w.heap.size, 0, none⟩) n n) (w.alloc (.cells (madeCells #[.slice none 0 0] n) 35)) :=
  run_make_row' _ _ _ 24 Tryz.underlying32 info_row rfl _ _ n (by omega) (by omega) w

set_option maxHeartbeats 400000 in
theorem missing_any (A : Option Addr) (rs : List (List UInt8)) (n cp : Nat) (w : World) (hn : rs.length = n) (hn8 : n ≤ 1000000) (hr : RdR w w.heap.size A rs) :
    Calls Tryz.prog 131 #[.slice A n cp] w fun e w' => ∃ v, e = .returned v ∧ OwI w' w.heap.size v (missB rs) ∧ Below w.heap.size w w' := by
  subst hn
  have Hall : Hid (missB rs = missTo rs rs.length) := rfl
  go_enter Tryz.func131, Tryz.ntmps131
  go_wp2
  go_loopw [3, 8] (fun o i wr => ∃ k : Nat, k ≤ rs.length ∧ i = .int .i64 k ∧ OwI wr w.heap.size o (missTo rs k) ∧ Below w.heap.size w wr) (fun _ i _ => rs.length - (intOf i).toNat)
  case atStart => exact ⟨0, Nat.zero_le _, rfl, World.ownsRow_nil _ _ _ _, Below.refl _ _⟩
  case round =>
    obtain ⟨k, hk, rfl, hown, hbr⟩ := hrel
    by_cases hlt : k < rs.length
    · obtain ⟨b, off, rfl, hbb, hc⟩ := hr.2 (by omega)
      obtain ⟨A', c', h1, h2⟩ := hc k hlt
      rw [← hbr.cell (p := ⟨b, off + k, none⟩) hbb] at h1
      have Hs := Lib.hid (missTo_succ rs k)
      have hml := missTo_len rs k
      generalize rs.getD k [] = row at h1 h2 Hs
      generalize missTo rs k = ms at hown Hs hml
      have i0 : (0 : Int) ≤ (k : Int) := by omega
      have i1 : (k : Int) < (rs.length : Int) := by omega
      clear hc
      by_cases he : row.length = 0
      · have Hs2 := Lib.hid (show missTo rs (k + 1) = ms ++ [k] by rw [Hs.out, if_pos he])
        have e0 : ((row.length : Int) == 0) = true := by rw [he]; rfl
        clear he Hs
        have hs0 := hbr.size
        go_wp2_with (at_builtin; refine wpList_append_V rfl _ _ _ rfl w.heap.size 3 (.int .i64 0) 8 Tryz.underlying22 info_int rfl _ ms.length (ms.map iv) rfl (World.ownsRow.kept hown (grown_none (below1 wr _)) (Classical.em _)) (wr.heap.size + 1) (some ⟨wr.heap.size, 0, none⟩) 1 1 [.int .i64 (k : Int)] rfl rfl (fun _ => ⟨wr.heap.size, 0, rfl, by omega, fun j hj => by obtain rfl : j = 0 := (by simp at hj; omega); exact cell_of_row _ _ _ _ _ _ (hp_new _ _ _ rfl)⟩) (fun u hu => by simp at hu; subst hu; rfl) (by unfold maxLen; omega) (by omega) (by simp; omega) ?_; intro v2 w2 hown2 hg2 hat2)
        have hbw2 := (hbr.alloc hbr.size (.cells #[.int .i64 (k : Int)] 3)).grown hg2 (by simp; omega) (fun j hj => (hown.lt j hj).1)
        have hown3 : OwI w2 w.heap.size v2 (missTo rs (k + 1)) := by
          rw [Hs2.out]
          unfold OwI
          rw [List.length_append, List.map_append]
          exact hown2
        clear hown2
        go_wp2
        go_roundw
        case rel => exact ⟨k + 1, by omega, by go_num, hown3, hbw2⟩
        case measure => simp [intOf]; omega
      · have Hs2 := Lib.hid (show missTo rs (k + 1) = ms by rw [Hs.out, if_neg he])
        have e0 : ((row.length : Int) == 0) = false := by rw [beq_eq_false_iff_ne]; omega
        clear he Hs
        go_wp2
        go_roundw
        case rel => exact ⟨k + 1, by omega, by go_num, by rw [Hs2.out]; exact hown, hbr⟩
        case measure => simp [intOf]; omega
    · obtain rfl : k = rs.length := by omega
      rw [← Hall.out] at hown
      go_wp2
      go_ret
      exact ⟨_, rfl, hown, hbr⟩

set_option maxHeartbeats 400000 in
theorem sized_any (A : Option Addr) (rs : List (List UInt8)) (n cp N : Nat) (w : World) (hn : rs.length = n) (hr : RdR w w.heap.size A rs) :
    Calls Tryz.prog 130 #[.int .i64 (N : Int), .slice A n cp] w fun e w' => e = .returned (.bool (sizedB N rs)) ∧ w' = w := by
  subst hn
  have Hz := Lib.hid (@sizedB_iff N rs)
  have hm := hr.1
  go_enter Tryz.func130, Tryz.ntmps130
  go_wp2
  go_loopw [9] (fun i wr => ∃ k : Nat, k ≤ rs.length ∧ i = .int .i64 k ∧ (∀ j, j < k → (rs.getD j []).length = 0 ∨ (rs.getD j []).length = N) ∧ wr = w) (fun i _ => rs.length - (intOf i).toNat)
  case atStart => exact ⟨0, Nat.zero_le _, rfl, fun j hj => absurd hj (Nat.not_lt_zero _), rfl⟩
  case round =>
    obtain ⟨k, hk, rfl, hj, rfl⟩ := hrel
    have Hj := Lib.hid hj
    clear hj
    by_cases hlt : k < rs.length
    · obtain ⟨b, off, rfl, hbb, hc⟩ := hr.2 (by omega)
      obtain ⟨A', c', h1, h2⟩ := hc k hlt
      have Hno := Lib.hid (show ¬ ((rs.getD k []).length = 0 ∨ (rs.getD k []).length = N) → sizedB N rs = false from fun h => by
        cases e : sizedB N rs with
        | false => rfl
        | true => exact absurd (Hz.out.1 e k hlt) h)
      have Hyes := Lib.hid (show ((rs.getD k []).length = 0 ∨ (rs.getD k []).length = N) → ∀ j, j < k + 1 → (rs.getD j []).length = 0 ∨ (rs.getD j []).length = N from fun h j hj => by
        by_cases e : j = k
        · rw [e]; exact h
        · exact Hj.out j (by omega))
      generalize (rs.getD k []).length = L at h1 Hno Hyes
      have i0 : (0 : Int) ≤ (k : Int) := by omega
      have i1 : (k : Int) < (rs.length : Int) := by omega
      clear hc h2
      by_cases he : L = 0
      · have Hn := Lib.hid (Hyes.out (.inl he))
        have e0 : ((L : Int) != 0) = false := by rw [he]; rfl
        clear he
        go_wp2
        go_roundw
        case rel => exact ⟨k + 1, by omega, by go_num, Hn.out, trivial⟩
        case measure => simp [intOf]; omega
      · have e0 : ((L : Int) != 0) = true := by rw [bne_iff_ne]; omega
        by_cases hN : L = N
        · have Hn := Lib.hid (Hyes.out (.inr hN))
          have e1 : ((L : Int) != (N : Int)) = false := int_bne_no hN
          clear he hN
          go_wp2
          go_roundw
          case rel => exact ⟨k + 1, by omega, by go_num, Hn.out, trivial⟩
          case measure => simp [intOf]; omega
        · have Hn := Lib.hid (Hno.out (fun h => h.elim he hN))
          have e1 : ((L : Int) != (N : Int)) = true := int_bne_yes hN
          clear he hN
          go_wp2
          go_ret
          exact ⟨by rw [Hn.out]; rfl, rfl⟩
    · obtain rfl : k = rs.length := by omega
      have Hn := Lib.hid (Hz.out.2 Hj.out)
      go_wp2
      go_ret
      exact ⟨by rw [Hn.out]; rfl, rfl⟩

/-- The first k rows filled, the others not there yet. -/
def fillTo (n : Nat) (rs : List (List UInt8)) (k : Nat) : List (List UInt8) := (rs.take k).map (fillR n) ++ List.replicate (rs.length - k) []
theorem fillTo_len (n : Nat) (rs : List (List UInt8)) {k : Nat} (h : k ≤ rs.length) : (fillTo n rs k).length = rs.length := by simp [fillTo]; omega
theorem fillTo_all (n : Nat) (rs : List (List UInt8)) : fillTo n rs rs.length = filledB n rs := by simp [fillTo, filledB]
theorem fillTo_succ (n : Nat) (rs : List (List UInt8)) {k : Nat} (h : k < rs.length) : (fillTo n rs k).set k (fillR n (rs.getD k [])) = fillTo n rs (k + 1) := by
  have hl : ((rs.take k).map (fillR n)).length = k := by simp; omega
  unfold fillTo
  rw [List.set_append_right _ _ (by omega), hl, Nat.sub_self, show rs.length - k = (rs.length - (k + 1)) + 1 from by omega, List.replicate_succ, List.set_cons_zero, List.take_succ_eq_append_getElem h, List.map_append, List.append_assoc]
  simp [h]
theorem RowsY.set {w : World} {lo : Nat} {ob : Option Nat} {xs : List Value} {rs : List (List UInt8)} (h : RowsY w lo ob xs rs) (j : Nat) {A : Option Addr} {c : Nat} {bs : List UInt8} (hr : RdBF lo w A bs) (hne : 0 < bs.length → ∀ a, A = some a → some a.block ≠ ob) : RowsY w lo ob (xs.set j (.slice A bs.length c)) (rs.set j bs) :=
  ⟨by simp [h.1], fun k hk => by
    rw [List.length_set] at hk
    by_cases hkj : j = k
    · subst hkj
      have e : (rs.set j bs).getD j [] = bs := by simp [hk]
      rw [e]
      exact ⟨A, c, by simp [show j < xs.length by rw [h.1]; exact hk], hr, hne⟩
    · have e : (rs.set j bs).getD k [] = rs.getD k [] := by simp [List.getElem?_set_ne hkj]
      rw [e, List.getElem?_set_ne hkj]
      exact h.2 k hk⟩
/-- An own row of rows: its value, what it holds, all from base on. -/
def OwR (w : World) (base g n cap : Nat) (rs : List (List UInt8)) : Prop :=
  rs.length = n ∧ n ≤ cap ∧ base ≤ g ∧ ∃ xs, w.ownsRow base 35 1 (.slice (some ⟨g, 0, none⟩) n cap) n xs ∧ RowsY w base (some g) xs rs
section
variable {w w' : World} {base g n cap : Nat} {rs : List (List UInt8)}
theorem OwR.lt (h : OwR w base g n cap rs) : g < w.heap.size := by
  obtain ⟨_, _, _, xs, h1, _⟩ := h
  exact (h1.lt g rfl).2
theorem OwR.below (h : OwR w base g n cap rs) (hb : Below w.heap.size w w') : OwR w' base g n cap rs := by
  obtain ⟨h0, hc, hg, xs, h1, h2⟩ := h
  exact ⟨h0, hc, hg, xs, h1.kept (grown_none hb) (Classical.em _), h2.below hb⟩
theorem OwR.cell (h : OwR w base g n cap rs) (j : Nat) (hj : j < n) : ∃ A c, w.cell? ⟨g, j, none⟩ = some (.slice A (rs.getD j []).length c) ∧ RdBF base w A (rs.getD j []) ∧ w.frozen? ⟨g, j, none⟩ = false := by
  obtain ⟨h0, _, _, xs, h1, h2⟩ := h
  obtain ⟨A, c, h3, h4, _⟩ := h2.2 j (by omega)
  exact ⟨A, c, by rw [World.ownsRow.cellAt h1 j (by omega)]; exact h3, h4, World.ownsRow.frozenAt h1 j⟩
theorem OwR.rdf (h : OwR w base g n cap rs) (hl : n ≤ 140737488355328) : RdF base w (some ⟨g, 0, none⟩) rs := by
  obtain ⟨h0, _, _, xs, h1, h2⟩ := h
  subst h0
  obtain ⟨A, c, hv, _, hr⟩ := rdf_own h1 hl h2
  injection hv with h3 _ _
  rw [h3]
  exact hr
theorem OwR.rdr (h : OwR w base g n cap rs) (hl : n ≤ 140737488355328) : RdR w w.heap.size (some ⟨g, 0, none⟩) rs := (h.rdf hl).rdr
/-- Its row j stored anew. -/
theorem OwR.set (h : OwR w base g n cap rs) (j : Nat) {A : Option Addr} {c : Nat} {bs : List UInt8} (hr : RdBF base w A bs) (hne : 0 < bs.length → ∀ a, A = some a → a.block ≠ g) :
    OwR (w.setCell ⟨g, j, none⟩ (.slice A bs.length c)) base g n cap (rs.set j bs) := by
  obtain ⟨h0, hc, hg, xs, h1, h2⟩ := h
  obtain ⟨h3, h4⟩ := World.ownsRow.stored h1 j (.slice A bs.length c)
  exact ⟨by rw [List.length_set]; exact h0, hc, hg, _, h3, (h2.set j hr fun hp a ha e => hne hp a ha (by injection e)).grown h4 (.inl rfl)⟩
end
/-- A block newer than g. -/
theorem OwB.newer {w : World} {B g : Nat} {A : Option Addr} {n c : Nat} {bs : List UInt8} {e : TypeId} (h : OwB e w B (.slice A n c) bs) (hg : g < B) : 0 < bs.length → ∀ a, A = some a → a.block ≠ g := fun hp a ha => by
  have := h.addr_ob hp a ha
  omega
theorem filled_new (w : World) (n : Nat) (hn : n ≤ 1000000) (N : Nat) (rs : List (List UInt8)) (hl : rs.length = n) : OwR (w.alloc (.cells (madeCells #[.slice none 0 0] n) 35)) w.heap.size w.heap.size n n (fillTo N rs 0) := by
  refine ⟨by rw [fillTo_len N rs (Nat.zero_le _)]; exact hl, Nat.le_refl _, Nat.le_refl _, _, World.ownsRow_lit w _ n (Nat.le_refl _) (by unfold maxLen; omega) (by simp [size_madeCells]), ?_⟩
  rw [toList_madeCells_one]
  subst hl
  refine ⟨by simp [fillTo], fun k hk => ⟨none, 0, ?_, ?_, ?_⟩⟩
  · have hk' : k < rs.length := by simpa [fillTo] using hk
    have e : (fillTo N rs 0).getD k [] = [] := by simp [fillTo, hk']
    rw [e, List.getElem?_replicate, if_pos hk']
    rfl
  all_goals have hk' : k < rs.length := by simpa [fillTo] using hk
  all_goals have e : (fillTo N rs 0).getD k [] = [] := by simp [fillTo, hk']
  all_goals rw [e]
  · exact ⟨by simp, fun h => by simp at h⟩
  · intro h; simp at h
set_option maxHeartbeats 800000 in
theorem filled_any (A : Option Addr) (rs : List (List UInt8)) (n cp N : Nat) (w : World) (hn : rs.length = n) (hn8 : n ≤ 1000000) (hN : N ≤ 140737488355328) (hr : RdR w w.heap.size A rs) :
    Calls Tryz.prog 132 #[.int .i64 (N : Int), .slice A n cp] w fun e w' => ∃ g, e = .returned (.slice (some ⟨g, 0, none⟩) n n) ∧ OwR w' w.heap.size g n n (filledB N rs) ∧ Below w.heap.size w w' := by
  subst hn
  have km := make_rows rs.length hn8
  have kb := make_bytes N hN
  have own0 := filled_new w rs.length hn8 N rs rfl
  have Hall := Lib.hid (fillTo_all N rs)
  go_enter Tryz.func132, Tryz.ntmps132
  go_wp2
  go_loopw [13] (fun i wr => ∃ k : Nat, k ≤ rs.length ∧ i = .int .i64 k ∧ OwR wr w.heap.size w.heap.size rs.length rs.length (fillTo N rs k) ∧ Below w.heap.size w wr) (fun i _ => rs.length - (intOf i).toNat)
  case atStart => exact ⟨0, Nat.zero_le _, rfl, own0, below1 _ _⟩
  case round =>
    obtain ⟨k, hk, rfl, hown, hbr⟩ := hrel
    by_cases hlt : k < rs.length
    · obtain ⟨b, off, rfl, hbb, hc⟩ := hr.2 (by omega)
      obtain ⟨A', c', h1, h2⟩ := hc k hlt
      rw [← hbr.cell (p := ⟨b, off + k, none⟩) hbb] at h1
      have h2' := (h2.below hbr (Nat.le_refl _)).more hbr.size
      have Hs := Lib.hid (fillTo_succ N rs hlt)
      generalize rs.getD k [] = row at h1 h2' Hs
      generalize fillTo N rs k = ms at hown Hs
      have i0 : (0 : Int) ≤ (k : Int) := by omega
      have i1 : (k : Int) < (rs.length : Int) := by omega
      have hs0 := hbr.size
      have hgl := hown.lt
      clear hc h2
      by_cases he : row.length = 0
      · have Hs2 := Lib.hid (show ms.set k (zeroL N) = fillTo N rs (k + 1) by rw [← Hs.out]; unfold fillR; rw [if_pos he])
        have e0 : ((row.length : Int) == 0) = true := by rw [he]; rfl
        clear he Hs
        have ho := own_make 5 wr N hN
        have hown1 := hown.below (below1 wr (.cells (zcells N) 5))
        obtain ⟨A1, c1, h3, _, h5⟩ := hown1.cell k hlt
        have hset := hown1.set k (c := N) ((ho.le hs0).rdbf) (ho.newer hgl)
        rw [show (List.replicate N (0 : UInt8)).length = N by simp, show ms.set k (List.replicate N 0) = fillTo N rs (k + 1) from Hs2.out] at hset
        have hbw := (hbr.alloc hs0 (.cells (zcells N) 5)).setCell (p := ⟨w.heap.size, k, none⟩) (Nat.le_refl _) (.slice (some ⟨wr.heap.size, 0, none⟩) N N)
        rw [World.setCell_alloc_past _ _ _ _ hgl] at hset hbw
        go_wp2
        go_roundw
        case rel => exact ⟨k + 1, by omega, by go_num, hset, hbw⟩
        case measure => simp [intOf]; omega
      · have Hs2 := Lib.hid (show ms.set k row = fillTo N rs (k + 1) by rw [← Hs.out]; unfold fillR; rw [if_neg he])
        have e0 : ((row.length : Int) == 0) = false := by rw [beq_eq_false_iff_ne]; omega
        have hp : 0 < row.length := by omega
        clear he Hs
        go_wp2_with fail
        refine (clone_any A' row row.length c' wr rfl hp h2').mono ?_
        rintro e w1 ⟨v, rfl, ho, hb⟩
        obtain ⟨A1, c1, rfl, _, _⟩ := ho.rd
        have hown1 := hown.below hb
        obtain ⟨A2, c2, h3, _, h5⟩ := hown1.cell k hlt
        have hset := hown1.set k (c := c1) ((ho.le hs0).rdbf) (ho.newer hgl)
        rw [Hs2.out] at hset
        have hbw := (hbr.trans (hb.mono hs0)).setCell (p := ⟨w.heap.size, k, none⟩) (Nat.le_refl _) (.slice A1 row.length c1)
        go_wp2
        go_roundw
        case rel => exact ⟨k + 1, by omega, by go_num, hset, hbw⟩
        case measure => simp [intOf]; omega
    · obtain rfl : k = rs.length := by omega
      rw [Hall.out] at hown
      go_wp2
      go_ret
      exact ⟨_, rfl, hown, hbr⟩
end Go.Proofs.YtenkkdnepmoihaaGreatDoor
end
section
set_option maxRecDepth 8000
set_option linter.unusedVariables false
set_option linter.unusedSimpArgs false
namespace Go.Proofs.YtenkkdnepmoihaaGreatDoor
open Go.RowKit

structure Rq (lo : Nat) (W : World) (g cap n : Nat) (xs : List Value) (rs : List (List UInt8)) : Prop where
  row : W.ownsRow lo 35 1 (.slice (some ⟨g, 0, none⟩) n cap) n xs
  nn : rs.length = n
  own : ∀ (k : Nat) (v : Value), xs[k]? = some v → OwB 5 W lo v (rs.getD k [])
  ne : ∀ (k : Nat) (v : Value), xs[k]? = some v → v.ownBlock ≠ some g
  inj : ∀ (j k : Nat) (v u : Value), xs[j]? = some v → xs[k]? = some u → v.ownBlock = u.ownBlock → v.ownBlock ≠ none → j = k
section
variable {lo : Nat} {W W' : World} {g cap n : Nat} {xs : List Value} {rs : List (List UInt8)}
theorem Rq.len (h : Rq lo W g cap n xs rs) : xs.length = n := by have := h.row.1; omega
theorem Rq.glt (h : Rq lo W g cap n xs rs) : lo ≤ g ∧ g < W.heap.size := h.row.lt g rfl
theorem Rq.room (h : Rq lo W g cap n xs rs) : n ≤ cap ∧ cap ≤ maxLen := by
  rcases h.row.2 with ⟨h1, _⟩ | ⟨g', cap', cur, h1, _, _, h3, h4, _⟩
  · cases h1
  · injection h1 with _ _ h1; omega
theorem Rq.fz (h : Rq lo W g cap n xs rs) (k : Nat) : W.frozen? ⟨g, k, none⟩ = false := h.row.frozenAt k
theorem Rq.at (h : Rq lo W g cap n xs rs) (k : Nat) (hk : k < n) : ∃ A c, xs[k]? = some (.slice A (rs.getD k []).length c) ∧ W.cell? ⟨g, k, none⟩ = some (.slice A (rs.getD k []).length c) ∧ OwB 5 W lo (.slice A (rs.getD k []).length c) (rs.getD k []) := by
  obtain ⟨v, hv⟩ : ∃ v, xs[k]? = some v := ⟨_, List.getElem?_eq_getElem (by rw [h.len]; exact hk)⟩
  have ho := h.own k v hv
  obtain ⟨A, c, rfl, _, _⟩ := ho.rd
  exact ⟨A, c, hv, by rw [h.row.cellAt k (by omega)]; exact hv, ho⟩
theorem Rq.grown {row : Option Nat} (h : Rq lo W g cap n xs rs) (hg : W.grownBy W' row) (h1 : row ≠ some g) (h2 : ∀ (k : Nat) (v : Value), xs[k]? = some v → v.ownBlock = none ∨ v.ownBlock ≠ row) : Rq lo W' g cap n xs rs :=
  ⟨h.row.kept hg (.inr fun e => h1 e.symm), h.nn, fun k v hv => (h.own k v hv).grown hg (h2 k v hv), h.ne, h.inj⟩
theorem Rq.below (h : Rq lo W g cap n xs rs) (hb : Below W.heap.size W W') : Rq lo W' g cap n xs rs := h.grown (grown_none hb) (by simp) (fun k v _ => by cases v.ownBlock <;> simp)
theorem Rq.le {lo' : Nat} (h : Rq lo W g cap n xs rs) (hl : lo' ≤ lo) : Rq lo' W g cap n xs rs :=
  ⟨⟨h.row.1, by
    rcases h.row.2 with h1 | ⟨g', c', cur, h1, h2, r⟩
    · exact .inl h1
    · exact .inr ⟨g', c', cur, h1, Nat.le_trans hl h2, r⟩⟩, h.nn, fun k v hv => (h.own k v hv).le hl, h.ne, h.inj⟩
theorem rq_set_get {rs : List (List UInt8)} {k j : Nat} {b : List UInt8} (hk : k < rs.length) : (rs.set k b).getD j [] = if k = j then b else rs.getD j [] := by
  simp only [List.getD_eq_getElem?_getD, List.getElem?_set]
  split
  · subst_vars; simp [hk]
  · rfl
/-- A place of the row written: with nothing, or with what lies in no block of these. -/
theorem Rq.set (h : Rq lo W g cap n xs rs) (k : Nat) (hk : k < n) {v : Value} {b : List UInt8} (ho : OwB 5 W lo v b) (hg : v.ownBlock ≠ some g) (hne : ∀ (j : Nat) (u : Value), xs[j]? = some u → v.ownBlock = none ∨ v.ownBlock ≠ u.ownBlock) :
    Rq lo (W.setCell ⟨g, k, none⟩ v) g cap n (xs.set k v) (rs.set k b) ∧ W.grownBy (W.setCell ⟨g, k, none⟩ v) (some g) := by
  have hkl : k < rs.length := by rw [h.nn]; exact hk
  have hkx : k < xs.length := by rw [h.len]; exact hk
  obtain ⟨h1, h2⟩ := h.row.stored k v
  have hold : ∀ (j : Nat) (u : Value), (xs.set k v)[j]? = some u → (k = j ∧ u = v) ∨ (k ≠ j ∧ xs[j]? = some u) := fun j u hu => by
    by_cases e : k = j
    · subst e
      rw [List.getElem?_set_self hkx] at hu
      injection hu with hu
      exact .inl ⟨rfl, hu.symm⟩
    · rw [List.getElem?_set_ne e] at hu
      exact .inr ⟨e, hu⟩
  refine ⟨⟨h1, by rw [List.length_set]; exact h.nn, fun j u hu => ?_, fun j u hu => ?_, fun i j u w hu hw e hn => ?_⟩, h2⟩
  · rw [rq_set_get hkl]
    rcases hold j u hu with ⟨rfl, rfl⟩ | ⟨e, hu⟩
    · rw [if_pos rfl]; exact ho.grown h2 (.inr hg)
    · rw [if_neg e]; exact (h.own j u hu).grown h2 (.inr (h.ne j u hu))
  · rcases hold j u hu with ⟨rfl, rfl⟩ | ⟨e, hu⟩
    · exact hg
    · exact h.ne j u hu
  · rcases hold i u hu with ⟨rfl, rfl⟩ | ⟨e1, hu2⟩
    · rcases hold j w hw with ⟨rfl, rfl⟩ | ⟨e2, hw2⟩
      · rfl
      · rcases hne j w hw2 with h3 | h3
        · exact absurd h3 hn
        · exact absurd e h3
    · rcases hold j w hw with ⟨rfl, rfl⟩ | ⟨e2, hw2⟩
      · rcases hne i u hu2 with h3 | h3
        · exact absurd (e.trans h3) hn
        · exact absurd e.symm h3
      · exact h.inj i j u w hu2 hw2 e hn
/-- With what was made since. -/
theorem Rq.step (h : Rq lo W g cap n xs rs) (hb : Below W.heap.size W W') (k : Nat) (hk : k < n) {v : Value} {b : List UInt8} (ho : OwB 5 W' W.heap.size v b) :
    Rq lo (W'.setCell ⟨g, k, none⟩ v) g cap n (xs.set k v) (rs.set k b) ∧ W'.grownBy (W'.setCell ⟨g, k, none⟩ v) (some g) := by
  have hg := h.glt
  refine (h.below hb).set k hk (ho.le (by omega)) (fun e => ?_) (fun j u hu => ?_)
  · have := (ho.lt g e).1; omega
  · rcases hv : v.ownBlock with _ | q
    · exact .inl rfl
    · refine .inr fun e => ?_
      have h1 := (ho.lt q hv).1
      have h2 := ((h.own j u hu).lt q e.symm).2
      omega
theorem Rq.rowsY (h : Rq lo W g cap n xs rs) : RowsY W lo (some g) xs rs :=
  ⟨by rw [h.len, h.nn], fun k hk => by
    obtain ⟨A, c, h1, _, h3⟩ := h.at k (by rw [← h.nn]; exact hk)
    refine ⟨A, c, h1, h3.rdbf, fun hp a ha => ?_⟩
    obtain ⟨q, c2, e, _, _⟩ := h3.pos hp
    injection e with e _ _
    have := h.ne k _ h1
    rw [e] at this ha
    injection ha with ha
    subst ha
    exact this⟩
theorem Rq.owr (h : Rq lo W g cap n xs rs) : OwR W lo g n cap rs := ⟨h.nn, h.room.1, h.glt.1, xs, h.row, h.rowsY⟩
theorem Rq.rdr (h : Rq lo W g cap n xs rs) (hn : n ≤ 1000000) : RdR W W.heap.size (some ⟨g, 0, none⟩) rs := h.owr.rdr (by omega)
/-- A new row of nothing. -/
theorem rq_new (w : World) (n : Nat) (hn : n ≤ 1000000) : Rq w.heap.size (w.alloc (.cells (madeCells #[.slice none 0 0] n) 35)) w.heap.size n n (List.replicate n (.slice none 0 0)) (List.replicate n []) := by
  have hr := World.ownsRow_lit (base := w.heap.size) (e := 35) (size := 1) w (madeCells #[.slice none 0 0] n) n (Nat.le_refl _) (by unfold maxLen; omega) (by simp [size_madeCells])
  rw [toList_madeCells_one] at hr
  have hnil : ∀ (k : Nat) (v : Value), (List.replicate n (Value.slice none 0 0))[k]? = some v → v = .slice none 0 0 := fun k v hv => by
    rw [List.getElem?_replicate] at hv
    split at hv
    · injection hv with hv; exact hv.symm
    · cases hv
  have hget : ∀ k : Nat, (List.replicate n ([] : List UInt8)).getD k [] = [] := fun k => by
    rw [List.getD_eq_getElem?_getD, List.getElem?_replicate]; split <;> rfl
  refine ⟨hr, by simp, fun k v hv => ?_, fun k v hv => ?_, fun j k v u hv hu e hn => ?_⟩
  · rw [hnil k v hv, hget]; exact OwB.nil _ _ _
  · rw [hnil k v hv]; simp [Value.ownBlock]
  · rw [hnil j v hv] at hn; exact absurd rfl hn
end
end Go.Proofs.YtenkkdnepmoihaaGreatDoor
end
section
namespace Go.Proofs.YtenkkdnepmoihaaGreatDoor

/-- A geometry (level, disks, chunk) that may be. -/
def lvB (l d : Int) : Bool := decide (((l = 5 ∧ 3 ≤ d) ∨ (l = 6 ∧ 4 ≤ d)) ∧ d ≤ 8)
def chB (c : Int) : Bool := decide (c = 1 ∨ c = 2 ∨ c = 4)
def gOk (l d c : Int) : Bool := lvB l d && chB c
def gBud (l d c : Int) : Int := if gOk l d c = true then l - 4 else 0
def gWid (l d c : Int) : Int := if gOk l d c = true then d - (l - 4) else 0
def gCap (l d c : Int) : Int := gWid l d c * 16
def gErr (l d c : Int) : Int := if gOk l d c = true then 0 else 1
theorem gErr_yes {l d c : Int} (h : gOk l d c = true) : gErr l d c = 0 := if_pos h
theorem gErr_no {l d c : Int} (h : gOk l d c = false) : gErr l d c = 1 := if_neg (by rw [h]; decide)
theorem lvB_no {l d : Int} (h : ¬ (((l = 5 ∧ 3 ≤ d) ∨ (l = 6 ∧ 4 ≤ d)) ∧ d ≤ 8)) : lvB l d = false := decide_eq_false h
theorem lvB_5 {d : Int} (h : ¬ 8 < d) : lvB 5 d = decide (3 ≤ d) := by simp [lvB]; omega
theorem lvB_6 {d : Int} (h : ¬ 8 < d) : lvB 6 d = decide (4 ≤ d) := by simp [lvB]; omega
theorem chB_no {c : Int} (h : ¬ (c = 1 ∨ c = 2 ∨ c = 4)) : chB c = false := decide_eq_false h
theorem chB_yes {c : Int} (h : c = 1 ∨ c = 2 ∨ c = 4) : chB c = true := decide_eq_true h
theorem gOk_yes {l d c : Int} (h : gOk l d c = true) : ((l = 5 ∧ 3 ≤ d) ∨ (l = 6 ∧ 4 ≤ d)) ∧ d ≤ 8 ∧ (c = 1 ∨ c = 2 ∨ c = 4) := by
  simp [gOk, lvB, chB] at h
  omega
theorem gOk_mk {l d c : Int} (h : ((l = 5 ∧ 3 ≤ d) ∨ (l = 6 ∧ 4 ≤ d)) ∧ d ≤ 8 ∧ (c = 1 ∨ c = 2 ∨ c = 4)) : gOk l d c = true := by
  simp [gOk, lvB, chB]
  omega
theorem gOk_no {l d c : Int} (h : ¬ (((l = 5 ∧ 3 ≤ d) ∨ (l = 6 ∧ 4 ≤ d)) ∧ d ≤ 8 ∧ (c = 1 ∨ c = 2 ∨ c = 4))) : gOk l d c = false := by
  rw [← Bool.not_eq_true]; intro h'; exact h (gOk_yes h')
theorem gOk_bd {l d c : Int} (h : gOk l d c = true) : 5 ≤ l ∧ l ≤ 6 ∧ 3 ≤ d ∧ d ≤ 8 ∧ 1 ≤ c ∧ c ≤ 4 := by
  have := gOk_yes h
  omega
theorem gBud_yes {l d c : Int} (h : gOk l d c = true) : gBud l d c = l - 4 := if_pos h
theorem gBud_no {l d c : Int} (h : gOk l d c = false) : gBud l d c = 0 := if_neg (by rw [h]; decide)
theorem gWid_yes {l d c : Int} (h : gOk l d c = true) : gWid l d c = d - (l - 4) := if_pos h
theorem gWid_no {l d c : Int} (h : gOk l d c = false) : gWid l d c = 0 := if_neg (by rw [h]; decide)
theorem gBud_bd (l d c : Int) : 0 ≤ gBud l d c ∧ gBud l d c ≤ 2 := by
  cases h : gOk l d c
  · rw [gBud_no h]; omega
  · have := gOk_bd h; rw [gBud_yes h]; omega
theorem gWid_bd (l d c : Int) : 0 ≤ gWid l d c ∧ gWid l d c ≤ 7 := by
  cases h : gOk l d c
  · rw [gWid_no h]; omega
  · have := gOk_yes h; rw [gWid_yes h]; omega
end Go.Proofs.YtenkkdnepmoihaaGreatDoor
end
