/- Texts put together: RowCount, RowLose, RowLost, StpStd, StpWakes, RowOf, PlayLive. -/
import Derived.Test.YtenkkdnepmoihaaGreatDoorUrae
import Derived.Test.YtenkkdnepmoihaaGreatDoorUrai
import Derived.Test.YtenkkdnepmoihaaGreatDoorUrap
import Derived.Test.YtenkkdnepmoihaaGreatDoorUran
import Derived.Test.YtenkkdnepmoihaaGreatDoorUrao
import Derived.Test.YtenkkdnepmoihaaGreatDoorUrah
import Derived.Test.YtenkkdnepmoihaaGreatDoorUram
section
set_option linter.unusedVariables false
set_option linter.unusedSimpArgs false
namespace Go.Proofs.YtenkkdnepmoihaaGreatDoor

theorem len_le_map {f : Nat → Nat} : ∀ {l1 l2 : List Nat}, l1.Nodup → (∀ a ∈ l1, ∀ b ∈ l1, f a = f b → a = b) → (∀ a ∈ l1, f a ∈ l2) → l1.length ≤ l2.length
  | [], _, _, _, _ => Nat.zero_le _
  | a :: l, l2, hn, hi, hm => by
    obtain ⟨h1, h2⟩ := List.nodup_cons.1 hn
    have ha := hm a (List.mem_cons_self ..)
    have hl := List.length_erase_of_mem ha
    have hp := List.length_pos_of_mem ha
    have := len_le_map (f := f) (l1 := l) (l2 := l2.erase (f a)) h2 (fun b hb c hc => hi b (List.mem_cons_of_mem _ hb) c (List.mem_cons_of_mem _ hc)) fun b hb =>
      (List.mem_erase_of_ne (fun e => h1 (by rw [← hi b (List.mem_cons_of_mem _ hb) a (List.mem_cons_self ..) e]; exact hb))).2 (hm b (List.mem_cons_of_mem _ hb))
    simp only [List.length_cons]
    omega
/-- How many of the first n are so. -/
def cntB (n : Nat) (b : Nat → Bool) : Nat := ((List.range n).filter b).length
theorem cntB_succ (n : Nat) (b : Nat → Bool) : cntB (n + 1) b = if b n = true then cntB n b + 1 else cntB n b := by
  unfold cntB
  rw [List.range_succ, List.filter_append]
  by_cases h : b n = true
  · rw [if_pos h, List.filter_cons_of_pos h, List.length_append]; rfl
  · rw [if_neg h, List.filter_cons_of_neg h, List.length_append]; rfl
theorem cntB_congr {n : Nat} {b b' : Nat → Bool} (h : ∀ i, i < n → b i = b' i) : cntB n b = cntB n b' := by
  unfold cntB
  rw [List.filter_congr fun i hi => h i (List.mem_range.1 hi)]
theorem cntB_roS {D F : Nat} (hF : F < D) (b : Nat → Bool) : cntB D b = cntB D fun k => b (roS D F k) := by
  unfold cntB
  apply Nat.le_antisymm
  · refine len_le_map (f := roI D F) (List.nodup_range.filter _) (fun i hi j hj e => ?_) fun i hi => ?_
    · have h1 := List.mem_range.1 (List.mem_filter.1 hi).1
      have h2 := List.mem_range.1 (List.mem_filter.1 hj).1
      rw [← roS_roI hF h1, e, roS_roI hF h2]
    · obtain ⟨h1, h2⟩ := List.mem_filter.1 hi
      have h1 := List.mem_range.1 h1
      refine List.mem_filter.2 ⟨List.mem_range.2 (roI_lt hF h1), ?_⟩
      rw [roS_roI hF h1]
      exact h2
  · refine len_le_map (f := roS D F) (List.nodup_range.filter _) (fun i hi j hj e => roS_inj hF (List.mem_range.1 (List.mem_filter.1 hi).1) (List.mem_range.1 (List.mem_filter.1 hj).1) e) fun i hi => ?_
    obtain ⟨h1, h2⟩ := List.mem_filter.1 hi
    exact List.mem_filter.2 ⟨List.mem_range.2 (roS_lt hF (List.mem_range.1 h1)), h2⟩
theorem cntB_none {n : Nat} {b : Nat → Bool} (h : ∀ i, i < n → b i = false) : cntB n b = 0 := by
  induction n with
  | zero => rfl
  | succ n ih => rw [cntB_succ, if_neg (by rw [h n (by omega)]; decide), ih fun i hi => h i (by omega)]
/-- Zeros. -/
theorem xorL_zz : xorL (zeroL 32) (zeroL 32) = zeroL 32 := by decide
theorem foldG_zero {g : Nat → List UInt8 → List UInt8} (h0 : ∀ k, g k (zeroL 32) = zeroL 32) : ∀ (n k : Nat), foldG g k (zeroL 32) (List.replicate n (zeroL 32)) = zeroL 32
  | 0, _ => rfl
  | n + 1, k => by rw [List.replicate_succ, foldG, h0, xorL_zz]; exact foldG_zero h0 n (k + 1)
theorem rep_mem {n : Nat} : ∀ x ∈ List.replicate n (zeroL 32), x.length = 32 := fun x hx => by rw [List.eq_of_mem_replicate hx]; rfl
theorem rep_get {n k : Nat} (h : k < n) : (List.replicate n (zeroL 32)).getD k [] = zeroL 32 := by simp [List.getD_eq_getElem?_getD, h]
theorem sumG_zero {g : Nat → List UInt8 → List UInt8} (h0 : ∀ k, g k (zeroL 32) = zeroL 32) {n : Nat} (hn : 0 < n) : sumG g (List.replicate n (zeroL 32)) = zeroL 32 := by
  have h := alikeB_of (rs := List.replicate n (zeroL 32)) (by simpa using hn) rep_mem
  unfold sumG
  rw [if_pos h.1, h.2]
  exact foldG_zero h0 n 0
theorem zeros_all {n k : Nat} (hn : 0 < n) (hk : k < n + 2) : (allL (List.replicate n (zeroL 32))).getD k [] = zeroL 32 := by
  have hl : (List.replicate n (zeroL 32)).length = n := by simp
  by_cases h1 : k < n
  · rw [allL_data (by rw [hl]; exact h1)]; exact rep_get h1
  · by_cases h2 : k = n
    · subst h2
      have := allL_p (List.replicate k (zeroL 32))
      rw [hl] at this
      rw [this]
      exact sumG_zero (gP_zero 32) hn
    · obtain rfl : k = n + 1 := by omega
      have := allL_q (List.replicate n (zeroL 32))
      rw [hl] at this
      rw [this]
      exact sumG_zero (gQ_zero 32) hn
theorem zeros_fill {D F W i : Nat} (hF : F < D) (hW : 0 < W) (hD : D ≤ W + 2) (hi : i < D) : (fillL D F (List.replicate W (zeroL 32))).getD i [] = zeroL 32 := by
  rw [fillL_get hF hi]
  have := roI_lt hF hi
  exact zeros_all hW (by omega)
end Go.Proofs.YtenkkdnepmoihaaGreatDoor
end
section
set_option linter.unusedVariables false
set_option linter.unusedSimpArgs false
namespace Go.Proofs.YtenkkdnepmoihaaGreatDoor

def emptyB (xs : List (List UInt8)) (i : Nat) : Bool := (xs.getD i []).length == 0
theorem missB_cnt (rs : List (List UInt8)) : (missB rs).length = cntB rs.length (emptyB rs) := rfl
theorem missB_pair (p q : List UInt8) : (missB [p, q]).length = (if p.length = 0 then 1 else 0) + (if q.length = 0 then 1 else 0) := by
  rw [missB_two, List.length_append]
  split <;> split <;> rfl
theorem data_cnt {l d c r : Int} (xs : List (List UInt8)) : (missB (dataL l d c r xs)).length = cntB (roW l d) fun k => emptyB xs (roS (roD d) (roF l d c r) k) := by
  rw [missB_cnt, dataL_len]
  exact cntB_congr fun k hk => by unfold emptyB; rw [dataL_get hk]
/-- All that is missing, part by part. -/
theorem all_cnt {l d c r : Int} (R : Ro l d c r) (xs : List (List UInt8)) :
    cntB (roD d) (emptyB xs) = (missB (dataL l d c r xs)).length + (if (parL l d c r xs).length = 0 then 1 else 0) + (if l = 6 ∧ (parQ l d c r xs).length = 0 then 1 else 0) := by
  rw [cntB_roS R.hF, data_cnt]
  rcases R.lv with ⟨h5, hD⟩ | ⟨h6, hD⟩
  · rw [if_neg (by omega : ¬ (l = 6 ∧ _))]
    unfold parL
    generalize roF l d c r = F
    rw [hD, cntB_succ]
    unfold emptyB
    by_cases h : (xs.getD (roS (roW l d + 1) F (roW l d)) []).length = 0
    · rw [if_pos (by simpa using h), if_pos h]; all_goals omega
    · rw [if_neg (by simpa using h), if_neg h]; all_goals omega
  · unfold parL parQ
    rw [if_pos h6]
    generalize roF l d c r = F
    rw [hD, cntB_succ, cntB_succ]
    unfold emptyB
    by_cases h : (xs.getD (roS (roW l d + 2) F (roW l d)) []).length = 0
    · by_cases h2 : (xs.getD (roS (roW l d + 2) F (roW l d + 1)) []).length = 0
      · rw [if_pos (by simpa using h2), if_pos (by simpa using h), if_pos h, if_pos ⟨h6, h2⟩]; all_goals omega
      · rw [if_neg (by simpa using h2), if_pos (by simpa using h), if_pos h, if_neg fun e => h2 e.2]; all_goals omega
    · by_cases h2 : (xs.getD (roS (roW l d + 2) F (roW l d + 1)) []).length = 0
      · rw [if_pos (by simpa using h2), if_neg (by simpa using h), if_neg h, if_pos ⟨h6, h2⟩]; all_goals omega
      · rw [if_neg (by simpa using h2), if_neg (by simpa using h), if_neg h, if_neg fun e => h2 e.2]; all_goals omega
/-- With not more missing than may be the data is told. -/
theorem lose_ok {l d c r : Int} {rs xs : List (List UInt8)} (h : fillOk l d c r rs = true) (hl : xs.length = roD d) (hx : ∀ i, i < roD d → (xs.getD i []).length = 0 ∨ xs.getD i [] = (fillL (roD d) (roF l d c r) rs).getD i [])
    (hc : ((cntB (roD d) (emptyB xs) : Nat) : Int) ≤ l - 4) : roTake l d c r xs = some rs := by
  have R := ro_of (fillOk_yes h).1
  refine take_back h hl hx ?_
  have hc2 := all_cnt R xs
  rw [missB_pair]
  have hlv := R.lv
  by_cases h6 : l = 6
  · split at hc2 <;> split at hc2 <;> split <;> split <;> omega
  · have h5 : l = 5 := by omega
    have hq : (parQ l d c r xs).length = 0 := by unfold parQ; rw [if_neg h6]; rfl
    rw [if_pos hq]
    rw [if_neg (show ¬ (l = 6 ∧ (parQ l d c r xs).length = 0) from fun e => h6 e.1)] at hc2
    split at hc2 <;> split <;> omega
end Go.Proofs.YtenkkdnepmoihaaGreatDoor
end
section
set_option linter.unusedVariables false
set_option linter.unusedSimpArgs false
namespace Go.Proofs.YtenkkdnepmoihaaGreatDoor
open Go.RowKit

end Go.Proofs.YtenkkdnepmoihaaGreatDoor
end
section
set_option linter.unusedVariables false
set_option linter.unusedSimpArgs false
namespace Go.Proofs.YtenkkdnepmoihaaGreatDoor

structure Std (N : Bch) (m D : Nat) (fl : Nat → List (List UInt8)) : Prop where
  n : N.n = m
  dn : N.down = false
  at' : ∀ i, i < D → ∀ t, t < 16 → (N.D i).f = false → secAt (N.D i).now (36 + t) = (fl t).getD i []
section
variable {N : Bch} {m D F W : Nat} {fl : Nat → List (List UInt8)} {n l c : Int} {t : Nat} {lv : List Bool} {rs : List (List UInt8)}
/-- The sectors that are read: nothing, or the row's. -/
theorem Std.read (h : Std N m D fl) (ht : t < 16) (h32 : ∀ i, i < D → ((fl t).getD i []).length = 32) : (∀ i, i < D → ((ssL N lv (36 + t) D).getD i []).length = 0 ∨ (ssL N lv (36 + t) D).getD i [] = (fl t).getD i []) ∧ (∀ i, i < D → emptyB (ssL N lv (36 + t) D) i = !srvD N lv i) := by
  refine ⟨fun i hi => ?_, fun i hi => ?_⟩
  · rw [ssL_get hi]
    split
    · next hs => exact .inr (h.at' i hi t ht (srvD_yes hs).2.2)
    · exact .inl rfl
  · unfold emptyB
    rw [ssL_get hi]
    cases hs : srvD N lv i with
    | true => rw [if_pos rfl, h.at' i hi t ht (srvD_yes hs).2.2, h32 i hi]; rfl
    | false => rw [if_neg (by simp)]; rfl
theorem take_either {l d c r : Int} {rs xs : List (List UInt8)} (h : fillOk l d c r rs = true) (hl : xs.length = roD d) (hx : ∀ i, i < roD d → (xs.getD i []).length = 0 ∨ xs.getD i [] = (fillL (roD d) (roF l d c r) rs).getD i []) (hs : (roTake l d c r xs).isSome = true) : roTake l d c r xs = some rs := by
  refine take_back h hl hx ?_
  rw [roTake_yes (fillOk_yes h).1 hl] at hs
  unfold solveB at hs
  split at hs
  · next hc =>
    rw [Bool.and_eq_true] at hc
    have := hc.2
    unfold canB at this
    rw [Bool.and_eq_true] at this
    exact of_decide_eq_true this.1
  · cases hs
/-- Read of a row: told, or lost. -/
theorem Std.told (h : Std N m D fl) (gr : Gr n l c (t : Int) D F W) (hrs : rs.length = W) (ha : ∀ x ∈ rs, x.length = 32) (hfl : fl t = fillL D F rs) (lv : List Bool) :
    if (roTake l (D : Int) c (t : Int) (ssL N lv (36 + t) D)).isSome = true then srdE N lv l (D : Int) c (t : Int) = 0 ∧ srdL N lv l (D : Int) c (t : Int) = rs else srdE N lv l (D : Int) c (t : Int) = 7 ∧ srdL N lv l (D : Int) c (t : Int) = [] := by
  have ht : t < 16 := by have := gr.r0; omega
  have h32 : ∀ i, i < D → ((fl t).getD i []).length = 32 := fun i hi => by rw [hfl]; exact gr.fills hrs ha hi
  obtain ⟨h1, h2⟩ := h.read (lv := lv) ht h32
  have e36 : ssL N lv (36 + ((t : Int)).toNat) (roD (D : Int)) = ssL N lv (36 + t) D := by rw [gr.eD]; rfl
  split
  · next hs =>
    refine srdE_ok gr.ok (.inl h.dn) ?_
    rw [e36]
    refine take_either (gr.fok hrs ha) (by rw [ssL_len, gr.eD]) (fun i hi => ?_) hs
    rw [gr.eD] at hi
    rw [gr.eD, gr.eF, ← hfl]
    exact h1 i hi
  · next hs =>
    refine srdE_lost gr.ok (.inl h.dn) ?_
    rw [e36]
    cases hq : roTake l (D : Int) c (t : Int) (ssL N lv (36 + t) D) with
    | none => rfl
    | some L => rw [hq] at hs; exact absurd rfl hs
/-- With not more missing than may be it is told. -/
theorem Std.ok (h : Std N m D fl) (gr : Gr n l c (t : Int) D F W) (hrs : rs.length = W) (ha : ∀ x ∈ rs, x.length = 32) (hfl : fl t = fillL D F rs) (hc : ((cntB D (fun i => !srvD N lv i) : Nat) : Int) ≤ l - 4) :
    srdE N lv l (D : Int) c (t : Int) = 0 ∧ srdL N lv l (D : Int) c (t : Int) = rs := by
  have ht : t < 16 := by have := gr.r0; omega
  have h32 : ∀ i, i < D → ((fl t).getD i []).length = 32 := fun i hi => by rw [hfl]; exact gr.fills hrs ha hi
  obtain ⟨h1, h2⟩ := h.read (lv := lv) ht h32
  have := h.told gr hrs ha hfl lv
  rw [if_pos] at this
  · exact this
  · rw [lose_ok (gr.fok hrs ha) (by rw [ssL_len, gr.eD]) (fun i hi => by
      rw [gr.eD] at hi
      rw [gr.eD, gr.eF, ← hfl]
      exact h1 i hi) (by rw [gr.eD, cntB_congr h2]; exact hc)]
    rfl
end
/-- A row written: it stands on the disks that serve. -/
def flSet (fl : Nat → List (List UInt8)) (r : Nat) (x : List (List UInt8)) : Nat → List (List UInt8) := fun t => if t = r then x else fl t
end Go.Proofs.YtenkkdnepmoihaaGreatDoor
end
section
set_option maxRecDepth 20000
set_option linter.unusedVariables false
set_option linter.unusedSimpArgs false
namespace Go.Proofs.YtenkkdnepmoihaaGreatDoor
open Go.RowKit

end Go.Proofs.YtenkkdnepmoihaaGreatDoor
end
section
set_option maxRecDepth 8000
set_option linter.unusedVariables false
set_option linter.unusedSimpArgs false
namespace Go.Proofs.YtenkkdnepmoihaaGreatDoor
open Go.RowKit

def rowOf (F : Nat → Value) (n : Nat) : List Value := (List.range n).map F
theorem rowOf_len (F : Nat → Value) (n : Nat) : (rowOf F n).length = n := by unfold rowOf; simp
theorem rowOf_get {n i : Nat} (F : Nat → Value) (h : i < n) : (rowOf F n)[i]? = some (F i) := by unfold rowOf; simp [h]
theorem rowOf_set {n i : Nat} (F : Nat → Value) (v : Value) (h : i < n) : spl (rowOf F n) i [v] = rowOf (upd F i v) n := by
  apply List.ext_getElem?
  intro j
  have hl : ((rowOf F n).take i).length = i := by rw [List.length_take, rowOf_len]; omega
  unfold spl
  rw [List.append_assoc]
  by_cases hj : j < i
  · rw [List.getElem?_append_left (by omega), List.getElem?_take, if_pos hj, rowOf_get _ (by omega), rowOf_get _ (by omega), upd_other _ _ (by omega)]
  · rw [List.getElem?_append_right (by omega), hl]
    by_cases e : j = i
    · subst e; rw [Nat.sub_self, rowOf_get _ h, upd_same]; rfl
    · obtain ⟨k, hk⟩ : ∃ k, j - i = k + 1 := ⟨j - i - 1, by omega⟩
      rw [hk, List.cons_append, List.getElem?_cons_succ, List.nil_append, List.getElem?_drop]
      rw [show i + [v].length + k = j by simp; omega]
      by_cases hjn : j < n
      · rw [rowOf_get _ hjn, rowOf_get _ hjn, upd_other _ _ e]
      · rw [List.getElem?_eq_none (by rw [rowOf_len]; omega), List.getElem?_eq_none (by rw [rowOf_len]; omega)]
theorem rowOf_made (z : Value) (n : Nat) : madeCells #[z] n = (rowOf (fun _ => z) n).toArray := by
  apply Array.toList_inj.1
  apply List.ext_getElem?
  intro j
  rw [toList_madeCells_one, List.getElem?_replicate]
  by_cases h : j < n
  · rw [if_pos h]
    show _ = (rowOf (fun _ => z) n)[j]?
    rw [rowOf_get _ h]
  · rw [if_neg h]
    show _ = (rowOf (fun _ => z) n)[j]?
    rw [List.getElem?_eq_none (by rw [rowOf_len]; omega)]
theorem info_boo : (Tryz.prog.info? 4).map (fun i => (i.zero, i.size, i.bytes)) = some (some (.bool false), 1, 1) := by kernel_rfl
theorem make_bools (n : Nat) (hn : n ≤ 1000000) (w : World) : (Instr.makeSlice 28 (.int .i64 (n : Int)) (.int .i64 (n : Int))).run Tryz.prog w = .ok (.slice (some ⟨w.heap.size, 0, none⟩) n n) (w.alloc (.cells (rowOf (fun _ => .bool false) n).toArray 4)) := by
  rw [← rowOf_made (.bool false) n]
  exact run_make_row' _ _ _ 1 Tryz.underlying28 info_boo rfl _ _ n (by omega) (by omega) w
end Go.Proofs.YtenkkdnepmoihaaGreatDoor
end
section
set_option maxRecDepth 8000
set_option linter.unusedVariables false
set_option linter.unusedSimpArgs false
namespace Go.Proofs.YtenkkdnepmoihaaGreatDoor
open Go.RowKit

def liveB (n : Int) (d i : Nat) : Bool := if 0 < withinI n 3 ∧ withinI (n.tdiv 3) d = (i : Int) then false else if withinI n 9 = 8 ∧ withinI (n.tdiv 27) d = (i : Int) then false else true
def liveL (n : Int) (d : Nat) : List Bool := (List.range d).map (liveB n d)
theorem liveL_len (n : Int) (d : Nat) : (liveL n d).length = d := by unfold liveL; simp
theorem liveL_get (n : Int) {d i : Nat} (h : i < d) : (liveL n d).getD i false = liveB n d i := by unfold liveL; simp [h]
theorem live_row {w : World} {g d : Nat} {G : Nat → Value} {n : Int} (h : w.heap[g]? = some (.cells (rowOf G d).toArray 4 (0, 0))) (hG : ∀ j, j < d → G j = .bool (liveB n d j)) : w.heap[g]? = some (.cells ((liveL n d).map Value.bool).toArray 4 (0, 0)) := by
  rw [h]
  have : rowOf G d = (liveL n d).map Value.bool := by
    unfold rowOf liveL
    rw [List.map_map]
    exact List.map_congr_left fun j hj => hG j (List.mem_range.1 hj)
  rw [this]
theorem tdiv_bd (n k : Int) (hn : (-9223372036854775808 ≤ n ∧ n ≤ 9223372036854775807)) (hk : 1 ≤ k) : (-9223372036854775808 ≤ n.tdiv k ∧ n.tdiv k ≤ 9223372036854775807) := by
  have h : (n.tdiv k).natAbs ≤ n.natAbs := by rw [Int.natAbs_tdiv]; exact Nat.div_le_self _ _
  rcases Int.le_total 0 n with h0 | h0
  · have := Int.tdiv_nonneg h0 (show 0 ≤ k by omega)
    omega
  · have : n.tdiv k ≤ 0 := by
      have h1 := Int.tdiv_nonneg (a := -n) (b := k) (by omega) (by omega)
      rw [Int.neg_tdiv] at h1; omega
    omega
set_option maxRecDepth 100000 in
set_option maxHeartbeats 4000000 in
theorem live_any (n : Int) (d : Nat) (w : World) (hn : (-9223372036854775808 ≤ n ∧ n ≤ 9223372036854775807)) (hd : 1 ≤ d ∧ d ≤ 8) :
    Calls Tryz.prog 9 #[.int .i64 n, .int .i64 (d : Int)] w fun e w' => ∃ g, e = .returned (.slice (some ⟨g, 0, none⟩) d d) ∧ w'.heap[g]? = some (.cells ((liveL n d).map Value.bool).toArray 4 (0, 0)) ∧ w.heap.size ≤ g ∧ Below w.heap.size w w' := by
  have hmb := make_bools d (by omega)
  have W3 := Lib.hid (fun V => within_any n 3 V hn (by omega))
  have W9 := Lib.hid (fun V => within_any n 9 V hn (by omega))
  have Wa := Lib.hid (fun V => within_any (n.tdiv 3) (d : Int) V (tdiv_bd n 3 hn (by omega)) (by omega))
  have Wb := Lib.hid (fun V => within_any (n.tdiv 27) (d : Int) V (tdiv_bd n 27 hn (by omega)) (by omega))
  have HL := Lib.hid (fun (V : World) (g : Nat) (G : Nat → Value) => live_row (w := V) (g := g) (d := d) (G := G) (n := n))
  have Hlb : Hid (∀ j, liveB n d j = if 0 < withinI n 3 ∧ withinI (n.tdiv 3) d = (j : Int) then false else if withinI n 9 = 8 ∧ withinI (n.tdiv 27) d = (j : Int) then false else true) := fun j => rfl
  have ba := withinI_bd (n.tdiv 3) (d : Int) (by omega)
  have bb := withinI_bd (n.tdiv 27) (d : Int) (by omega)
  obtain ⟨a, ha⟩ := Int.eq_ofNat_of_zero_le ba.1
  obtain ⟨c, hc⟩ := Int.eq_ofNat_of_zero_le bb.1
  rw [ha] at Wa ba Hlb
  rw [hc] at Wb bb Hlb
  generalize withinI n 3 = q3 at W3 Hlb
  generalize withinI n 9 = q9 at W9 Hlb
  have d0 : (0 : Int) ≤ (d : Int) := by omega
  have d1 : (0 : Int) < (d : Int) := by omega
  have a0 : (0 : Int) ≤ (a : Int) := by omega
  have c0 : (0 : Int) ≤ (c : Int) := by omega
  have ad : a < d := by omega
  have cd : c < d := by omega
  have hi3 := tdiv_bd n 3 hn (by omega)
  have hi27 := tdiv_bd n 27 hn (by omega)
  clear ha hc
  go_enter Tryz.func9, Tryz.ntmps9
  go_wp2
  go_name_world w1 hw1
  have h1 : w1.heap[w.heap.size]? = some (.cells (rowOf (fun _ => .bool false) d).toArray 4 (0, 0)) := by rw [← hw1]; exact hp_new _ _ _ rfl
  have B1 := Lib.hid (show Below w.heap.size w w1 by rw [← hw1]; exact below1 _ _)
  have H1 := Lib.hid h1
  clear hw1 h1
  generalize hgw : w.heap.size = g at *
  have Hgw := Lib.hid hgw
  clear hgw
  go_loopw [11] (fun i wr => ∃ (j : Nat) (G : Nat → Value), j ≤ d ∧ i = .int .i64 j ∧ wr.heap[g]? = some (.cells (rowOf G d).toArray 4 (0, 0)) ∧ (∀ k, k < j → G k = .bool true) ∧ Below g w wr) (fun i _ => d - (intOf i).toNat)
  case atStart => exact ⟨0, _, Nat.zero_le _, rfl, H1.out, fun k hk => by omega, B1.out⟩
  case round =>
    obtain ⟨j, G, hj, rfl, hG, hall, hb⟩ := hrel
    have HG := Lib.hid hG
    have Hall := Lib.hid hall
    have Hb := Lib.hid hb
    clear hG hall hb H1
    have hgl := (Array.getElem?_eq_some_iff.1 HG.out).1
    by_cases hlt : j < d
    · have i0 : (0 : Int) ≤ (j : Int) := by omega
      have i1 : (j : Int) < (d : Int) := by omega
      go_wp2_with (refine wpList_store_blk rfl 4 _ _ (by rfl) g j (.bool true) (by rfl) (by rfl) (rowOf G d) 4 HG.out [.bool true] (by rfl) 1 rfl size_bool1 (by rw [rowOf_len]; omega) (by intro u hu; rw [List.mem_singleton.1 hu]; rfl) (rowOf (upd G j (.bool true)) d) (rowOf_set G _ hlt) ?_; intro w2 h2 g2)
      go_roundw
      case rel => exact ⟨j + 1, upd G j (.bool true), by omega, by go_num, h2, fun k hk => by
        by_cases e : k = j
        · subst e; rw [upd_same]
        · rw [upd_other _ _ e]; exact Hall.out k (by omega), Hb.out.grown g2 (by have := Hb.out.size; rw [Hgw.out] at this; omega) (fun j e => by injection e with e; omega)⟩
      case measure => simp [intOf]; omega
    · obtain rfl : j = d := by omega
      have hz : g ≤ wr.heap.size := by have := Hb.out.size; rw [Hgw.out] at this; exact this
      by_cases h3 : 0 < q3
      · by_cases h9 : q9 = 8
        · have Hl := Lib.hid (fun i => (Hlb.out i).trans (show _ = if (a : Int) = (i : Int) then false else if (c : Int) = (i : Int) then false else true by simp only [h3, h9, true_and]))
          subst h9
          go_wp2_with (first
        | (go_at_call 10; (with_reducible refine (W3.out _).mono ?_); rintro e wxW3 ⟨rfl, rfl⟩)
        | (go_at_call 10; (with_reducible refine (Wa.out _).mono ?_); rintro e wxWa ⟨rfl, rfl⟩)
        | (go_at_call 10; (with_reducible refine (W9.out _).mono ?_); rintro e wxW9 ⟨rfl, rfl⟩)
        | (go_at_call 10; (with_reducible refine (Wb.out _).mono ?_); rintro e wxWb ⟨rfl, rfl⟩)
        | (refine wpList_store_blk rfl 4 _ _ (by rfl) g a (.bool false) (by rfl) (by rfl) (rowOf G j) 4 HG.out [.bool false] (by rfl) 1 rfl size_bool1 (by rw [rowOf_len]; omega) (by intro u hu; rw [List.mem_singleton.1 hu]; rfl) (rowOf (upd G a (.bool false)) j) (rowOf_set _ _ ad) ?_
           intro w2 h2 g2
           have HG2 := Lib.hid h2
           have Hb2 := Lib.hid (Hb.out.grown g2 (by have := Hb.out.size; rw [Hgw.out] at this; exact this) (fun j e => by injection e with e; omega))
           clear h2 g2)
        | (refine wpList_store_blk rfl 4 _ _ (by rfl) g c (.bool false) (by rfl) (by rfl) (rowOf (upd G a (.bool false)) j) 4 HG2.out [.bool false] (by rfl) 1 rfl size_bool1 (by rw [rowOf_len]; omega) (by intro u hu; rw [List.mem_singleton.1 hu]; rfl) (rowOf (upd (upd G a (.bool false)) c (.bool false)) j) (rowOf_set _ _ cd) ?_
           intro w3 h3 g3
           have HG3 := Lib.hid h3
           have Hb3 := Lib.hid (Hb2.out.grown g3 (by have := Hb2.out.size; rw [Hgw.out] at this; exact this) (fun j e => by injection e with e; omega))
           clear h3 g3))
          go_ret
          exact ⟨g, rfl, HL.out _ _ _ HG3.out (fun i hi => by
            rw [Hl.out i]
            by_cases e1 : i = c
            · subst e1; rw [upd_same]; split; rfl; rw [if_pos rfl]
            · rw [upd_other _ _ e1]
              by_cases e2 : i = a
              · subst e2; rw [upd_same, if_pos rfl]
              · rw [upd_other _ _ e2, if_neg (by omega), if_neg (by omega)]; exact Hall.out i hi), Nat.le_of_eq Hgw.out, by rw [Hgw.out]; exact Hb3.out⟩
        · have Hl := Lib.hid (fun i => (Hlb.out i).trans (show _ = if (a : Int) = (i : Int) then false else true by simp only [h3, h9, true_and, false_and, if_false]))
          have b9 : (q9 == 8) = false := by rw [beq_eq_false_iff_ne]; exact h9
          go_wp2_with (first
        | (go_at_call 10; (with_reducible refine (W3.out _).mono ?_); rintro e wxW3 ⟨rfl, rfl⟩)
        | (go_at_call 10; (with_reducible refine (Wa.out _).mono ?_); rintro e wxWa ⟨rfl, rfl⟩)
        | (go_at_call 10; (with_reducible refine (W9.out _).mono ?_); rintro e wxW9 ⟨rfl, rfl⟩)
        | (refine wpList_store_blk rfl 4 _ _ (by rfl) g a (.bool false) (by rfl) (by rfl) (rowOf G j) 4 HG.out [.bool false] (by rfl) 1 rfl size_bool1 (by rw [rowOf_len]; omega) (by intro u hu; rw [List.mem_singleton.1 hu]; rfl) (rowOf (upd G a (.bool false)) j) (rowOf_set _ _ ad) ?_
           intro w2 h2 g2
           have HG2 := Lib.hid h2
           have Hb2 := Lib.hid (Hb.out.grown g2 (by have := Hb.out.size; rw [Hgw.out] at this; exact this) (fun j e => by injection e with e; omega))
           clear h2 g2))
          go_ret
          exact ⟨g, rfl, HL.out _ _ _ HG2.out (fun i hi => by
            rw [Hl.out i]
            by_cases e2 : i = a
            · subst e2; rw [upd_same, if_pos rfl]
            · rw [upd_other _ _ e2, if_neg (by omega)]; exact Hall.out i hi), Nat.le_of_eq Hgw.out, by rw [Hgw.out]; exact Hb2.out⟩
      · by_cases h9 : q9 = 8
        · have Hl := Lib.hid (fun i => (Hlb.out i).trans (show _ = if (c : Int) = (i : Int) then false else true by simp only [h3, h9, true_and, false_and, if_false]))
          subst h9
          go_wp2_with (first
        | (go_at_call 10; (with_reducible refine (W3.out _).mono ?_); rintro e wxW3 ⟨rfl, rfl⟩)
        | (go_at_call 10; (with_reducible refine (W9.out _).mono ?_); rintro e wxW9 ⟨rfl, rfl⟩)
        | (go_at_call 10; (with_reducible refine (Wb.out _).mono ?_); rintro e wxWb ⟨rfl, rfl⟩)
        | (refine wpList_store_blk rfl 4 _ _ (by rfl) g c (.bool false) (by rfl) (by rfl) (rowOf G j) 4 HG.out [.bool false] (by rfl) 1 rfl size_bool1 (by rw [rowOf_len]; omega) (by intro u hu; rw [List.mem_singleton.1 hu]; rfl) (rowOf (upd G c (.bool false)) j) (rowOf_set _ _ cd) ?_
           intro w3 h3 g3
           have HG3 := Lib.hid h3
           have Hb3 := Lib.hid (Hb.out.grown g3 (by have := Hb.out.size; rw [Hgw.out] at this; exact this) (fun j e => by injection e with e; omega))
           clear h3 g3))
          go_ret
          exact ⟨g, rfl, HL.out _ _ _ HG3.out (fun i hi => by
            rw [Hl.out i]
            by_cases e1 : i = c
            · subst e1; rw [upd_same, if_pos rfl]
            · rw [upd_other _ _ e1, if_neg (by omega)]; exact Hall.out i hi), Nat.le_of_eq Hgw.out, by rw [Hgw.out]; exact Hb3.out⟩
        · have Hl := Lib.hid (fun i => (Hlb.out i).trans (show _ = true by simp only [h3, h9, false_and, if_false]))
          have b9 : (q9 == 8) = false := by rw [beq_eq_false_iff_ne]; exact h9
          go_wp2_with (first
        | (go_at_call 10; (with_reducible refine (W3.out _).mono ?_); rintro e wxW3 ⟨rfl, rfl⟩)
        | (go_at_call 10; (with_reducible refine (W9.out _).mono ?_); rintro e wxW9 ⟨rfl, rfl⟩))
          go_ret
          exact ⟨g, rfl, HL.out _ _ _ HG.out (fun i hi => by rw [Hl.out i]; exact Hall.out i hi), Nat.le_of_eq Hgw.out, by rw [Hgw.out]; exact Hb.out⟩
end Go.Proofs.YtenkkdnepmoihaaGreatDoor
end
