/- Texts put together: StpFld, StpStd, PlayLive. -/
import Derived.Test.YtadmofpipfdedaaRqat
import Derived.Test.YtadmofpipfdedaaRqaw
import Derived.Test.YtadmofpipfdedaaRqad
section
set_option linter.unusedVariables false
set_option linter.unusedSimpArgs false
namespace Go.Proofs.Ytadmofpipfdedaa

/-- A bench with power, without a limit, on which nothing is pending. -/
structure Gd (N : Bch) (m : Nat) : Prop where
  n : N.n = m
  dn : N.down = false
  lf : N.left = -1
  done : N.done = 0
  ps : ∀ i, i < m → (N.D i).ps = []
  ok : ∀ i, i < m → (N.D i).Ok
  f : ∀ i, i < m → (N.D i).f = false
theorem gd_new (m : Nat) : Gd (Bch.new m) m := ⟨rfl, rfl, rfl, rfl, fun _ _ => rfl, fun _ _ => Dsk.new_ok, fun _ _ => rfl⟩
theorem damage_do {N : Bch} {d k : Nat} {x : List UInt8} (hd : d < N.n) (hk : k < 52) (hx : x.length = 32) (hf : (N.D d).f = false) : N.damage (d : Int) (k : Int) x = N.set d ((N.D d).damage k x) := by
  unfold Bch.damage
  rw [if_neg (by rw [Bch.pickE_ok (by omega) (by omega)]; simp)]
  show N.set d ((N.D d).damageE (k : Int) x) = _
  unfold Dsk.damageE
  rw [if_pos (by rw [hx, hf]; exact takeE_ok (by omega) (by omega))]
  rfl
theorem gd_damage {N : Bch} {m d k : Nat} {x : List UInt8} (h : Gd N m) (hd : d < m) (hk : k < 52) (hx : x.length = 32) : Gd (N.damage (d : Int) (k : Int) x) m := by
  rw [damage_do (by rw [h.n]; exact hd) hk hx (h.f d hd)]
  refine ⟨h.n, h.dn, h.lf, h.done, fun i hi => ?_, fun i hi => ?_, fun i hi => ?_⟩ <;> show _
  · show (upd N.D d _ i).ps = []
    by_cases e : i = d
    · subst e; rw [upd_same]; show List.filter _ (N.D i).ps = []; rw [h.ps i hi]; rfl
    · rw [upd_other _ _ e]; exact h.ps i hi
  · show (upd N.D d _ i).Ok
    by_cases e : i = d
    · subst e; rw [upd_same]; exact (h.ok i hi).damage hk hx
    · rw [upd_other _ _ e]; exact h.ok i hi
  · show (upd N.D d _ i).f = false
    by_cases e : i = d
    · subst e; rw [upd_same]; exact h.f i hi
    · rw [upd_other _ _ e]; exact h.f i hi
theorem sec_damage {N : Bch} {m d k : Nat} {x : List UInt8} (h : Gd N m) (hd : d < m) (hk : k < 52) (hx : x.length = 32) (i j : Nat) : secAt ((N.damage (d : Int) (k : Int) x).D i).now j = if i = d ∧ j = k then x else secAt (N.D i).now j := by
  rw [damage_do (by rw [h.n]; exact hd) hk hx (h.f d hd)]
  show secAt (upd N.D d _ i).now j = _
  by_cases e : i = d
  · subst e
    rw [upd_same, Dsk.damage_now (h.ok i hd) hk hx]
    by_cases e2 : j = k
    · subst e2; rw [if_pos ⟨rfl, rfl⟩]; exact sec_put_same (h.ok i hd).now hk hx
    · rw [if_neg (fun q => e2 q.2)]; exact sec_put_other (h.ok i hd).now hk hx e2
  · rw [upd_other _ _ e, if_neg (fun q => e q.1)]
end Go.Proofs.Ytadmofpipfdedaa
end
section
set_option linter.unusedVariables false
set_option linter.unusedSimpArgs false
namespace Go.Proofs.Ytadmofpipfdedaa

structure Std (N : Bch) (m D : Nat) (fl : Nat → List (List UInt8)) : Prop where
  n : N.n = m
  dn : N.down = false
  at' : ∀ i, i < D → ∀ t, t < 16 → (N.D i).f = false → secAt (N.D i).now (36 + t) = (fl t).getD i []
theorem fail_D {N : Bch} {d : Nat} (hd : d < N.n) (i : Nat) : (N.fail (d : Int)).D i = if i = d then Dsk.failed else N.D i := by
  unfold Bch.fail
  rw [if_neg (by rw [Bch.pickE_ok (by omega) (by omega)]; simp)]
  show upd N.D ((d : Int)).toNat Dsk.failed i = _
  rw [show ((d : Int)).toNat = d by omega]
  by_cases e : i = d
  · subst e; rw [upd_same, if_pos rfl]
  · rw [upd_other _ _ e, if_neg e]
theorem fail_is {N : Bch} {d : Int} : (N.fail d).n = N.n := by unfold Bch.fail; split <;> rfl
section
variable {N : Bch} {m D F W : Nat} {fl : Nat → List (List UInt8)} {n l c : Int} {t : Nat} {lv : List Bool} {rs : List (List UInt8)}
/-- The sectors that are read: nothing, or the row's. -/
theorem Std.read (h : Std N m D fl) (ht : t < 16) (h32 : ∀ i, i < D → ((fl t).getD i []).length = 32) : (∀ i, i < D → ((ssL N lv (36 + t) D).getD i []).length = 0 ∨ (ssL N lv (36 + t) D).getD i [] = (fl t).getD i []) ∧ (∀ i, i < D → emptyB (ssL N lv (36 + t) D) i = !srvD N lv i) := by
  refine ⟨fun i hi => ?_, fun i hi => ?_⟩
  · rw [ssL_get hi]
    split
    · next hs => exact .inr (h.at' i hi t ht (srvD_yes hs).2.2)
    · exact .inl rfl
  · unfold emptyB
    rw [ssL_get hi]
    cases hs : srvD N lv i with
    | true => rw [if_pos rfl, h.at' i hi t ht (srvD_yes hs).2.2, h32 i hi]; rfl
    | false => rw [if_neg (by simp)]; rfl
theorem take_either {l d c r : Int} {rs xs : List (List UInt8)} (h : fillOk l d c r rs = true) (hl : xs.length = roD d) (hx : ∀ i, i < roD d → (xs.getD i []).length = 0 ∨ xs.getD i [] = (fillL (roD d) (roF l d c r) rs).getD i []) (hs : (roTake l d c r xs).isSome = true) : roTake l d c r xs = some rs := by
  refine take_back h hl hx ?_
  rw [roTake_yes (fillOk_yes h).1 hl] at hs
  unfold solveB at hs
  split at hs
  · next hc =>
    rw [Bool.and_eq_true] at hc
    have := hc.2
    unfold canB at this
    rw [Bool.and_eq_true] at this
    exact of_decide_eq_true this.1
  · cases hs
/-- Read of a row: told, or lost. -/
theorem Std.told (h : Std N m D fl) (gr : Gr n l c (t : Int) D F W) (hrs : rs.length = W) (ha : ∀ x ∈ rs, x.length = 32) (hfl : fl t = fillL D F rs) (lv : List Bool) :
    if (roTake l (D : Int) c (t : Int) (ssL N lv (36 + t) D)).isSome = true then srdE N lv l (D : Int) c (t : Int) = 0 ∧ srdL N lv l (D : Int) c (t : Int) = rs else srdE N lv l (D : Int) c (t : Int) = 7 ∧ srdL N lv l (D : Int) c (t : Int) = [] := by
  have ht : t < 16 := by have := gr.r0; omega
  have h32 : ∀ i, i < D → ((fl t).getD i []).length = 32 := fun i hi => by rw [hfl]; exact gr.fills hrs ha hi
  obtain ⟨h1, h2⟩ := h.read (lv := lv) ht h32
  have e36 : ssL N lv (36 + ((t : Int)).toNat) (roD (D : Int)) = ssL N lv (36 + t) D := by rw [gr.eD]; rfl
  split
  · next hs =>
    refine srdE_ok gr.ok (.inl h.dn) ?_
    rw [e36]
    refine take_either (gr.fok hrs ha) (by rw [ssL_len, gr.eD]) (fun i hi => ?_) hs
    rw [gr.eD] at hi
    rw [gr.eD, gr.eF, ← hfl]
    exact h1 i hi
  · next hs =>
    refine srdE_lost gr.ok (.inl h.dn) ?_
    rw [e36]
    cases hq : roTake l (D : Int) c (t : Int) (ssL N lv (36 + t) D) with
    | none => rfl
    | some L => rw [hq] at hs; exact absurd rfl hs
/-- With not more missing than may be it is told. -/
theorem Std.ok (h : Std N m D fl) (gr : Gr n l c (t : Int) D F W) (hrs : rs.length = W) (ha : ∀ x ∈ rs, x.length = 32) (hfl : fl t = fillL D F rs) (hc : ((cntB D (fun i => !srvD N lv i) : Nat) : Int) ≤ l - 4) :
    srdE N lv l (D : Int) c (t : Int) = 0 ∧ srdL N lv l (D : Int) c (t : Int) = rs := by
  have ht : t < 16 := by have := gr.r0; omega
  have h32 : ∀ i, i < D → ((fl t).getD i []).length = 32 := fun i hi => by rw [hfl]; exact gr.fills hrs ha hi
  obtain ⟨h1, h2⟩ := h.read (lv := lv) ht h32
  have := h.told gr hrs ha hfl lv
  rw [if_pos] at this
  · exact this
  · rw [lose_ok (gr.fok hrs ha) (by rw [ssL_len, gr.eD]) (fun i hi => by
      rw [gr.eD] at hi
      rw [gr.eD, gr.eF, ← hfl]
      exact h1 i hi) (by rw [gr.eD, cntB_congr h2]; exact hc)]
    rfl
end
end Go.Proofs.Ytadmofpipfdedaa
end
section
set_option maxRecDepth 8000
set_option linter.unusedVariables false
set_option linter.unusedSimpArgs false
namespace Go.Proofs.Ytadmofpipfdedaa
open Go.RowKit

def liveB (n : Int) (d i : Nat) : Bool := if 0 < withinI n 3 ∧ withinI (n.tdiv 3) d = (i : Int) then false else if withinI n 9 = 8 ∧ withinI (n.tdiv 27) d = (i : Int) then false else true
def liveL (n : Int) (d : Nat) : List Bool := (List.range d).map (liveB n d)
theorem liveL_len (n : Int) (d : Nat) : (liveL n d).length = d := by unfold liveL; simp
theorem liveL_get (n : Int) {d i : Nat} (h : i < d) : (liveL n d).getD i false = liveB n d i := by unfold liveL; simp [h]
theorem live_row {w : World} {g d : Nat} {G : Nat → Value} {n : Int} (h : w.heap[g]? = some (.cells (rowOf G d).toArray 4 (0, 0))) (hG : ∀ j, j < d → G j = .bool (liveB n d j)) : w.heap[g]? = some (.cells ((liveL n d).map Value.bool).toArray 4 (0, 0)) := by
  rw [h]
  have : rowOf G d = (liveL n d).map Value.bool := by
    unfold rowOf liveL
    rw [List.map_map]
    exact List.map_congr_left fun j hj => hG j (List.mem_range.1 hj)
  rw [this]
theorem tdiv_bd (n k : Int) (hn : (-9223372036854775808 ≤ n ∧ n ≤ 9223372036854775807)) (hk : 1 ≤ k) : (-9223372036854775808 ≤ n.tdiv k ∧ n.tdiv k ≤ 9223372036854775807) := by
  have h : (n.tdiv k).natAbs ≤ n.natAbs := by rw [Int.natAbs_tdiv]; exact Nat.div_le_self _ _
  rcases Int.le_total 0 n with h0 | h0
  · have := Int.tdiv_nonneg h0 (show 0 ≤ k by omega)
    omega
  · have : n.tdiv k ≤ 0 := by
      have h1 := Int.tdiv_nonneg (a := -n) (b := k) (by omega) (by omega)
      rw [Int.neg_tdiv] at h1; omega
    omega
set_option maxRecDepth 100000 in
set_option maxHeartbeats 4000000 in
theorem live_any (n : Int) (d : Nat) (w : World) (hn : (-9223372036854775808 ≤ n ∧ n ≤ 9223372036854775807)) (hd : 1 ≤ d ∧ d ≤ 8) :
    Calls Try.prog 14 #[.int .i64 n, .int .i64 (d : Int)] w fun e w' => ∃ g, e = .returned (.slice (some ⟨g, 0, none⟩) d d) ∧ w'.heap[g]? = some (.cells ((liveL n d).map Value.bool).toArray 4 (0, 0)) ∧ w.heap.size ≤ g ∧ Below w.heap.size w w' := by
  have hmb := make_bools d (by omega)
  have W3 := Lib.hid (fun V => within_any n 3 V hn (by omega))
  have W9 := Lib.hid (fun V => within_any n 9 V hn (by omega))
  have Wa := Lib.hid (fun V => within_any (n.tdiv 3) (d : Int) V (tdiv_bd n 3 hn (by omega)) (by omega))
  have Wb := Lib.hid (fun V => within_any (n.tdiv 27) (d : Int) V (tdiv_bd n 27 hn (by omega)) (by omega))
  have HL := Lib.hid (fun (V : World) (g : Nat) (G : Nat → Value) => live_row (w := V) (g := g) (d := d) (G := G) (n := n))
  have Hlb : Hid (∀ j, liveB n d j = if 0 < withinI n 3 ∧ withinI (n.tdiv 3) d = (j : Int) then false else if withinI n 9 = 8 ∧ withinI (n.tdiv 27) d = (j : Int) then false else true) := fun j => rfl
  have ba := withinI_bd (n.tdiv 3) (d : Int) (by omega)
  have bb := withinI_bd (n.tdiv 27) (d : Int) (by omega)
  obtain ⟨a, ha⟩ := Int.eq_ofNat_of_zero_le ba.1
  obtain ⟨c, hc⟩ := Int.eq_ofNat_of_zero_le bb.1
  rw [ha] at Wa ba Hlb
  rw [hc] at Wb bb Hlb
  generalize withinI n 3 = q3 at W3 Hlb
  generalize withinI n 9 = q9 at W9 Hlb
  have d0 : (0 : Int) ≤ (d : Int) := by omega
  have d1 : (0 : Int) < (d : Int) := by omega
  have a0 : (0 : Int) ≤ (a : Int) := by omega
  have c0 : (0 : Int) ≤ (c : Int) := by omega
  have ad : a < d := by omega
  have cd : c < d := by omega
  have hi3 := tdiv_bd n 3 hn (by omega)
  have hi27 := tdiv_bd n 27 hn (by omega)
  clear ha hc
  go_enter Try.func14, Try.ntmps14
  go_wp2
  go_name_world w1 hw1
  have h1 : w1.heap[w.heap.size]? = some (.cells (rowOf (fun _ => .bool false) d).toArray 4 (0, 0)) := by rw [← hw1]; exact hp_new _ _ _ rfl
  have B1 := Lib.hid (show Below w.heap.size w w1 by rw [← hw1]; exact below1 _ _)
  have H1 := Lib.hid h1
  clear hw1 h1
  generalize hgw : w.heap.size = g at *
  have Hgw := Lib.hid hgw
  clear hgw
  go_loopw [11] (fun i wr => ∃ (j : Nat) (G : Nat → Value), j ≤ d ∧ i = .int .i64 j ∧ wr.heap[g]? = some (.cells (rowOf G d).toArray 4 (0, 0)) ∧ (∀ k, k < j → G k = .bool true) ∧ Below g w wr) (fun i _ => d - (intOf i).toNat)
  case atStart => exact ⟨0, _, Nat.zero_le _, rfl, H1.out, fun k hk => by omega, B1.out⟩
  case round =>
    obtain ⟨j, G, hj, rfl, hG, hall, hb⟩ := hrel
    have HG := Lib.hid hG
    have Hall := Lib.hid hall
    have Hb := Lib.hid hb
    clear hG hall hb H1
    have hgl := (Array.getElem?_eq_some_iff.1 HG.out).1
    by_cases hlt : j < d
    · have i0 : (0 : Int) ≤ (j : Int) := by omega
      have i1 : (j : Int) < (d : Int) := by omega
      go_wp2_with (refine wpList_store_blk rfl 4 _ _ (by rfl) g j (.bool true) (by rfl) (by rfl) (rowOf G d) 4 HG.out [.bool true] (by rfl) 1 rfl size_bool1 (by rw [rowOf_len]; omega) (by intro u hu; rw [List.mem_singleton.1 hu]; rfl) (rowOf (upd G j (.bool true)) d) (rowOf_set G _ hlt) ?_; intro w2 h2 g2)
      go_roundw
      case rel => exact ⟨j + 1, upd G j (.bool true), by omega, by go_num, h2, fun k hk => by
        by_cases e : k = j
        · subst e; rw [upd_same]
        · rw [upd_other _ _ e]; exact Hall.out k (by omega), Hb.out.grown g2 (by have := Hb.out.size; rw [Hgw.out] at this; omega) (fun j e => by injection e with e; omega)⟩
      case measure => simp [intOf]; omega
    · obtain rfl : j = d := by omega
      have hz : g ≤ wr.heap.size := by have := Hb.out.size; rw [Hgw.out] at this; exact this
      by_cases h3 : 0 < q3
      · by_cases h9 : q9 = 8
        · have Hl := Lib.hid (fun i => (Hlb.out i).trans (show _ = if (a : Int) = (i : Int) then false else if (c : Int) = (i : Int) then false else true by simp only [h3, h9, true_and]))
          subst h9
          go_wp2_with (first
        | (go_at_call 11; (with_reducible refine (W3.out _).mono ?_); rintro e wxW3 ⟨rfl, rfl⟩)
        | (go_at_call 11; (with_reducible refine (Wa.out _).mono ?_); rintro e wxWa ⟨rfl, rfl⟩)
        | (go_at_call 11; (with_reducible refine (W9.out _).mono ?_); rintro e wxW9 ⟨rfl, rfl⟩)
        | (go_at_call 11; (with_reducible refine (Wb.out _).mono ?_); rintro e wxWb ⟨rfl, rfl⟩)
        | (refine wpList_store_blk rfl 4 _ _ (by rfl) g a (.bool false) (by rfl) (by rfl) (rowOf G j) 4 HG.out [.bool false] (by rfl) 1 rfl size_bool1 (by rw [rowOf_len]; omega) (by intro u hu; rw [List.mem_singleton.1 hu]; rfl) (rowOf (upd G a (.bool false)) j) (rowOf_set _ _ ad) ?_
           intro w2 h2 g2
           have HG2 := Lib.hid h2
           have Hb2 := Lib.hid (Hb.out.grown g2 (by have := Hb.out.size; rw [Hgw.out] at this; exact this) (fun j e => by injection e with e; omega))
           clear h2 g2)
        | (refine wpList_store_blk rfl 4 _ _ (by rfl) g c (.bool false) (by rfl) (by rfl) (rowOf (upd G a (.bool false)) j) 4 HG2.out [.bool false] (by rfl) 1 rfl size_bool1 (by rw [rowOf_len]; omega) (by intro u hu; rw [List.mem_singleton.1 hu]; rfl) (rowOf (upd (upd G a (.bool false)) c (.bool false)) j) (rowOf_set _ _ cd) ?_
           intro w3 h3 g3
           have HG3 := Lib.hid h3
           have Hb3 := Lib.hid (Hb2.out.grown g3 (by have := Hb2.out.size; rw [Hgw.out] at this; exact this) (fun j e => by injection e with e; omega))
           clear h3 g3))
          go_ret
          exact ⟨g, rfl, HL.out _ _ _ HG3.out (fun i hi => by
            rw [Hl.out i]
            by_cases e1 : i = c
            · subst e1; rw [upd_same]; split; rfl; rw [if_pos rfl]
            · rw [upd_other _ _ e1]
              by_cases e2 : i = a
              · subst e2; rw [upd_same, if_pos rfl]
              · rw [upd_other _ _ e2, if_neg (by omega), if_neg (by omega)]; exact Hall.out i hi), Nat.le_of_eq Hgw.out, by rw [Hgw.out]; exact Hb3.out⟩
        · have Hl := Lib.hid (fun i => (Hlb.out i).trans (show _ = if (a : Int) = (i : Int) then false else true by simp only [h3, h9, true_and, false_and, if_false]))
          have b9 : (q9 == 8) = false := by rw [beq_eq_false_iff_ne]; exact h9
          go_wp2_with (first
        | (go_at_call 11; (with_reducible refine (W3.out _).mono ?_); rintro e wxW3 ⟨rfl, rfl⟩)
        | (go_at_call 11; (with_reducible refine (Wa.out _).mono ?_); rintro e wxWa ⟨rfl, rfl⟩)
        | (go_at_call 11; (with_reducible refine (W9.out _).mono ?_); rintro e wxW9 ⟨rfl, rfl⟩)
        | (refine wpList_store_blk rfl 4 _ _ (by rfl) g a (.bool false) (by rfl) (by rfl) (rowOf G j) 4 HG.out [.bool false] (by rfl) 1 rfl size_bool1 (by rw [rowOf_len]; omega) (by intro u hu; rw [List.mem_singleton.1 hu]; rfl) (rowOf (upd G a (.bool false)) j) (rowOf_set _ _ ad) ?_
           intro w2 h2 g2
           have HG2 := Lib.hid h2
           have Hb2 := Lib.hid (Hb.out.grown g2 (by have := Hb.out.size; rw [Hgw.out] at this; exact this) (fun j e => by injection e with e; omega))
           clear h2 g2))
          go_ret
          exact ⟨g, rfl, HL.out _ _ _ HG2.out (fun i hi => by
            rw [Hl.out i]
            by_cases e2 : i = a
            · subst e2; rw [upd_same, if_pos rfl]
            · rw [upd_other _ _ e2, if_neg (by omega)]; exact Hall.out i hi), Nat.le_of_eq Hgw.out, by rw [Hgw.out]; exact Hb2.out⟩
      · by_cases h9 : q9 = 8
        · have Hl := Lib.hid (fun i => (Hlb.out i).trans (show _ = if (c : Int) = (i : Int) then false else true by simp only [h3, h9, true_and, false_and, if_false]))
          subst h9
          go_wp2_with (first
        | (go_at_call 11; (with_reducible refine (W3.out _).mono ?_); rintro e wxW3 ⟨rfl, rfl⟩)
        | (go_at_call 11; (with_reducible refine (W9.out _).mono ?_); rintro e wxW9 ⟨rfl, rfl⟩)
        | (go_at_call 11; (with_reducible refine (Wb.out _).mono ?_); rintro e wxWb ⟨rfl, rfl⟩)
        | (refine wpList_store_blk rfl 4 _ _ (by rfl) g c (.bool false) (by rfl) (by rfl) (rowOf G j) 4 HG.out [.bool false] (by rfl) 1 rfl size_bool1 (by rw [rowOf_len]; omega) (by intro u hu; rw [List.mem_singleton.1 hu]; rfl) (rowOf (upd G c (.bool false)) j) (rowOf_set _ _ cd) ?_
           intro w3 h3 g3
           have HG3 := Lib.hid h3
           have Hb3 := Lib.hid (Hb.out.grown g3 (by have := Hb.out.size; rw [Hgw.out] at this; exact this) (fun j e => by injection e with e; omega))
           clear h3 g3))
          go_ret
          exact ⟨g, rfl, HL.out _ _ _ HG3.out (fun i hi => by
            rw [Hl.out i]
            by_cases e1 : i = c
            · subst e1; rw [upd_same, if_pos rfl]
            · rw [upd_other _ _ e1, if_neg (by omega)]; exact Hall.out i hi), Nat.le_of_eq Hgw.out, by rw [Hgw.out]; exact Hb3.out⟩
        · have Hl := Lib.hid (fun i => (Hlb.out i).trans (show _ = true by simp only [h3, h9, false_and, if_false]))
          have b9 : (q9 == 8) = false := by rw [beq_eq_false_iff_ne]; exact h9
          go_wp2_with (first
        | (go_at_call 11; (with_reducible refine (W3.out _).mono ?_); rintro e wxW3 ⟨rfl, rfl⟩)
        | (go_at_call 11; (with_reducible refine (W9.out _).mono ?_); rintro e wxW9 ⟨rfl, rfl⟩))
          go_ret
          exact ⟨g, rfl, HL.out _ _ _ HG.out (fun i hi => by rw [Hl.out i]; exact Hall.out i hi), Nat.le_of_eq Hgw.out, by rw [Hgw.out]; exact Hb.out⟩
end Go.Proofs.Ytadmofpipfdedaa
end
