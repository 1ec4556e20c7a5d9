/- Texts put together: PlaceBackMath, PlaceAll, Ord, OrdSkip. -/
import Derived.Test.YtldfoadildaljaaWeaa
section
namespace Go.Proofs.Ytldfoadildaljaa

/-- A level and so many disks, one by one. -/
theorem ld_cases {l d c : Int} (h : gOk l d c = true) : (l = 5 ∧ d = 3) ∨ (l = 5 ∧ d = 4) ∨ (l = 5 ∧ d = 5) ∨ (l = 5 ∧ d = 6) ∨ (l = 5 ∧ d = 7) ∨ (l = 5 ∧ d = 8) ∨ (l = 6 ∧ d = 4) ∨ (l = 6 ∧ d = 5) ∨ (l = 6 ∧ d = 6) ∨ (l = 6 ∧ d = 7) ∨ (l = 6 ∧ d = 8) := by
  obtain ⟨h1, h8, _⟩ := gOk_yes h
  rcases h1 with ⟨rfl, h3⟩ | ⟨rfl, h4⟩
  · have hd : d = 3 ∨ d = 4 ∨ d = 5 ∨ d = 6 ∨ d = 7 ∨ d = 8 := by omega
    rcases hd with rfl | rfl | rfl | rfl | rfl | rfl <;> simp
  · have hd : d = 4 ∨ d = 5 ∨ d = 6 ∨ d = 7 ∨ d = 8 := by omega
    rcases hd with rfl | rfl | rfl | rfl | rfl <;> simp
theorem plK_only {l d c i r k : Int} (h : plDok l d c r k = true) (he : plD l d c r k = i) : k = plK l d c i r := by
  obtain ⟨hk, h0, h1⟩ := plDok_yes h
  obtain ⟨hg, _, _⟩ := plOk_yes hk
  have hf := plF_bd l c r (show 1 ≤ d by have := gOk_bd hg; omega)
  rw [plD_yes h] at he
  rw [gWid_yes hg] at h1
  unfold plK
  generalize plF l d c r = f at hf he
  subst he
  rcases ld_cases hg with ⟨rfl, rfl⟩ | ⟨rfl, rfl⟩ | ⟨rfl, rfl⟩ | ⟨rfl, rfl⟩ | ⟨rfl, rfl⟩ | ⟨rfl, rfl⟩ | ⟨rfl, rfl⟩ | ⟨rfl, rfl⟩ | ⟨rfl, rfl⟩ | ⟨rfl, rfl⟩ | ⟨rfl, rfl⟩ <;> omega
end Go.Proofs.Ytldfoadildaljaa
end
section
namespace Go.Proofs.Ytldfoadildaljaa

theorem wd_cases {l d c : Int} (h : gOk l d c = true) : (d - (l - 4) = 2 ∨ d - (l - 4) = 3 ∨ d - (l - 4) = 4 ∨ d - (l - 4) = 5 ∨ d - (l - 4) = 6 ∨ d - (l - 4) = 7) ∧ (c = 1 ∨ c = 2 ∨ c = 4) := by
  obtain ⟨h1, h8, hc⟩ := gOk_yes h
  refine ⟨?_, hc⟩
  omega
/-- The place of a sector: its row, its data chunk; and the number that stands there. -/
theorem of_row {l d c n : Int} (hg : gOk l d c = true) (h0 : 0 ≤ n) (h1 : n < gCap l d c) :
    0 ≤ plRow l d c n ∧ plRow l d c n < 16 ∧ 0 ≤ n / c % (d - (l - 4)) ∧ n / c % (d - (l - 4)) < d - (l - 4) ∧ plRow l d c n / c = n / c / (d - (l - 4)) ∧ plN l d c (plRow l d c n) (n / c % (d - (l - 4))) = n := by
  obtain ⟨hw, hc⟩ := wd_cases hg
  rw [gCap_yes hg] at h1
  unfold plN plRow
  generalize d - (l - 4) = wd at hw h1
  rcases hw with rfl | rfl | rfl | rfl | rfl | rfl <;> rcases hc with rfl | rfl | rfl <;> omega
/-- The number in a row, of a data chunk: its place is there. -/
theorem num_row {l d c r k : Int} (h : plDok l d c r k = true) : 0 ≤ plN l d c r k ∧ plN l d c r k < gCap l d c ∧ plRow l d c (plN l d c r k) = r ∧ plN l d c r k / c % (d - (l - 4)) = k := by
  obtain ⟨hk, k0, k1⟩ := plDok_yes h
  obtain ⟨hg, r0, r1⟩ := plOk_yes hk
  obtain ⟨hw, hc⟩ := wd_cases hg
  rw [gWid_yes hg] at k1
  rw [gCap_yes hg]
  unfold plN plRow
  generalize d - (l - 4) = wd at hw k1
  rcases hw with rfl | rfl | rfl | rfl | rfl | rfl <;> rcases hc with rfl | rfl | rfl <;> omega
theorem plDok_mk {l d c r k : Int} (h : plOk l d c r = true) (k0 : 0 ≤ k) (k1 : k < d - (l - 4)) : plDok l d c r k = true := by
  unfold plDok
  rw [h, gWid_yes (plOk_yes h).1, decide_eq_true ⟨k0, k1⟩]; rfl
/-- Data stands on no disk of parity. -/
theorem data_ne {l d c r k : Int} (h : plDok l d c r k = true) : 0 ≤ plD l d c r k ∧ plD l d c r k < d ∧ plD l d c r k ≠ plP l d c r ∧ plD l d c r k ≠ plQ l d c r := by
  obtain ⟨hk, k0, k1⟩ := plDok_yes h
  obtain ⟨hg, _, _⟩ := plOk_yes hk
  have hm := rem_bd (r / c) (show 1 ≤ d by have := gOk_bd hg; omega)
  rw [plD_yes h, plP_yes hk]
  rw [gWid_yes hg] at k1
  unfold plQ plF
  rw [if_pos hk]
  generalize r / c % d = m at hm
  rcases ld_cases hg with ⟨rfl, rfl⟩ | ⟨rfl, rfl⟩ | ⟨rfl, rfl⟩ | ⟨rfl, rfl⟩ | ⟨rfl, rfl⟩ | ⟨rfl, rfl⟩ | ⟨rfl, rfl⟩ | ⟨rfl, rfl⟩ | ⟨rfl, rfl⟩ | ⟨rfl, rfl⟩ | ⟨rfl, rfl⟩ <;> simp <;> omega
/-- What stands at data's place. -/
theorem back_data {l d c r k : Int} (h : plDok l d c r k = true) : plBOk l d c (plD l d c r k) r = true ∧ plBk l d c (plD l d c r k) r = 0 ∧ plBn l d c (plD l d c r k) r = plN l d c r k := by
  obtain ⟨a, b, e1, e2⟩ := data_ne h
  have hk := (plDok_yes h).1
  have hb : plBOk l d c (plD l d c r k) r = true := by unfold plBOk; rw [hk, decide_eq_true ⟨a, b⟩]; rfl
  refine ⟨hb, ?_, ?_⟩
  · unfold plBk; rw [if_pos hb, if_neg e1, if_neg e2]
  · unfold plBn; rw [if_pos hb, if_neg e1, if_neg e2, ← plK_only h rfl]
theorem of_yes {l d c n : Int} (hg : gOk l d c = true) (h0 : 0 ≤ n) (h1 : n < gCap l d c) :
    plOfOk l d c n = true ∧ plOfR l d c n = plRow l d c n ∧ plOfD l d c n = plD l d c (plRow l d c n) (n / c % (d - (l - 4))) ∧ plDok l d c (plRow l d c n) (n / c % (d - (l - 4))) = true := by
  obtain ⟨a, b, k0, k1, _, _⟩ := of_row hg h0 h1
  have hok : plOfOk l d c n = true := decide_eq_true ⟨h0, h1⟩
  exact ⟨hok, by rw [plOfR, if_pos hok], by rw [plOfD, if_pos hok], plDok_mk (plOk_mk hg a b) k0 k1⟩
theorem of_back {l d c n : Int} (hg : gOk l d c = true) (h0 : 0 ≤ n) (h1 : n < gCap l d c) :
    plOfOk l d c n = true ∧ (0 ≤ plOfD l d c n ∧ plOfD l d c n < d) ∧ (0 ≤ plOfR l d c n ∧ plOfR l d c n < 16) ∧ plBOk l d c (plOfD l d c n) (plOfR l d c n) = true ∧ plBk l d c (plOfD l d c n) (plOfR l d c n) = 0 ∧ plBn l d c (plOfD l d c n) (plOfR l d c n) = n := by
  obtain ⟨a, b, k0, k1, _, hN⟩ := of_row hg h0 h1
  obtain ⟨hok, hr, hd, hk⟩ := of_yes hg h0 h1
  obtain ⟨b1, b2, b3⟩ := back_data hk
  obtain ⟨d0, d1, _, _⟩ := data_ne hk
  rw [hr, hd]
  exact ⟨hok, ⟨d0, d1⟩, ⟨a, b⟩, b1, b2, by rw [b3]; exact hN⟩
end Go.Proofs.Ytldfoadildaljaa
end
section
namespace Go.Proofs.Ytldfoadildaljaa
open Go.RowKit

/-- The operations behind which S holds: those below n, but ex. -/
def hd (n : Nat) (ex : List Nat) (i : Nat) : Bool := decide (i < n) && !ex.contains i
section
variable {P : Program} {ops : Array Oper} {Q : Exit → Act → World → Prop} {md : Region.Mode} {S : World → Prop} {n : Nat} {ex : List Nat}
/-- Whatever order is picked, S holds behind each operation of the head. -/
def anyH (P : Program) (md : Region.Mode) (ops : Array Oper) (Q : Exit → Act → World → Prop) (S : World → Prop) (n : Nat) (ex : List Nat) : Nat → Array Bool → Act → World → Prop
  | 0, listed, a, w => Region.ready md ops listed = [] ∧ Q .normal a w
  | f + 1, listed, a, w => (Region.ready md ops listed = [] → Q .normal a w) ∧
    ∀ i ∈ Region.ready md ops listed, wpOp P ops Q i (fun a' w' => (hd n ex i = true → S w') ∧ anyH P md ops Q S n ex f (listed.setIfInBounds i true) a' w') a w
theorem any_of_H : ∀ (f : Nat) (listed : Array Bool) (a : Act) (w : World), anyH P md ops Q S n ex f listed a w → wpAny P md ops Q f listed a w
  | 0, _, _, _, h => h
  | f + 1, _, _, _, h => ⟨h.1, fun i hi => wpOp_mono (fun a' w' h' => any_of_H f _ a' w' h'.2) (h.2 i hi)⟩
/-- What is done is done with all that it waited for. -/
structure OInv (md : Region.Mode) (ops : Array Oper) (listed : Array Bool) : Prop where
  size : listed.size = ops.size
  closed : ∀ j oj, ops[j]? = some oj → listed.getD j false = true → ∀ e ∈ oj.after, Region.binds md e = true → listed.getD e.on false = true
theorem OInv.set {i : Nat} {listed : Array Bool} (inv : OInv md ops listed) (hi : i ∈ Region.ready md ops listed) : OInv md ops (listed.setIfInBounds i true) := by
  obtain ⟨_, oi, hoi, hall⟩ := mem_ready.1 hi
  refine ⟨by simp [inv.size], fun j oj hj hl e he hb => ?_⟩
  by_cases hij : i = j
  · subst hij
    have : oj = oi := Option.some.inj (hj.symm.trans hoi)
    subst this
    exact getD_set_true (hall e he hb)
  · rw [getD_set_ne false hij] at hl
    exact getD_set_true (inv.closed j oj hj hl e he hb)
/-- j waits for i, at once or through others. -/
def behind (md : Region.Mode) (ops : Array Oper) (i : Nat) : Nat → Nat → Bool
  | 0, _ => false
  | f + 1, j => match ops[j]? with
    | some o => o.after.any (fun e => Region.binds md e && e.on == i) || o.after.any (fun e => Region.binds md e && behind md ops i f e.on)
    | none => false
theorem behind_done {i : Nat} {listed : Array Bool} (inv : OInv md ops listed) (hun : listed.getD i true = false) : ∀ (f j : Nat) (oj : Oper), ops[j]? = some oj → (∀ e ∈ oj.after, Region.binds md e = true → listed.getD e.on false = true) → behind md ops i f j = true → False
  | 0, _, _, _, _, h => by cases h
  | f + 1, j, oj, hj, hall, h => by
    unfold behind at h
    simp only [hj, Bool.or_eq_true] at h
    rcases h with h | h
    · obtain ⟨e, he, hb⟩ := Array.any_eq_true'.1 h
      simp only [Bool.and_eq_true, beq_iff_eq] at hb
      have h2 := hall e he hb.1
      rw [hb.2, getD_both hun] at h2
      cases h2
    · obtain ⟨e, he, hb⟩ := Array.any_eq_true'.1 h
      simp only [Bool.and_eq_true] at hb
      have h2 := hall e he hb.1
      rcases ho : ops[e.on]? with _ | oe
      · have h3 := hb.2
        cases f with
        | zero => cases h3
        | succ f => unfold behind at h3; simp [ho] at h3
      · exact behind_done inv hun f e.on oe ho (inv.closed e.on oe ho h2) hb.2
theorem anyH_first {i : Nat} {oi : Oper} {v : Value} (hi : ops[i]? = some oi) (hsel : ∀ (j : Nat) (o : Oper) cs b, ops[j]? = some o → o.op ≠ .select cs b) (hQ : ∀ c a w, Q (.panic c) (a.put oi.dst v) w → Q (.panic c) a w) {g : Nat} :
    ∀ (f : Nat) (listed : Array Bool) (a : Act) (w : World), OInv md ops listed → (∀ j, hd n ex j = false → listed.getD j true = false → behind md ops i g j = true) →
      (∀ j oj, ops[j]? = some oj → j ≠ i → listed.getD j true = false → (∀ e ∈ oj.after, Region.binds md e = true → e.on ≠ i) → oi.apart ops oj = true) →
      i ∈ Region.ready md ops listed → YieldsIf P ops S oi v a → S w →
      anyH P md ops Q S n ex f (listed.setIfInBounds i true) (a.put oi.dst v) w → anyH P md ops Q S n ex (f + 1) listed a w := by
  intro f
  induction f with
  | zero =>
    intro listed a w _ _ _ hr hy hS H
    refine ⟨fun h => (by rw [h] at hr; cases hr), fun j hj => ?_⟩
    by_cases hji : j = i
    · subst hji; exact hy.wpOp hi hS ⟨fun _ => hS, H⟩
    · have h1 := ready_mono (i := i) hj hji
      rw [H.1] at h1
      cases h1
  | succ f ih =>
    intro listed a w inv hW hfree hr hy hS H
    have hun := (mem_ready.1 hr).1
    refine ⟨fun h => (by rw [h] at hr; cases hr), fun j hj => ?_⟩
    obtain ⟨hjun, oj, hoj, hall⟩ := mem_ready.1 hj
    have hjn : hd n ex j = true := by
      cases hh : hd n ex j with
      | true => rfl
      | false => exact (behind_done inv hun g j oj hoj hall (hW j hh hjun)).elim
    by_cases hji : j = i
    · subst hji; exact hy.wpOp hi hS ⟨fun _ => hS, H⟩
    · have hnot : ∀ e ∈ oj.after, Region.binds md e = true → e.on ≠ i := fun e he hb heq => by
        have h1 := hall e he hb
        rw [heq, getD_both hun] at h1
        cases h1
      have hap := hfree j oj hoj hji hjun hnot
      have h2 := wpOp_putIf hoj hap (fun cs b => hsel i oi cs b hi) (fun cs b => hsel j oj cs b hoj) hQ hy (H.2 j (ready_mono hj hji))
      have hkeep : ∀ k, (listed.setIfInBounds j true).getD k true = false → listed.getD k true = false := fun k hku => by
        by_cases hjk : j = k
        · subst hjk; exact hjun
        · rwa [getD_set_ne true hjk] at hku
      refine wpOp_mono (fun a' w' h3 => ⟨h3.2.1, ?_⟩) h2
      refine ih (listed.setIfInBounds j true) a' w' (inv.set hj) (fun k hk hku => hW k hk (hkeep k hku)) (fun k ok hk hki hku hno => hfree k ok hk hki (hkeep k hku) hno) (ready_mono hr (Ne.symm hji)) h3.1 (h3.2.1 hjn) ?_
      · rw [Array.setIfInBounds_comm _ _ hji]
        exact h3.2.2
/-- What is fixed of a region. -/
structure Reg (ops : Array Oper) (Q : Exit → Act → World → Prop) : Prop where
  sel : ∀ (j : Nat) (o : Oper) cs b, ops[j]? = some o → o.op ≠ .select cs b
  panic : ∀ c (a : Act) d v w, Q (.panic c) (a.put d v) w → Q (.panic c) a w
def anyI (P : Program) (ops : Array Oper) (Q : Exit → Act → World → Prop) (S : World → Prop) (n : Nat) (ex : List Nat) (f : Nat) (listed : Array Bool) (a : Act) (w : World) : Prop := OInv .any ops listed → anyH P .any ops Q S n ex f listed a w
theorem region_ord {id : Nat} {a : Act} {w : World} {l : List Oper} (n : Nat) (ex : List Nat) (S : World → Prop) (hm : P.follows .mixedOrders = true) (hB : Region.noSelect l.toArray = true)
    (hQ : ∀ c (a : Act) d v w, Q (.panic c) (a.put d v) w → Q (.panic c) a w) (h : Reg l.toArray Q → anyI P l.toArray Q S n ex l.toArray.size (Array.replicate l.toArray.size false) a w.drew) : (Code.region id l.toArray true).wp P Q a w :=
  wp_region_any hm (any_of_H _ _ _ _ (h ⟨Region.noSelect_spec hB, hQ⟩ ⟨by simp, fun j oj _ hl => (by rw [getD_replicate_false] at hl; cases hl)⟩))
def waitB (ops : Array Oper) (n : Nat) (ex : List Nat) (listed : Array Bool) (i : Nat) : Bool := (List.range ops.size).all fun j => hd n ex j || listed.getD j true || behind .any ops i ops.size j
theorem anyI_take (R : Reg ops Q) (i : Nat) {oi : Oper} {v : Value} {f : Nat} {listed : Array Bool} {a : Act} {w : World} (hi : ops[i]? = some oi) (hB : ((Region.ready .any ops listed).contains i && Region.free .any ops listed i && waitB ops n ex listed i) = true)
    (hw : Region.wanted oi (yielded ops a.tmps) = true) (hv : ∀ w, S w → (execOp a.eval oi).run P w = .ok (.value v) w) (hS : S w) (h : anyI P ops Q S n ex f (listed.setIfInBounds i true) (a.put oi.dst v) w) : anyI P ops Q S n ex (f + 1) listed a w := fun inv => by
  simp only [Bool.and_eq_true] at hB
  obtain ⟨⟨hr, hf⟩, hW⟩ := hB
  have hr' : i ∈ Region.ready .any ops listed := by simpa using hr
  refine anyH_first (g := ops.size) hi R.sel (fun c a w h => R.panic c a _ _ w h) f listed a w inv (fun j hj hun => ?_) (Region.free_spec hi hf) hr' (.inl ⟨hw, hv⟩) hS (h (inv.set hr'))
  rcases Nat.lt_or_ge j ops.size with hlt | hge
  · have h1 := List.all_eq_true.1 hW j (List.mem_range.2 hlt)
    simpa [hj, hun] using h1
  · rw [← inv.size] at hge
    simp [Array.getElem?_eq_none hge] at hun
theorem anyI_one (i : Nat) {oi : Oper} {f : Nat} {listed : Array Bool} {a : Act} {w : World} (hrs : Region.ready .any ops listed = [i]) (hi : ops[i]? = some oi)
    (h1 : opE P ops Q oi (fun a' w' => S w' ∧ anyI P ops Q S n ex f (listed.setIfInBounds i true) a' w') a w) : anyI P ops Q S n ex (f + 1) listed a w := fun inv => by
  refine ⟨fun h => (by rw [hrs] at h; cases h), fun t ht => ?_⟩
  have ht' := ht
  rw [hrs] at ht
  obtain rfl := List.mem_singleton.1 ht
  exact wpOp_mono (fun a' w' h => ⟨fun _ => h.1, h.2 (inv.set ht')⟩) (wpOp_of_opE hi h1)
theorem anyH_of_seq : ∀ (l : List Oper) (k : Nat) (listed : Array Bool) (a : Act) (w : World), n ≤ k → (∀ j, l[j]? = ops[k + j]?) → Region.seqB .any ops l.length k listed = true → wpList P ops Q l a w → anyH P .any ops Q S n ex l.length listed a w
  | [], k, listed, a, w, _, _, hB, h => ⟨by simpa [Region.seqB] using hB, h⟩
  | o :: l, k, listed, a, w, hk, hl, hB, h => by
    have h0 : ops[k]? = some o := by simpa using (hl 0).symm
    simp only [List.length_cons, Region.seqB, Bool.and_eq_true, decide_eq_true_eq] at hB
    refine ⟨fun h1 => (by rw [hB.1] at h1; cases h1), fun i hi => ?_⟩
    rw [hB.1] at hi
    have hik : i = k := by simpa using hi
    subst hik
    have hw : wpOp P ops Q i (wpList P ops Q l) a w := by unfold wpOp; simp only [h0]; exact h
    exact wpOp_mono (fun a' w' h' => ⟨fun h => (by simp [hd] at h; omega), anyH_of_seq l (i + 1) _ a' w' (by omega) (fun j => by have := hl (j + 1); simpa [Nat.add_assoc, Nat.add_comm 1 j] using this) hB.2 h'⟩) hw
theorem anyI_tail {l : List Oper} {f : Nat} {listed : Array Bool} {a : Act} {w : World} (hB : (decide (f = l.length - n) && Region.seqB .any l.toArray (l.length - n) n listed) = true) (h : wpList P l.toArray Q (l.drop n) a w) : anyI P l.toArray Q S n ex f listed a w := fun _ => by
  simp only [Bool.and_eq_true, decide_eq_true_eq] at hB
  obtain ⟨rfl, hB⟩ := hB
  have hdl : (l.drop n).length = l.length - n := by simp
  have := anyH_of_seq (P := P) (Q := Q) (S := S) (n := n) (ex := ex) (l.drop n) n listed a w (Nat.le_refl _) (fun j => by simp [List.getElem?_drop]) (by rw [hdl]; exact hB) h
  rwa [hdl] at this
theorem opE_step {o : Oper} {K : Act → World → Prop} {a : Act} {w : World} (h : if Region.wanted o (yielded ops a.tmps) = true then o.wp P a w K Q else K (a.put o.dst undef) w) : opE P ops Q o K a w := by
  unfold opE
  split at h
  · rename_i hw; rw [if_pos hw]; exact .inl h
  · rename_i hw; rw [if_neg hw]; exact h
end
end Go.Proofs.Ytldfoadildaljaa
end
section
namespace Go.Proofs.Ytldfoadildaljaa
open Go.RowKit

section
variable {P : Program} {ops : Array Oper} {Q : Exit → Act → World → Prop} {S : World → Prop} {n : Nat} {ex : List Nat}
theorem anyI_skip (R : Reg ops Q) (i : Nat) {oi : Oper} {f : Nat} {listed : Array Bool} {a : Act} {w : World} (hi : ops[i]? = some oi) (hB : ((Region.ready .any ops listed).contains i && Region.free .any ops listed i && waitB ops n ex listed i) = true)
    (hw : Region.wanted oi (yielded ops a.tmps) = false) (hS : S w) (h : anyI P ops Q S n ex f (listed.setIfInBounds i true) (a.put oi.dst undef) w) : anyI P ops Q S n ex (f + 1) listed a w := fun inv => by
  simp only [Bool.and_eq_true] at hB
  obtain ⟨⟨hr, hf⟩, hW⟩ := hB
  have hr' : i ∈ Region.ready .any ops listed := by simpa using hr
  refine anyH_first (g := ops.size) hi R.sel (fun c a w h => R.panic c a _ _ w h) f listed a w inv (fun j hj hun => ?_) (Region.free_spec hi hf) hr' (.inr ⟨hw, rfl⟩) hS (h (inv.set hr'))
  rcases Nat.lt_or_ge j ops.size with hlt | hge
  · have h1 := List.all_eq_true.1 hW j (List.mem_range.2 hlt)
    simpa [hj, hun] using h1
  · rw [← inv.size] at hge
    simp [Array.getElem?_eq_none hge] at hun
end
end Go.Proofs.Ytldfoadildaljaa
end
