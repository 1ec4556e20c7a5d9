/- Texts put together: Rows2, GfInv, GfAid, RefGf, Ord, OrdSkip. -/
import Derived.Test.YtadmofpipfdedaaRqaa
import Derived.Deep.Matrix
section
namespace Go.Proofs.Ytadmofpipfdedaa
open Go.ChangeShapes Go.WideShapes Go.ChangeAt Go.RowKit

section
variable {H : Type} {enc : TypeId × Value → H} {P : Program}
end

end Go.Proofs.Ytadmofpipfdedaa
end
section
namespace Go.Proofs.Ytadmofpipfdedaa
open Go.RowKit

theorem inv_any (a : Nat) (ha : a < 256) (w : World) : Calls Try.prog 112 #[.int .u8 (a : Int)] w fun e w' => e = .returned (.int .u8 ((ginv a : Nat) : Int)) ∧ w' = w := by
  have H := Lib.hid (gpw_inv ha)
  go_enter Try.func112, Try.ntmps112
  go_wp2_with (go_at_call 108; refine (power_any a 254 ha (by decide) _).mono ?_; rintro e w' ⟨rfl, rfl⟩)
  go_ret
  exact ⟨ret_int (congrArg Nat.cast H.out), rfl⟩
end Go.Proofs.Ytadmofpipfdedaa
end
section
namespace Go.Proofs.Ytadmofpipfdedaa
open Go.RowKit

theorem i64_xor_small (a b : Nat) (ha : a < 1024) (hb : b < 1024) : bits .xor .i64 (a : Int) (b : Int) = ((a ^^^ b : Nat) : Int) := by
  have hx : a ^^^ b < 2 ^ 10 := Nat.xor_lt_two_pow (by omega) (by omega)
  have o : ∀ n : Nat, n < 1024 → (BitVec.ofInt 64 (n : Int)).toNat = n := fun n hn => by rw [BitVec.ofInt_natCast, BitVec.toNat_ofNat]; exact Nat.mod_eq_of_lt (by omega)
  show IntKind.i64.wrap ((BitVec.ofInt 64 (a : Int) ^^^ BitVec.ofInt 64 (b : Int)).toNat : Int) = _
  rw [BitVec.toNat_xor, o a ha, o b hb]
  exact IntWalk.i64_in _ (by omega)
theorem xor285 : ∀ x : Nat, x < 256 → ¬ x < 128 → (2 * x) ^^^ 285 = dbl x := by decide +kernel
end Go.Proofs.Ytadmofpipfdedaa
end
section
namespace Go.Proofs.Ytadmofpipfdedaa
open Go.RowKit

theorem mulF_more (k b : Nat) (h : k < 8) (s x : Nat) : mulF (8 - k) s x (b / 2 ^ k) = mulF (8 - (k + 1)) (if b / 2 ^ k % 2 = 1 then s ^^^ x else s) (dbl x) (b / 2 ^ (k + 1)) := by
  rw [show 8 - k = (8 - (k + 1)) + 1 from by omega, mulF_step, Nat.div_div_eq_div_mul, ← Nat.pow_succ]
theorem bit_any (b k : Nat) (hb : b < 256) : bits .and .u8 ((b : Int) / 2 ^ k) 1 = ((b / 2 ^ k % 2 : Nat) : Int) := by
  have hlt : b / 2 ^ k < 256 := Nat.lt_of_le_of_lt (Nat.div_le_self _ _) hb
  have := u8_and_nat (b / 2 ^ k) 1 hlt (by decide)
  rw [nat_mask1] at this
  rw [← this]
  simp
theorem refMul_any (a b : Nat) (ha : a < 256) (hb : b < 256) (w : World) : Calls Try.prog 85 #[.int .u8 (a : Int), .int .u8 (b : Int)] w fun e w' => e = .returned (.int .u8 ((gmul a b : Nat) : Int)) ∧ w' = w := by
  go_enter Try.func85, Try.ntmps85
  go_wp2
  go_loop [5, 6, 7] (fun vx vs vk => ∃ k s x : Nat, k ≤ 8 ∧ s < 256 ∧ x < 256 ∧ vx = .int .i64 (x : Int) ∧ vs = .int .i64 (s : Int) ∧ vk = .int .i64 (k : Int) ∧ Hid (mulF (8 - k) s x (b / 2 ^ k) = gmul a b)) (fun _ _ vk => 8 - (intOf vk).toNat)
  case atStart => exact ⟨0, 0, a, by omega, by decide, ha, rfl, rfl, rfl, (by rw [Nat.pow_zero, Nat.div_one]; rfl : mulF (8 - 0) 0 a (b / 2 ^ 0) = gmul a b)⟩
  case round =>
    obtain ⟨k, s, x, hk, hs, hx, rfl, rfl, rfl, Hm⟩ := hrel
    by_cases h8 : k < 8
    · have hdx := dbl_lt x hx
      have hxl := xor_lt8 hs hx
      have ex := i64_xor_small s x (by omega) (by omega)
      have e0 := bit_any b k hb
      have Hk := Lib.hid ((mulF_more k b h8 s x).symm.trans Hm.out)
      clear Hm
      by_cases hbit : b / 2 ^ k % 2 = 1
      · rw [hbit, show ((1 : Nat) : Int) = 1 from rfl] at e0
        have Hr : Hid (mulF (8 - (k + 1)) (s ^^^ x) (dbl x) (b / 2 ^ (k + 1)) = gmul a b) := by have := Hk.out; rw [if_pos hbit] at this; exact this
        clear Hk hbit
        by_cases h : x < 128
        · have Hd : Hid (dbl x = 2 * x) := if_pos h
          go_wp2
          go_round
          case rel => exact ⟨k + 1, (s ^^^ x), dbl x, by omega, by assumption, hdx, by rw [Hd.out]; go_num, rfl, by go_num, Hr⟩
          case measure => simp [intOf]; omega
        · have e1 := i64_xor_small (2 * x) 285 (by omega) (by omega)
          have e2 : ((2 * x : Nat) : Int) = (x : Int) * 2 := by omega
          rw [e2, xor285 x hx h, show ((285 : Nat) : Int) = 285 from rfl] at e1
          clear e2
          go_wp2
          go_round
          case rel => exact ⟨k + 1, (s ^^^ x), dbl x, by omega, by assumption, hdx, rfl, rfl, by go_num, Hr⟩
          case measure => simp [intOf]; omega
      · rw [show b / 2 ^ k % 2 = 0 from by omega, show ((0 : Nat) : Int) = 0 from rfl] at e0
        have Hr : Hid (mulF (8 - (k + 1)) s (dbl x) (b / 2 ^ (k + 1)) = gmul a b) := by have := Hk.out; rw [if_neg hbit] at this; exact this
        clear Hk hbit
        by_cases h : x < 128
        · have Hd : Hid (dbl x = 2 * x) := if_pos h
          go_wp2
          go_round
          case rel => exact ⟨k + 1, s, dbl x, by omega, by assumption, hdx, by rw [Hd.out]; go_num, rfl, by go_num, Hr⟩
          case measure => simp [intOf]; omega
        · have e1 := i64_xor_small (2 * x) 285 (by omega) (by omega)
          have e2 : ((2 * x : Nat) : Int) = (x : Int) * 2 := by omega
          rw [e2, xor285 x hx h, show ((285 : Nat) : Int) = 285 from rfl] at e1
          clear e2
          go_wp2
          go_round
          case rel => exact ⟨k + 1, s, dbl x, by omega, by assumption, hdx, rfl, rfl, by go_num, Hr⟩
          case measure => simp [intOf]; omega
    · obtain rfl : k = 8 := by omega
      have Hr : Hid (s = gmul a b) := Hm.out
      clear Hm
      go_wp2
      go_ret
      exact ⟨ret_int (congrArg Nat.cast Hr.out), rfl⟩
end Go.Proofs.Ytadmofpipfdedaa
end
section
namespace Go.Proofs.Ytadmofpipfdedaa
open Go.RowKit

/-- The operations behind which S holds: those below n, but ex. -/
def hd (n : Nat) (ex : List Nat) (i : Nat) : Bool := decide (i < n) && !ex.contains i
section
variable {P : Program} {ops : Array Oper} {Q : Exit → Act → World → Prop} {md : Region.Mode} {S : World → Prop} {n : Nat} {ex : List Nat}
/-- Whatever order is picked, S holds behind each operation of the head. -/
def anyH (P : Program) (md : Region.Mode) (ops : Array Oper) (Q : Exit → Act → World → Prop) (S : World → Prop) (n : Nat) (ex : List Nat) : Nat → Array Bool → Act → World → Prop
  | 0, listed, a, w => Region.ready md ops listed = [] ∧ Q .normal a w
  | f + 1, listed, a, w => (Region.ready md ops listed = [] → Q .normal a w) ∧
    ∀ i ∈ Region.ready md ops listed, wpOp P ops Q i (fun a' w' => (hd n ex i = true → S w') ∧ anyH P md ops Q S n ex f (listed.setIfInBounds i true) a' w') a w
theorem any_of_H : ∀ (f : Nat) (listed : Array Bool) (a : Act) (w : World), anyH P md ops Q S n ex f listed a w → wpAny P md ops Q f listed a w
  | 0, _, _, _, h => h
  | f + 1, _, _, _, h => ⟨h.1, fun i hi => wpOp_mono (fun a' w' h' => any_of_H f _ a' w' h'.2) (h.2 i hi)⟩
/-- What is done is done with all that it waited for. -/
structure OInv (md : Region.Mode) (ops : Array Oper) (listed : Array Bool) : Prop where
  size : listed.size = ops.size
  closed : ∀ j oj, ops[j]? = some oj → listed.getD j false = true → ∀ e ∈ oj.after, Region.binds md e = true → listed.getD e.on false = true
theorem OInv.set {i : Nat} {listed : Array Bool} (inv : OInv md ops listed) (hi : i ∈ Region.ready md ops listed) : OInv md ops (listed.setIfInBounds i true) := by
  obtain ⟨_, oi, hoi, hall⟩ := mem_ready.1 hi
  refine ⟨by simp [inv.size], fun j oj hj hl e he hb => ?_⟩
  by_cases hij : i = j
  · subst hij
    have : oj = oi := Option.some.inj (hj.symm.trans hoi)
    subst this
    exact getD_set_true (hall e he hb)
  · rw [getD_set_ne false hij] at hl
    exact getD_set_true (inv.closed j oj hj hl e he hb)
/-- j waits for i, at once or through others. -/
def behind (md : Region.Mode) (ops : Array Oper) (i : Nat) : Nat → Nat → Bool
  | 0, _ => false
  | f + 1, j => match ops[j]? with
    | some o => o.after.any (fun e => Region.binds md e && e.on == i) || o.after.any (fun e => Region.binds md e && behind md ops i f e.on)
    | none => false
theorem behind_done {i : Nat} {listed : Array Bool} (inv : OInv md ops listed) (hun : listed.getD i true = false) : ∀ (f j : Nat) (oj : Oper), ops[j]? = some oj → (∀ e ∈ oj.after, Region.binds md e = true → listed.getD e.on false = true) → behind md ops i f j = true → False
  | 0, _, _, _, _, h => by cases h
  | f + 1, j, oj, hj, hall, h => by
    unfold behind at h
    simp only [hj, Bool.or_eq_true] at h
    rcases h with h | h
    · obtain ⟨e, he, hb⟩ := Array.any_eq_true'.1 h
      simp only [Bool.and_eq_true, beq_iff_eq] at hb
      have h2 := hall e he hb.1
      rw [hb.2, getD_both hun] at h2
      cases h2
    · obtain ⟨e, he, hb⟩ := Array.any_eq_true'.1 h
      simp only [Bool.and_eq_true] at hb
      have h2 := hall e he hb.1
      rcases ho : ops[e.on]? with _ | oe
      · have h3 := hb.2
        cases f with
        | zero => cases h3
        | succ f => unfold behind at h3; simp [ho] at h3
      · exact behind_done inv hun f e.on oe ho (inv.closed e.on oe ho h2) hb.2
theorem anyH_first {i : Nat} {oi : Oper} {v : Value} (hi : ops[i]? = some oi) (hsel : ∀ (j : Nat) (o : Oper) cs b, ops[j]? = some o → o.op ≠ .select cs b) (hQ : ∀ c a w, Q (.panic c) (a.put oi.dst v) w → Q (.panic c) a w) {g : Nat} :
    ∀ (f : Nat) (listed : Array Bool) (a : Act) (w : World), OInv md ops listed → (∀ j, hd n ex j = false → listed.getD j true = false → behind md ops i g j = true) →
      (∀ j oj, ops[j]? = some oj → j ≠ i → listed.getD j true = false → (∀ e ∈ oj.after, Region.binds md e = true → e.on ≠ i) → oi.apart ops oj = true) →
      i ∈ Region.ready md ops listed → YieldsIf P ops S oi v a → S w →
      anyH P md ops Q S n ex f (listed.setIfInBounds i true) (a.put oi.dst v) w → anyH P md ops Q S n ex (f + 1) listed a w := by
  intro f
  induction f with
  | zero =>
    intro listed a w _ _ _ hr hy hS H
    refine ⟨fun h => (by rw [h] at hr; cases hr), fun j hj => ?_⟩
    by_cases hji : j = i
    · subst hji; exact hy.wpOp hi hS ⟨fun _ => hS, H⟩
    · have h1 := ready_mono (i := i) hj hji
      rw [H.1] at h1
      cases h1
  | succ f ih =>
    intro listed a w inv hW hfree hr hy hS H
    have hun := (mem_ready.1 hr).1
    refine ⟨fun h => (by rw [h] at hr; cases hr), fun j hj => ?_⟩
    obtain ⟨hjun, oj, hoj, hall⟩ := mem_ready.1 hj
    have hjn : hd n ex j = true := by
      cases hh : hd n ex j with
      | true => rfl
      | false => exact (behind_done inv hun g j oj hoj hall (hW j hh hjun)).elim
    by_cases hji : j = i
    · subst hji; exact hy.wpOp hi hS ⟨fun _ => hS, H⟩
    · have hnot : ∀ e ∈ oj.after, Region.binds md e = true → e.on ≠ i := fun e he hb heq => by
        have h1 := hall e he hb
        rw [heq, getD_both hun] at h1
        cases h1
      have hap := hfree j oj hoj hji hjun hnot
      have h2 := wpOp_putIf hoj hap (fun cs b => hsel i oi cs b hi) (fun cs b => hsel j oj cs b hoj) hQ hy (H.2 j (ready_mono hj hji))
      have hkeep : ∀ k, (listed.setIfInBounds j true).getD k true = false → listed.getD k true = false := fun k hku => by
        by_cases hjk : j = k
        · subst hjk; exact hjun
        · rwa [getD_set_ne true hjk] at hku
      refine wpOp_mono (fun a' w' h3 => ⟨h3.2.1, ?_⟩) h2
      refine ih (listed.setIfInBounds j true) a' w' (inv.set hj) (fun k hk hku => hW k hk (hkeep k hku)) (fun k ok hk hki hku hno => hfree k ok hk hki (hkeep k hku) hno) (ready_mono hr (Ne.symm hji)) h3.1 (h3.2.1 hjn) ?_
      · rw [Array.setIfInBounds_comm _ _ hji]
        exact h3.2.2
/-- What is fixed of a region. -/
structure Reg (ops : Array Oper) (Q : Exit → Act → World → Prop) : Prop where
  sel : ∀ (j : Nat) (o : Oper) cs b, ops[j]? = some o → o.op ≠ .select cs b
  panic : ∀ c (a : Act) d v w, Q (.panic c) (a.put d v) w → Q (.panic c) a w
def anyI (P : Program) (ops : Array Oper) (Q : Exit → Act → World → Prop) (S : World → Prop) (n : Nat) (ex : List Nat) (f : Nat) (listed : Array Bool) (a : Act) (w : World) : Prop := OInv .any ops listed → anyH P .any ops Q S n ex f listed a w
theorem region_ord {id : Nat} {a : Act} {w : World} {l : List Oper} (n : Nat) (ex : List Nat) (S : World → Prop) (hm : P.follows .mixedOrders = true) (hB : Region.noSelect l.toArray = true)
    (hQ : ∀ c (a : Act) d v w, Q (.panic c) (a.put d v) w → Q (.panic c) a w) (h : Reg l.toArray Q → anyI P l.toArray Q S n ex l.toArray.size (Array.replicate l.toArray.size false) a w.drew) : (Code.region id l.toArray true).wp P Q a w :=
  wp_region_any hm (any_of_H _ _ _ _ (h ⟨Region.noSelect_spec hB, hQ⟩ ⟨by simp, fun j oj _ hl => (by rw [getD_replicate_false] at hl; cases hl)⟩))
def waitB (ops : Array Oper) (n : Nat) (ex : List Nat) (listed : Array Bool) (i : Nat) : Bool := (List.range ops.size).all fun j => hd n ex j || listed.getD j true || behind .any ops i ops.size j
theorem anyI_take (R : Reg ops Q) (i : Nat) {oi : Oper} {v : Value} {f : Nat} {listed : Array Bool} {a : Act} {w : World} (hi : ops[i]? = some oi) (hB : ((Region.ready .any ops listed).contains i && Region.free .any ops listed i && waitB ops n ex listed i) = true)
    (hw : Region.wanted oi (yielded ops a.tmps) = true) (hv : ∀ w, S w → (execOp a.eval oi).run P w = .ok (.value v) w) (hS : S w) (h : anyI P ops Q S n ex f (listed.setIfInBounds i true) (a.put oi.dst v) w) : anyI P ops Q S n ex (f + 1) listed a w := fun inv => by
  simp only [Bool.and_eq_true] at hB
  obtain ⟨⟨hr, hf⟩, hW⟩ := hB
  have hr' : i ∈ Region.ready .any ops listed := by simpa using hr
  refine anyH_first (g := ops.size) hi R.sel (fun c a w h => R.panic c a _ _ w h) f listed a w inv (fun j hj hun => ?_) (Region.free_spec hi hf) hr' (.inl ⟨hw, hv⟩) hS (h (inv.set hr'))
  rcases Nat.lt_or_ge j ops.size with hlt | hge
  · have h1 := List.all_eq_true.1 hW j (List.mem_range.2 hlt)
    simpa [hj, hun] using h1
  · rw [← inv.size] at hge
    simp [Array.getElem?_eq_none hge] at hun
theorem anyI_one (i : Nat) {oi : Oper} {f : Nat} {listed : Array Bool} {a : Act} {w : World} (hrs : Region.ready .any ops listed = [i]) (hi : ops[i]? = some oi)
    (h1 : opE P ops Q oi (fun a' w' => S w' ∧ anyI P ops Q S n ex f (listed.setIfInBounds i true) a' w') a w) : anyI P ops Q S n ex (f + 1) listed a w := fun inv => by
  refine ⟨fun h => (by rw [hrs] at h; cases h), fun t ht => ?_⟩
  have ht' := ht
  rw [hrs] at ht
  obtain rfl := List.mem_singleton.1 ht
  exact wpOp_mono (fun a' w' h => ⟨fun _ => h.1, h.2 (inv.set ht')⟩) (wpOp_of_opE hi h1)
theorem anyH_of_seq : ∀ (l : List Oper) (k : Nat) (listed : Array Bool) (a : Act) (w : World), n ≤ k → (∀ j, l[j]? = ops[k + j]?) → Region.seqB .any ops l.length k listed = true → wpList P ops Q l a w → anyH P .any ops Q S n ex l.length listed a w
  | [], k, listed, a, w, _, _, hB, h => ⟨by simpa [Region.seqB] using hB, h⟩
  | o :: l, k, listed, a, w, hk, hl, hB, h => by
    have h0 : ops[k]? = some o := by simpa using (hl 0).symm
    simp only [List.length_cons, Region.seqB, Bool.and_eq_true, decide_eq_true_eq] at hB
    refine ⟨fun h1 => (by rw [hB.1] at h1; cases h1), fun i hi => ?_⟩
    rw [hB.1] at hi
    have hik : i = k := by simpa using hi
    subst hik
    have hw : wpOp P ops Q i (wpList P ops Q l) a w := by unfold wpOp; simp only [h0]; exact h
    exact wpOp_mono (fun a' w' h' => ⟨fun h => (by simp [hd] at h; omega), anyH_of_seq l (i + 1) _ a' w' (by omega) (fun j => by have := hl (j + 1); simpa [Nat.add_assoc, Nat.add_comm 1 j] using this) hB.2 h'⟩) hw
theorem anyI_tail {l : List Oper} {f : Nat} {listed : Array Bool} {a : Act} {w : World} (hB : (decide (f = l.length - n) && Region.seqB .any l.toArray (l.length - n) n listed) = true) (h : wpList P l.toArray Q (l.drop n) a w) : anyI P l.toArray Q S n ex f listed a w := fun _ => by
  simp only [Bool.and_eq_true, decide_eq_true_eq] at hB
  obtain ⟨rfl, hB⟩ := hB
  have hdl : (l.drop n).length = l.length - n := by simp
  have := anyH_of_seq (P := P) (Q := Q) (S := S) (n := n) (ex := ex) (l.drop n) n listed a w (Nat.le_refl _) (fun j => by simp [List.getElem?_drop]) (by rw [hdl]; exact hB) h
  rwa [hdl] at this
theorem opE_step {o : Oper} {K : Act → World → Prop} {a : Act} {w : World} (h : if Region.wanted o (yielded ops a.tmps) = true then o.wp P a w K Q else K (a.put o.dst undef) w) : opE P ops Q o K a w := by
  unfold opE
  split at h
  · rename_i hw; rw [if_pos hw]; exact .inl h
  · rename_i hw; rw [if_neg hw]; exact h
end
end Go.Proofs.Ytadmofpipfdedaa
end
section
namespace Go.Proofs.Ytadmofpipfdedaa
open Go.RowKit

section
variable {P : Program} {ops : Array Oper} {Q : Exit → Act → World → Prop} {S : World → Prop} {n : Nat} {ex : List Nat}
theorem anyI_skip (R : Reg ops Q) (i : Nat) {oi : Oper} {f : Nat} {listed : Array Bool} {a : Act} {w : World} (hi : ops[i]? = some oi) (hB : ((Region.ready .any ops listed).contains i && Region.free .any ops listed i && waitB ops n ex listed i) = true)
    (hw : Region.wanted oi (yielded ops a.tmps) = false) (hS : S w) (h : anyI P ops Q S n ex f (listed.setIfInBounds i true) (a.put oi.dst undef) w) : anyI P ops Q S n ex (f + 1) listed a w := fun inv => by
  simp only [Bool.and_eq_true] at hB
  obtain ⟨⟨hr, hf⟩, hW⟩ := hB
  have hr' : i ∈ Region.ready .any ops listed := by simpa using hr
  refine anyH_first (g := ops.size) hi R.sel (fun c a w h => R.panic c a _ _ w h) f listed a w inv (fun j hj hun => ?_) (Region.free_spec hi hf) hr' (.inr ⟨hw, rfl⟩) hS (h (inv.set hr'))
  rcases Nat.lt_or_ge j ops.size with hlt | hge
  · have h1 := List.all_eq_true.1 hW j (List.mem_range.2 hlt)
    simpa [hj, hun] using h1
  · rw [← inv.size] at hge
    simp [Array.getElem?_eq_none hge] at hun
end
end Go.Proofs.Ytadmofpipfdedaa
end
