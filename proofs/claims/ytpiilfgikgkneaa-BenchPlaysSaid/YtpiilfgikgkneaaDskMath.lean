/- A disk as plain data: what is settled, what is pending, in order. Of no program. -/
import Derived.Test.YtpiilfgikgkneaaMem
namespace Go.Proofs.Ytpiilfgikgkneaa

/-- Sector k of all bytes. -/
def secAt (L : List UInt8) (k : Nat) : List UInt8 := (L.drop (k * 32)).take 32
/-- All bytes with sector k set. -/
def putAt (L : List UInt8) (k : Nat) (x : List UInt8) : List UInt8 := L.take (k * 32) ++ x ++ L.drop (k * 32 + 32)
theorem putAt_get {L x : List UInt8} {k : Nat} (hL : k * 32 + 32 ≤ L.length) (hx : x.length = 32) (i : Nat) : (putAt L k x)[i]? = if i < k * 32 then L[i]? else if i < k * 32 + 32 then x[i - k * 32]? else L[i]? := by
  have h1 : (L.take (k * 32)).length = k * 32 := by rw [List.length_take]; omega
  unfold putAt
  by_cases c : i < k * 32
  · rw [if_pos c, List.append_assoc, List.getElem?_append_left (by omega), List.getElem?_take, if_pos c]
  · rw [if_neg c]
    by_cases c2 : i < k * 32 + 32
    · rw [if_pos c2, List.append_assoc, List.getElem?_append_right (by omega), h1, List.getElem?_append_left (by omega)]
    · rw [if_neg c2, List.getElem?_append_right (by rw [List.length_append]; omega), List.length_append, h1, hx, List.getElem?_drop]
      congr 1
      omega
theorem putAt_len {L x : List UInt8} {k n : Nat} (hL : L.length = n) (hk : k * 32 + 32 ≤ n) (hx : x.length = 32) : (putAt L k x).length = n := by
  unfold putAt; simp; omega
theorem secAt_len {L : List UInt8} {k : Nat} (hL : k * 32 + 32 ≤ L.length) : (secAt L k).length = 32 := by unfold secAt; simp; omega
theorem secAt_get (L : List UInt8) (k i : Nat) : (secAt L k)[i]? = if i < 32 then L[k * 32 + i]? else none := by
  unfold secAt
  rw [List.getElem?_take]
  split
  · rw [List.getElem?_drop]
  · rfl
theorem sec_put_same {L x : List UInt8} {k : Nat} (hl : L.length = 1664) (hk : k < 52) (hx : x.length = 32) : secAt (putAt L k x) k = x := by
  have hL : k * 32 + 32 ≤ L.length := by omega
  apply List.ext_getElem?
  intro i
  rw [secAt_get]
  split
  · rw [putAt_get hL hx, if_neg (by omega), if_pos (by omega)]
    congr 1
    omega
  · rw [List.getElem?_eq_none (by omega)]
theorem sec_put_other {L x : List UInt8} {k j : Nat} (hl : L.length = 1664) (hk : k < 52) (hx : x.length = 32) (hne : j ≠ k) : secAt (putAt L k x) j = secAt L j := by
  have hL : k * 32 + 32 ≤ L.length := by omega
  apply List.ext_getElem?
  intro i
  rw [secAt_get, secAt_get]
  split
  · rw [putAt_get hL hx]
    by_cases c : j * 32 + i < k * 32
    · rw [if_pos c]
    · rw [if_neg c, if_neg (by omega)]
  · rfl
theorem put_sec {L : List UInt8} {k : Nat} : putAt L k (secAt L k) = L := by
  unfold putAt secAt
  rw [List.append_assoc, ← List.drop_drop, List.take_append_drop, List.take_append_drop]
theorem sec_ext {L M : List UInt8} (hL : L.length = 1664) (hM : M.length = 1664) (h : ∀ k, k < 52 → secAt L k = secAt M k) : L = M := by
  apply List.ext_getElem?
  intro i
  by_cases hi : i < 1664
  · have h1 := h (i / 32) (by omega)
    have h2 : (secAt L (i / 32))[i % 32]? = (secAt M (i / 32))[i % 32]? := by rw [h1]
    rw [secAt_get, secAt_get, if_pos (by omega), if_pos (by omega), show i / 32 * 32 + i % 32 = i by omega] at h2
    exact h2
  · rw [List.getElem?_eq_none (by omega), List.getElem?_eq_none (by omega)]

/-- All bytes with these writes done, in order. -/
def nowOf (S : List UInt8) (ps : List (Nat × List UInt8)) : List UInt8 := ps.foldl (fun L p => putAt L p.1 p.2) S
/-- What was written there last. -/
def lastOf : List (Nat × List UInt8) → Nat → Option (List UInt8)
  | [], _ => none
  | p :: ps, k => match lastOf ps k with | some x => some x | none => if p.1 = k then some p.2 else none
theorem lastOf_cons (p : Nat × List UInt8) (ps : List (Nat × List UInt8)) (k : Nat) : lastOf (p :: ps) k = match lastOf ps k with | some x => some x | none => if p.1 = k then some p.2 else none := rfl
def WOk (ps : List (Nat × List UInt8)) : Prop := ∀ p ∈ ps, p.1 < 52 ∧ p.2.length = 32
theorem WOk.nil : WOk [] := fun _ h => by cases h
theorem WOk.cons {p : Nat × List UInt8} {ps : List (Nat × List UInt8)} (h : WOk (p :: ps)) : WOk ps := fun q hq => h q (List.mem_cons_of_mem _ hq)
theorem WOk.snoc {ps : List (Nat × List UInt8)} (h : WOk ps) {k : Nat} {x : List UInt8} (hk : k < 52) (hx : x.length = 32) : WOk (ps ++ [(k, x)]) := fun q hq => by
  rcases List.mem_append.1 hq with h1 | h1
  · exact h q h1
  · obtain rfl := List.mem_singleton.1 h1; exact ⟨hk, hx⟩
theorem WOk.filter {ps : List (Nat × List UInt8)} (h : WOk ps) (f : Nat × List UInt8 → Bool) : WOk (ps.filter f) := fun q hq => h q (List.mem_filter.1 hq).1
theorem nowOf_len : ∀ {ps : List (Nat × List UInt8)} {S : List UInt8}, S.length = 1664 → WOk ps → (nowOf S ps).length = 1664
  | [], _, hS, _ => hS
  | p :: ps, S, hS, h => by
    have h1 := h p (List.mem_cons_self ..)
    show (nowOf (putAt S p.1 p.2) ps).length = 1664
    exact nowOf_len (putAt_len hS (by omega) h1.2) h.cons
theorem nowOf_snoc (S : List UInt8) (ps : List (Nat × List UInt8)) (k : Nat) (x : List UInt8) : nowOf S (ps ++ [(k, x)]) = putAt (nowOf S ps) k x := by
  unfold nowOf; rw [List.foldl_append]; rfl
theorem nowOf_append (S : List UInt8) (ps qs : List (Nat × List UInt8)) : nowOf S (ps ++ qs) = nowOf (nowOf S ps) qs := by
  unfold nowOf; rw [List.foldl_append]
theorem nowOf_sec : ∀ {ps : List (Nat × List UInt8)} {S : List UInt8}, S.length = 1664 → WOk ps → ∀ k, k < 52 → secAt (nowOf S ps) k = (lastOf ps k).getD (secAt S k)
  | [], _, _, _, _, _ => rfl
  | p :: ps, S, hS, h, k, hk => by
    have h1 := h p (List.mem_cons_self ..)
    show secAt (nowOf (putAt S p.1 p.2) ps) k = _
    rw [nowOf_sec (putAt_len hS (by omega) h1.2) h.cons k hk]
    rw [lastOf_cons]
    cases lastOf ps k with
    | some x => rfl
    | none =>
      by_cases e : p.1 = k
      · simp only [if_pos e, Option.getD]
        rw [← e]
        exact sec_put_same hS h1.1 h1.2
      · simp only [if_neg e, Option.getD]
        exact sec_put_other hS h1.1 h1.2 (fun h => e h.symm)
theorem lastOf_filter_same (ps : List (Nat × List UInt8)) (k : Nat) : lastOf (ps.filter fun p => decide (p.1 ≠ k)) k = none := by
  induction ps with
  | nil => rfl
  | cons p ps ih =>
    by_cases e : p.1 = k
    · rw [List.filter_cons_of_neg (by simp [e])]; exact ih
    · rw [List.filter_cons_of_pos (by simp [e])]
      rw [lastOf_cons, ih]
      simp [e]
theorem lastOf_filter_other (ps : List (Nat × List UInt8)) {k j : Nat} (hne : j ≠ k) : lastOf (ps.filter fun p => decide (p.1 ≠ k)) j = lastOf ps j := by
  induction ps with
  | nil => rfl
  | cons p ps ih =>
    by_cases e : p.1 = k
    · rw [List.filter_cons_of_neg (by simp [e]), ih]
      rw [lastOf_cons]
      cases lastOf ps j with
      | some x => rfl
      | none => simp only [if_neg (show ¬ p.1 = j by omega)]
    · rw [List.filter_cons_of_pos (by simp [e])]
      rw [lastOf_cons, lastOf_cons, ih]
theorem nowOf_damage {S x : List UInt8} {ps : List (Nat × List UInt8)} {k : Nat} (hS : S.length = 1664) (h : WOk ps) (hk : k < 52) (hx : x.length = 32) : nowOf (putAt S k x) (ps.filter fun p => decide (p.1 ≠ k)) = putAt (nowOf S ps) k x := by
  have hS' := putAt_len hS (show k * 32 + 32 ≤ 1664 by omega) hx
  have hN := nowOf_len hS h
  have hf := h.filter fun p => decide (p.1 ≠ k)
  refine sec_ext (nowOf_len hS' hf) (putAt_len hN (by omega) hx) fun j hj => ?_
  rw [nowOf_sec hS' hf j hj]
  by_cases e : j = k
  · subst e
    rw [lastOf_filter_same, sec_put_same hN hk hx]
    exact sec_put_same hS hk hx
  · rw [lastOf_filter_other ps e, sec_put_other hS hk hx e, sec_put_other hN hk hx e, nowOf_sec hS h j hj]

/-- Of the writes those that are kept. -/
def keptOf : List (Nat × List UInt8) → List Bool → List (Nat × List UInt8)
  | p :: ps, k :: ks => if k then p :: keptOf ps ks else keptOf ps ks
  | _, _ => []
theorem keptOf_nil (ps : List (Nat × List UInt8)) : keptOf ps [] = [] := by cases ps <;> rfl
theorem keptOf_zero (ks : List Bool) : keptOf [] ks = [] := rfl
theorem WOk.kept : ∀ {ps : List (Nat × List UInt8)} {ks : List Bool}, WOk ps → WOk (keptOf ps ks)
  | [], _, _ => WOk.nil
  | _ :: _, [], _ => WOk.nil
  | p :: ps, k :: ks, h => by
    unfold keptOf
    split
    · intro q hq
      rcases List.mem_cons.1 hq with rfl | hq
      · exact h _ (List.mem_cons_self ..)
      · exact WOk.kept h.cons q hq
    · exact WOk.kept h.cons
theorem keptOf_succ : ∀ {ps : List (Nat × List UInt8)} {ks : List Bool} {i : Nat}, i < ps.length → i < ks.length → keptOf (ps.take (i + 1)) ks = keptOf (ps.take i) ks ++ (if ks.getD i false = true then [ps.getD i (0, [])] else [])
  | p :: ps, k :: ks, 0, _, _ => by
    simp only [Nat.zero_add, List.take_succ_cons, List.take_zero, keptOf_zero, List.nil_append, List.getD_cons_zero]
    unfold keptOf
    rw [keptOf_zero]
  | p :: ps, k :: ks, i + 1, h1, h2 => by
    have ih := keptOf_succ (ps := ps) (ks := ks) (i := i) (by simpa using h1) (by simpa using h2)
    simp only [List.take_succ_cons, List.getD_cons_succ]
    rw [show keptOf (p :: ps.take (i + 1)) (k :: ks) = if k then p :: keptOf (ps.take (i + 1)) ks else keptOf (ps.take (i + 1)) ks from rfl,
      show keptOf (p :: ps.take i) (k :: ks) = if k then p :: keptOf (ps.take i) ks else keptOf (ps.take i) ks from rfl, ih]
    cases k <;> simp
theorem keptOf_min : ∀ (ps : List (Nat × List UInt8)) (ks : List Bool), keptOf (ps.take (min ks.length ps.length)) ks = keptOf ps ks
  | [], ks => by simp
  | p :: ps, [] => by simp [keptOf_nil]
  | p :: ps, k :: ks => by
    have ih := keptOf_min ps ks
    have hm : min (k :: ks).length (p :: ps).length = min ks.length ps.length + 1 := by simp only [List.length_cons]; omega
    rw [hm, List.take_succ_cons]
    show (if k then p :: keptOf (ps.take _) ks else keptOf (ps.take _) ks) = _
    rw [ih]
    rfl

/-- All bytes 0. -/
def zeroS : List UInt8 := List.replicate 1664 0
theorem zeroS_len : zeroS.length = 1664 := List.length_replicate ..
/-- A disk. -/
structure Dsk where
  S : List UInt8
  ps : List (Nat × List UInt8)
  f : Bool
namespace Dsk
def now (D : Dsk) : List UInt8 := nowOf D.S D.ps
def new : Dsk := ⟨zeroS, [], false⟩
def failed : Dsk := ⟨zeroS, [], true⟩
def write (D : Dsk) (k : Nat) (x : List UInt8) : Dsk := ⟨D.S, D.ps ++ [(k, x)], D.f⟩
def flush (D : Dsk) : Dsk := ⟨D.now, [], D.f⟩
def crash (D : Dsk) (keep : List Bool) : Dsk := ⟨nowOf D.S (keptOf D.ps keep), [], D.f⟩
def damage (D : Dsk) (k : Nat) (x : List UInt8) : Dsk := ⟨putAt D.S k x, D.ps.filter fun p => decide (p.1 ≠ k), D.f⟩
structure Ok (D : Dsk) : Prop where
  S : D.S.length = 1664
  ps : WOk D.ps
theorem Ok.now {D : Dsk} (h : D.Ok) : D.now.length = 1664 := nowOf_len h.S h.ps
theorem new_ok : Dsk.new.Ok := ⟨zeroS_len, WOk.nil⟩
theorem failed_ok : Dsk.failed.Ok := ⟨zeroS_len, WOk.nil⟩
theorem Ok.write {D : Dsk} (h : D.Ok) {k : Nat} {x : List UInt8} (hk : k < 52) (hx : x.length = 32) : (D.write k x).Ok := ⟨h.S, h.ps.snoc hk hx⟩
theorem Ok.flush {D : Dsk} (h : D.Ok) : D.flush.Ok := ⟨h.now, WOk.nil⟩
theorem Ok.crash {D : Dsk} (h : D.Ok) (keep : List Bool) : (D.crash keep).Ok := ⟨nowOf_len h.S h.ps.kept, WOk.nil⟩
theorem Ok.damage {D : Dsk} (h : D.Ok) {k : Nat} {x : List UInt8} (hk : k < 52) (hx : x.length = 32) : (D.damage k x).Ok := ⟨putAt_len h.S (by omega) hx, h.ps.filter _⟩
theorem write_now (D : Dsk) (k : Nat) (x : List UInt8) : (D.write k x).now = putAt D.now k x := nowOf_snoc _ _ _ _
theorem flush_now (D : Dsk) : D.flush.now = D.now := rfl
theorem crash_now (D : Dsk) (keep : List Bool) : (D.crash keep).now = (D.crash keep).S := rfl
theorem damage_now {D : Dsk} (h : D.Ok) {k : Nat} {x : List UInt8} (hk : k < 52) (hx : x.length = 32) : (D.damage k x).now = putAt D.now k x := nowOf_damage h.S h.ps hk hx
end Dsk
end Go.Proofs.Ytpiilfgikgkneaa
