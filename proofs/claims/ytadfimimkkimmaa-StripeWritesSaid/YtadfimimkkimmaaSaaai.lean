/- Texts put together: RowKit, DskMath, Chg, DskMem, Dsk, DskOps, DskWrite. -/
import Derived.Test.YtadfimimkkimmaaSaaah
import Derived.Carry
import Derived.Test.YtadfimimkkimmaaSaaaa
import Derived.Deep.MidRow
import Derived.Test.YtadfimimkkimmaaSaaag
import Derived.StillTailTactics
import Derived.Great.FillDense
import Derived.Great.BuildSlice
import Derived.Deep.AppendLies
import Derived.Deep.DrawnRows
section
set_option maxRecDepth 8000
set_option linter.unusedVariables false
set_option linter.unusedSimpArgs false
namespace Go.Proofs.Ytadfimimkkimmaa
open Go.RowKit

/-- Fill of what may be filled. -/
theorem fill_good {A : Option Addr} {rs : List (List UInt8)} {n cp D F : Nat} {l d c r : Int} {w : World} (hrd : RdR w w.heap.size A rs) (hn : rs.length = n) (hT : fillOk l d c r rs = true) (hD : roD d = D) (hF : roF l d c r = F)
    (hl : -9223372036854775808 ≤ l ∧ l ≤ 9223372036854775807) (hd : -9223372036854775808 ≤ d ∧ d ≤ 9223372036854775807) (hc : -9223372036854775808 ≤ c ∧ c ≤ 9223372036854775807) (hr : -9223372036854775808 ≤ r ∧ r ≤ 9223372036854775807) :
    Calls Try.prog 41 #[.agg #[.int .i64 l, .int .i64 d, .int .i64 c], .int .i64 r, .slice A n cp] w fun e w' => ∃ g xs, e = .returned (.tuple #[.slice (some ⟨g, 0, none⟩) D D, .bool true]) ∧ Rq w.heap.size w' g D D xs (fillL D F rs) ∧ Below w.heap.size w w' := by
  subst hD hF
  refine (fill_yes A rs n cp l d c r w hn hrd hT hl hd hc hr).mono ?_
  rintro e w' ⟨g, xs, he, hq, hb⟩
  rw [fillL_len] at he hq
  exact ⟨g, xs, he, hq, hb⟩
/-- Sectors that are made, as they are read. -/
theorem sectors_rd {A : Option Addr} {zs : List Int} {m cp n : Nat} {w : World} (hm : m = zs.length) (hr : RdZ w w.heap.size A zs) (hn : n ≤ 8) :
    Calls Try.prog 12 #[.slice A m cp, .int .i64 (n : Int)] w fun e w' => ∃ A' c', e = .returned (.slice A' n c') ∧ OwV w.heap.size w' (.slice A' n c') (sectorsB zs n) ∧ RdR w' w'.heap.size A' (sectorsB zs n) ∧ Below w.heap.size w w' :=
  (sectors_any A zs m cp n w hm hr hn).mono fun _ _ ⟨v, he, ho, hb⟩ => by
    obtain ⟨A', c', rfl, _, hrd⟩ := ho.rd (by rw [sectorsB_len]; omega)
    rw [sectorsB_len] at he ho
    exact ⟨A', c', he, ho, hrd, hb⟩
/-- A good geometry, a row of it: what stands where. -/
structure Gr (n : Int) (l c r : Int) (D F W : Nat) : Prop where
  ok : plOk l (D : Int) c r = true
  R : Ro l (D : Int) c r
  eD : roD (D : Int) = D
  eF : roF l (D : Int) c r = F
  eW : roW l (D : Int) = W
  hF : F < D
  hW : W < D
  w1 : 1 ≤ W
  w7 : W ≤ 7
  d8 : D ≤ 8
  d3 : 3 ≤ D
  lv : (l = 5 ∧ D = W + 1) ∨ (l = 6 ∧ D = W + 2)
  wd : gWid l (D : Int) c = (W : Int)
  l64 : -9223372036854775808 ≤ l ∧ l ≤ 9223372036854775807
  d64 : -9223372036854775808 ≤ (D : Int) ∧ (D : Int) ≤ 9223372036854775807
  c64 : -9223372036854775808 ≤ c ∧ c ≤ 9223372036854775807
  r64 : -9223372036854775808 ≤ r ∧ r ≤ 9223372036854775807
  r0 : 0 ≤ r ∧ r < 16
theorem gr_of (n : Int) {r : Int} (h0 : 0 ≤ r) (h1 : r < 16) : ∃ D F W : Nat, goD n = (D : Int) ∧ Gr n (goL n) (goC n) r D F W := by
  have hg := go_ok n
  have hb := gOk_bd hg
  have hok := plOk_mk hg h0 h1
  have R := ro_of hok
  obtain ⟨D, hD⟩ : ∃ D : Nat, goD n = (D : Int) := ⟨_, R.dd.symm⟩
  rw [hD] at hg hb hok R
  exact ⟨D, roF (goL n) D (goC n) r, roW (goL n) D, hD, hok, R, rfl, rfl, rfl, R.hF, R.hW, R.w1, R.w7, R.d8, R.d3, R.lv, R.wd, by omega, by omega, by omega, by omega, ⟨h0, h1⟩⟩
section
variable {n l c r : Int} {D F W : Nat}
theorem Gr.fok (h : Gr n l c r D F W) {rs : List (List UInt8)} (hl : rs.length = W) (ha : ∀ x ∈ rs, x.length = 32) : fillOk l (D : Int) c r rs = true := fillOk_mk h.ok (by rw [h.eW]; exact hl) ha
theorem Gr.fill (h : Gr n l c r D F W) {A : Option Addr} {rs : List (List UInt8)} {cp : Nat} {w : World} (hrd : RdR w w.heap.size A rs) (hl : rs.length = W) (ha : ∀ x ∈ rs, x.length = 32) :
    Calls Try.prog 41 #[.agg #[.int .i64 l, .int .i64 (D : Int), .int .i64 c], .int .i64 r, .slice A W cp] w fun e w' => ∃ g xs, e = .returned (.tuple #[.slice (some ⟨g, 0, none⟩) D D, .bool true]) ∧ Rq w.heap.size w' g D D xs (fillL D F rs) ∧ Below w.heap.size w w' :=
  fill_good hrd hl (h.fok hl ha) h.eD h.eF h.l64 h.d64 h.c64 h.r64
theorem Gr.take (h : Gr n l c r D F W) {A : Option Addr} {xs : List (List UInt8)} {cp : Nat} {w : World} (hrd : RdR w w.heap.size A xs) (hl : xs.length = D) :
    Calls Try.prog 50 #[.agg #[.int .i64 l, .int .i64 (D : Int), .int .i64 c], .int .i64 r, .slice A D cp] w (SolveR w (roTake l (D : Int) c r xs)) :=
  take_any A xs D cp l D c r w hl (by have := h.d8; omega) hrd h.l64 h.d64 h.c64 h.r64
theorem Gr.fills (h : Gr n l c r D F W) {rs : List (List UInt8)} (hl : rs.length = W) (ha : ∀ x ∈ rs, x.length = 32) {i : Nat} (hi : i < D) : ((fillL D F rs).getD i []).length = 32 := by
  have := fill_32 (h.fok hl ha) (i := i) (by rw [h.eD]; exact hi)
  rwa [h.eD, h.eF] at this
end
end Go.Proofs.Ytadfimimkkimmaa
end
section
namespace Go.Proofs.Ytadfimimkkimmaa

/-- Sector k of all bytes. -/
def secAt (L : List UInt8) (k : Nat) : List UInt8 := (L.drop (k * 32)).take 32
/-- All bytes with sector k set. -/
def putAt (L : List UInt8) (k : Nat) (x : List UInt8) : List UInt8 := L.take (k * 32) ++ x ++ L.drop (k * 32 + 32)
theorem putAt_get {L x : List UInt8} {k : Nat} (hL : k * 32 + 32 ≤ L.length) (hx : x.length = 32) (i : Nat) : (putAt L k x)[i]? = if i < k * 32 then L[i]? else if i < k * 32 + 32 then x[i - k * 32]? else L[i]? := by
  have h1 : (L.take (k * 32)).length = k * 32 := by rw [List.length_take]; omega
  unfold putAt
  by_cases c : i < k * 32
  · rw [if_pos c, List.append_assoc, List.getElem?_append_left (by omega), List.getElem?_take, if_pos c]
  · rw [if_neg c]
    by_cases c2 : i < k * 32 + 32
    · rw [if_pos c2, List.append_assoc, List.getElem?_append_right (by omega), h1, List.getElem?_append_left (by omega)]
    · rw [if_neg c2, List.getElem?_append_right (by rw [List.length_append]; omega), List.length_append, h1, hx, List.getElem?_drop]
      congr 1
      omega
theorem putAt_len {L x : List UInt8} {k n : Nat} (hL : L.length = n) (hk : k * 32 + 32 ≤ n) (hx : x.length = 32) : (putAt L k x).length = n := by
  unfold putAt; simp; omega
theorem secAt_len {L : List UInt8} {k : Nat} (hL : k * 32 + 32 ≤ L.length) : (secAt L k).length = 32 := by unfold secAt; simp; omega
theorem secAt_get (L : List UInt8) (k i : Nat) : (secAt L k)[i]? = if i < 32 then L[k * 32 + i]? else none := by
  unfold secAt
  rw [List.getElem?_take]
  split
  · rw [List.getElem?_drop]
  · rfl
theorem sec_put_same {L x : List UInt8} {k : Nat} (hl : L.length = 1664) (hk : k < 52) (hx : x.length = 32) : secAt (putAt L k x) k = x := by
  have hL : k * 32 + 32 ≤ L.length := by omega
  apply List.ext_getElem?
  intro i
  rw [secAt_get]
  split
  · rw [putAt_get hL hx, if_neg (by omega), if_pos (by omega)]
    congr 1
    omega
  · rw [List.getElem?_eq_none (by omega)]
theorem sec_put_other {L x : List UInt8} {k j : Nat} (hl : L.length = 1664) (hk : k < 52) (hx : x.length = 32) (hne : j ≠ k) : secAt (putAt L k x) j = secAt L j := by
  have hL : k * 32 + 32 ≤ L.length := by omega
  apply List.ext_getElem?
  intro i
  rw [secAt_get, secAt_get]
  split
  · rw [putAt_get hL hx]
    by_cases c : j * 32 + i < k * 32
    · rw [if_pos c]
    · rw [if_neg c, if_neg (by omega)]
  · rfl
theorem put_sec {L : List UInt8} {k : Nat} : putAt L k (secAt L k) = L := by
  unfold putAt secAt
  rw [List.append_assoc, ← List.drop_drop, List.take_append_drop, List.take_append_drop]
theorem sec_ext {L M : List UInt8} (hL : L.length = 1664) (hM : M.length = 1664) (h : ∀ k, k < 52 → secAt L k = secAt M k) : L = M := by
  apply List.ext_getElem?
  intro i
  by_cases hi : i < 1664
  · have h1 := h (i / 32) (by omega)
    have h2 : (secAt L (i / 32))[i % 32]? = (secAt M (i / 32))[i % 32]? := by rw [h1]
    rw [secAt_get, secAt_get, if_pos (by omega), if_pos (by omega), show i / 32 * 32 + i % 32 = i by omega] at h2
    exact h2
  · rw [List.getElem?_eq_none (by omega), List.getElem?_eq_none (by omega)]

/-- All bytes with these writes done, in order. -/
def nowOf (S : List UInt8) (ps : List (Nat × List UInt8)) : List UInt8 := ps.foldl (fun L p => putAt L p.1 p.2) S
/-- What was written there last. -/
def lastOf : List (Nat × List UInt8) → Nat → Option (List UInt8)
  | [], _ => none
  | p :: ps, k => match lastOf ps k with | some x => some x | none => if p.1 = k then some p.2 else none
theorem lastOf_cons (p : Nat × List UInt8) (ps : List (Nat × List UInt8)) (k : Nat) : lastOf (p :: ps) k = match lastOf ps k with | some x => some x | none => if p.1 = k then some p.2 else none := rfl
def WOk (ps : List (Nat × List UInt8)) : Prop := ∀ p ∈ ps, p.1 < 52 ∧ p.2.length = 32
theorem WOk.nil : WOk [] := fun _ h => by cases h
theorem WOk.cons {p : Nat × List UInt8} {ps : List (Nat × List UInt8)} (h : WOk (p :: ps)) : WOk ps := fun q hq => h q (List.mem_cons_of_mem _ hq)
theorem WOk.snoc {ps : List (Nat × List UInt8)} (h : WOk ps) {k : Nat} {x : List UInt8} (hk : k < 52) (hx : x.length = 32) : WOk (ps ++ [(k, x)]) := fun q hq => by
  rcases List.mem_append.1 hq with h1 | h1
  · exact h q h1
  · obtain rfl := List.mem_singleton.1 h1; exact ⟨hk, hx⟩
theorem WOk.filter {ps : List (Nat × List UInt8)} (h : WOk ps) (f : Nat × List UInt8 → Bool) : WOk (ps.filter f) := fun q hq => h q (List.mem_filter.1 hq).1
theorem nowOf_len : ∀ {ps : List (Nat × List UInt8)} {S : List UInt8}, S.length = 1664 → WOk ps → (nowOf S ps).length = 1664
  | [], _, hS, _ => hS
  | p :: ps, S, hS, h => by
    have h1 := h p (List.mem_cons_self ..)
    show (nowOf (putAt S p.1 p.2) ps).length = 1664
    exact nowOf_len (putAt_len hS (by omega) h1.2) h.cons
theorem nowOf_snoc (S : List UInt8) (ps : List (Nat × List UInt8)) (k : Nat) (x : List UInt8) : nowOf S (ps ++ [(k, x)]) = putAt (nowOf S ps) k x := by
  unfold nowOf; rw [List.foldl_append]; rfl
theorem nowOf_append (S : List UInt8) (ps qs : List (Nat × List UInt8)) : nowOf S (ps ++ qs) = nowOf (nowOf S ps) qs := by
  unfold nowOf; rw [List.foldl_append]
theorem nowOf_sec : ∀ {ps : List (Nat × List UInt8)} {S : List UInt8}, S.length = 1664 → WOk ps → ∀ k, k < 52 → secAt (nowOf S ps) k = (lastOf ps k).getD (secAt S k)
  | [], _, _, _, _, _ => rfl
  | p :: ps, S, hS, h, k, hk => by
    have h1 := h p (List.mem_cons_self ..)
    show secAt (nowOf (putAt S p.1 p.2) ps) k = _
    rw [nowOf_sec (putAt_len hS (by omega) h1.2) h.cons k hk]
    rw [lastOf_cons]
    cases lastOf ps k with
    | some x => rfl
    | none =>
      by_cases e : p.1 = k
      · simp only [if_pos e, Option.getD]
        rw [← e]
        exact sec_put_same hS h1.1 h1.2
      · simp only [if_neg e, Option.getD]
        exact sec_put_other hS h1.1 h1.2 (fun h => e h.symm)
theorem lastOf_filter_same (ps : List (Nat × List UInt8)) (k : Nat) : lastOf (ps.filter fun p => decide (p.1 ≠ k)) k = none := by
  induction ps with
  | nil => rfl
  | cons p ps ih =>
    by_cases e : p.1 = k
    · rw [List.filter_cons_of_neg (by simp [e])]; exact ih
    · rw [List.filter_cons_of_pos (by simp [e])]
      rw [lastOf_cons, ih]
      simp [e]
theorem lastOf_filter_other (ps : List (Nat × List UInt8)) {k j : Nat} (hne : j ≠ k) : lastOf (ps.filter fun p => decide (p.1 ≠ k)) j = lastOf ps j := by
  induction ps with
  | nil => rfl
  | cons p ps ih =>
    by_cases e : p.1 = k
    · rw [List.filter_cons_of_neg (by simp [e]), ih]
      rw [lastOf_cons]
      cases lastOf ps j with
      | some x => rfl
      | none => simp only [if_neg (show ¬ p.1 = j by omega)]
    · rw [List.filter_cons_of_pos (by simp [e])]
      rw [lastOf_cons, lastOf_cons, ih]
theorem nowOf_damage {S x : List UInt8} {ps : List (Nat × List UInt8)} {k : Nat} (hS : S.length = 1664) (h : WOk ps) (hk : k < 52) (hx : x.length = 32) : nowOf (putAt S k x) (ps.filter fun p => decide (p.1 ≠ k)) = putAt (nowOf S ps) k x := by
  have hS' := putAt_len hS (show k * 32 + 32 ≤ 1664 by omega) hx
  have hN := nowOf_len hS h
  have hf := h.filter fun p => decide (p.1 ≠ k)
  refine sec_ext (nowOf_len hS' hf) (putAt_len hN (by omega) hx) fun j hj => ?_
  rw [nowOf_sec hS' hf j hj]
  by_cases e : j = k
  · subst e
    rw [lastOf_filter_same, sec_put_same hN hk hx]
    exact sec_put_same hS hk hx
  · rw [lastOf_filter_other ps e, sec_put_other hS hk hx e, sec_put_other hN hk hx e, nowOf_sec hS h j hj]

/-- Of the writes those that are kept. -/
def keptOf : List (Nat × List UInt8) → List Bool → List (Nat × List UInt8)
  | p :: ps, k :: ks => if k then p :: keptOf ps ks else keptOf ps ks
  | _, _ => []
theorem keptOf_nil (ps : List (Nat × List UInt8)) : keptOf ps [] = [] := by cases ps <;> rfl
theorem keptOf_zero (ks : List Bool) : keptOf [] ks = [] := rfl
theorem WOk.kept : ∀ {ps : List (Nat × List UInt8)} {ks : List Bool}, WOk ps → WOk (keptOf ps ks)
  | [], _, _ => WOk.nil
  | _ :: _, [], _ => WOk.nil
  | p :: ps, k :: ks, h => by
    unfold keptOf
    split
    · intro q hq
      rcases List.mem_cons.1 hq with rfl | hq
      · exact h _ (List.mem_cons_self ..)
      · exact WOk.kept h.cons q hq
    · exact WOk.kept h.cons
theorem keptOf_succ : ∀ {ps : List (Nat × List UInt8)} {ks : List Bool} {i : Nat}, i < ps.length → i < ks.length → keptOf (ps.take (i + 1)) ks = keptOf (ps.take i) ks ++ (if ks.getD i false = true then [ps.getD i (0, [])] else [])
  | p :: ps, k :: ks, 0, _, _ => by
    simp only [Nat.zero_add, List.take_succ_cons, List.take_zero, keptOf_zero, List.nil_append, List.getD_cons_zero]
    unfold keptOf
    rw [keptOf_zero]
  | p :: ps, k :: ks, i + 1, h1, h2 => by
    have ih := keptOf_succ (ps := ps) (ks := ks) (i := i) (by simpa using h1) (by simpa using h2)
    simp only [List.take_succ_cons, List.getD_cons_succ]
    rw [show keptOf (p :: ps.take (i + 1)) (k :: ks) = if k then p :: keptOf (ps.take (i + 1)) ks else keptOf (ps.take (i + 1)) ks from rfl,
      show keptOf (p :: ps.take i) (k :: ks) = if k then p :: keptOf (ps.take i) ks else keptOf (ps.take i) ks from rfl, ih]
    cases k <;> simp
theorem keptOf_min : ∀ (ps : List (Nat × List UInt8)) (ks : List Bool), keptOf (ps.take (min ks.length ps.length)) ks = keptOf ps ks
  | [], ks => by simp
  | p :: ps, [] => by simp [keptOf_nil]
  | p :: ps, k :: ks => by
    have ih := keptOf_min ps ks
    have hm : min (k :: ks).length (p :: ps).length = min ks.length ps.length + 1 := by simp only [List.length_cons]; omega
    rw [hm, List.take_succ_cons]
    show (if k then p :: keptOf (ps.take _) ks else keptOf (ps.take _) ks) = _
    rw [ih]
    rfl

/-- All bytes 0. -/
def zeroS : List UInt8 := List.replicate 1664 0
theorem zeroS_len : zeroS.length = 1664 := List.length_replicate ..
/-- A disk. -/
structure Dsk where
  S : List UInt8
  ps : List (Nat × List UInt8)
  f : Bool
namespace Dsk
def now (D : Dsk) : List UInt8 := nowOf D.S D.ps
def new : Dsk := ⟨zeroS, [], false⟩
def failed : Dsk := ⟨zeroS, [], true⟩
def write (D : Dsk) (k : Nat) (x : List UInt8) : Dsk := ⟨D.S, D.ps ++ [(k, x)], D.f⟩
def flush (D : Dsk) : Dsk := ⟨D.now, [], D.f⟩
def crash (D : Dsk) (keep : List Bool) : Dsk := ⟨nowOf D.S (keptOf D.ps keep), [], D.f⟩
def damage (D : Dsk) (k : Nat) (x : List UInt8) : Dsk := ⟨putAt D.S k x, D.ps.filter fun p => decide (p.1 ≠ k), D.f⟩
structure Ok (D : Dsk) : Prop where
  S : D.S.length = 1664
  ps : WOk D.ps
theorem Ok.now {D : Dsk} (h : D.Ok) : D.now.length = 1664 := nowOf_len h.S h.ps
theorem new_ok : Dsk.new.Ok := ⟨zeroS_len, WOk.nil⟩
theorem failed_ok : Dsk.failed.Ok := ⟨zeroS_len, WOk.nil⟩
theorem Ok.write {D : Dsk} (h : D.Ok) {k : Nat} {x : List UInt8} (hk : k < 52) (hx : x.length = 32) : (D.write k x).Ok := ⟨h.S, h.ps.snoc hk hx⟩
theorem Ok.flush {D : Dsk} (h : D.Ok) : D.flush.Ok := ⟨h.now, WOk.nil⟩
theorem Ok.crash {D : Dsk} (h : D.Ok) (keep : List Bool) : (D.crash keep).Ok := ⟨nowOf_len h.S h.ps.kept, WOk.nil⟩
theorem Ok.damage {D : Dsk} (h : D.Ok) {k : Nat} {x : List UInt8} (hk : k < 52) (hx : x.length = 32) : (D.damage k x).Ok := ⟨putAt_len h.S (by omega) hx, h.ps.filter _⟩
theorem write_now (D : Dsk) (k : Nat) (x : List UInt8) : (D.write k x).now = putAt D.now k x := nowOf_snoc _ _ _ _
theorem flush_now (D : Dsk) : D.flush.now = D.now := rfl
theorem crash_now (D : Dsk) (keep : List Bool) : (D.crash keep).now = (D.crash keep).S := rfl
theorem damage_now {D : Dsk} (h : D.Ok) {k : Nat} {x : List UInt8} (hk : k < 52) (hx : x.length = 32) : (D.damage k x).now = putAt D.now k x := nowOf_damage h.S h.ps hk hx
end Dsk
end Go.Proofs.Ytadfimimkkimmaa
end
section
namespace Go.Proofs.Ytadfimimkkimmaa
open Go.RowKit

structure Chg (F : Nat → Prop) (w w' : World) : Prop where
  os : w'.os = w.os
  tape : w'.tape = w.tape
  output : w'.output = w.output
  size : w.heap.size ≤ w'.heap.size
  block : ∀ k, k < w.heap.size → ¬ F k → w'.heap[k]? = w.heap[k]?
section
variable {F G : Nat → Prop} {a b c : World}
theorem Chg.refl (F : Nat → Prop) (w : World) : Chg F w w := ⟨rfl, rfl, rfl, Nat.le_refl _, fun _ _ _ => rfl⟩
theorem Chg.trans (h : Chg F a b) (k : Chg G b c) (hs : ∀ i, i < a.heap.size → G i → F i) : Chg F a c :=
  ⟨k.os.trans h.os, k.tape.trans h.tape, k.output.trans h.output, Nat.le_trans h.size k.size, fun i hi hn => (k.block i (Nat.lt_of_lt_of_le hi h.size) fun hg => hn (hs i hi hg)).trans (h.block i hi hn)⟩
theorem Chg.mono (h : Chg F a b) (hs : ∀ i, i < a.heap.size → F i → G i) : Chg G a b := ⟨h.os, h.tape, h.output, h.size, fun i hi hn => h.block i hi fun hf => hn (hs i hi hf)⟩
theorem chg_below (F : Nat → Prop) (h : Below a.heap.size a b) : Chg F a b := ⟨h.os, h.tape, h.output, h.size, fun i hi _ => h.block i hi⟩
theorem chg_grown {row : Option Nat} (h : a.grownBy b row) : Chg (fun k => row = some k) a b := ⟨h.os, h.tape, h.output, h.size, fun i hi hn => h.block i hi fun e => hn e.symm⟩
theorem Chg.below {B : Nat} (h : Chg F a b) (hF : ∀ k, F k → B ≤ k) (hB : B ≤ a.heap.size) : Below B a b := ⟨h.os, h.tape, h.output, h.size, fun i hi => h.block i (by omega) fun hf => by have := hF i hf; omega⟩
theorem Chg.below' {B : Nat} (h : Chg F a b) (hF : ∀ k, k < B → ¬ F k) (hB : B ≤ a.heap.size) : Below B a b := ⟨h.os, h.tape, h.output, h.size, fun i hi => h.block i (by omega) (hF i hi)⟩
theorem Chg.drewN (h : Chg F a b) (n : Nat) : Chg F a (b.drewN n) := ⟨h.os, h.tape, h.output, h.size, h.block⟩
theorem Chg.ofDrew (h : Chg F a.drew b) : Chg F a b := ⟨h.os, h.tape, h.output, h.size, h.block⟩
theorem Chg.alloc (h : Chg F a b) (o : Obj) : Chg F a (b.alloc o) := h.trans (chg_below F (below1 b o)) fun _ _ h => h
theorem Chg.ofBelow (h : Chg F a b) {B : Nat} (k : Below B b c) (hB : a.heap.size ≤ B) : Chg F a c :=
  ⟨k.os.trans h.os, k.tape.trans h.tape, k.output.trans h.output, Nat.le_trans h.size k.size, fun i hi hn => (k.block i (by omega)).trans (h.block i hi hn)⟩
end

/-- An own row hangs on its own block alone. -/
theorem own_heap {w w' : World} {B : Nat} {e : TypeId} {size : Nat} {v : Value} {n : Nat} {xs : List Value} (h : w.ownsRow B e size v n xs) (hk : ∀ k, v.ownBlock = some k → w'.heap[k]? = w.heap[k]?) : w'.ownsRow B e size v n xs := by
  refine ⟨h.1, ?_⟩
  rcases h.2 with h1 | ⟨g, cap, cur, rfl, h2, h3, r⟩
  · exact .inl h1
  · exact .inr ⟨g, cap, cur, rfl, h2, (hk g rfl).trans h3, r⟩
theorem own_chg {F : Nat → Prop} {w w' : World} {B : Nat} {e : TypeId} {size : Nat} {v : Value} {n : Nat} {xs : List Value} (h : w.ownsRow B e size v n xs) (hc : Chg F w w') (hn : ∀ k, v.ownBlock = some k → ¬ F k) : w'.ownsRow B e size v n xs :=
  own_heap h fun k hk => hc.block k (h.lt k hk).2 (hn k hk)
theorem OwB.chg {F : Nat → Prop} {e : TypeId} {w w' : World} {B : Nat} {v : Value} {bs : List UInt8} (h : OwB e w B v bs) (hc : Chg F w w') (hn : ∀ k, v.ownBlock = some k → ¬ F k) : OwB e w' B v bs := ⟨own_chg h.1 hc hn, h.2⟩

/-- A row of cells with some set. -/
def spl (l : List Value) (o : Nat) (vs : List Value) : List Value := l.take o ++ vs ++ l.drop (o + vs.length)
theorem spl_mid {A X C vs : List Value} {o : Nat} (ho : A.length = o) (hx : X.length = vs.length) : spl (A ++ X ++ C) o vs = A ++ vs ++ C := by
  unfold spl
  subst ho
  have e1 : (A ++ X ++ C).take A.length = A := by rw [List.append_assoc, List.take_left]
  have e2 : (A ++ X ++ C).drop (A.length + vs.length) = C := by rw [← hx, ← List.length_append, List.drop_left]
  rw [e1, e2]
theorem spl_len {l vs : List Value} {o : Nat} (h : o + vs.length ≤ l.length) : (spl l o vs).length = l.length := by
  unfold spl; simp; omega

section
variable {P : Program}
theorem run_storeVar_blk (w : World) (b o : Nat) (ty : TypeId) (v : Value) (cur : List Value) (t : TypeId) (hb : w.heap[b]? = some (.cells cur.toArray t (0, 0))) (hi : (P.info? ty).map (·.size) = some v.cells.size)
    (ho : o + v.cells.size ≤ cur.length) (h1 : ∀ u ∈ v.cells.toList, u.oneCell' = true) : (storeVar ty ⟨b, o, none⟩ v).run P w = .ok () (w.setRow b (spl cur o v.cells.toList).toArray) := by
  have h := run_storeCells_at P b o t v.cells.toList 0 cur.toArray w hb (by simpa using ho) h1
  cases hq : P.info? ty with
  | none => simp [hq] at hi
  | some i =>
    have hs : v.cells.size = i.size := by simp [hq] at hi; omega
    simp only [Nat.add_zero] at h
    simp [storeVar, sizeOf, typeInfo, hq, hs, h, spl]
theorem wpList_store_blk {ops : Array Oper} {rest : List Oper} {op : Oper} {a : Act} {w : World} {Q : Exit → Act → World → Prop} (hgd : op.guard = none) (ty : TypeId) (x y : Operand) (ho : op.op = .store ty x y)
    (b o : Nat) (v : Value) (hx : a.eval x = .pointer (some ⟨b, o, none⟩)) (hy : a.eval y = v) (cur : List Value) (t : TypeId) (hb : w.heap[b]? = some (.cells cur.toArray t (0, 0)))
    (vs : List Value) (hvs : v.cells = vs.toArray) (n : Nat) (hn : vs.length = n) (hi : (P.info? ty).map (·.size) = some n) (hl : o + n ≤ cur.length) (h1 : ∀ u ∈ vs, u.oneCell' = true)
    (new : List Value) (hnew : spl cur o vs = new)
    (h : ∀ w', w'.heap[b]? = some (.cells new.toArray t (0, 0)) → w.grownBy w' (some b) → wpList P ops Q rest (a.put op.dst undef) w') : wpList P ops Q (op :: rest) a w := by
  subst hn hnew
  refine wpList_plain hgd fun K hK => ?_
  have hr := run_storeVar_blk (P := P) w b o ty v cur t hb (by rw [hi, hvs]; rfl) (by rw [hvs]; exact hl) (by rw [hvs]; exact h1)
  unfold Oper.wp execOp
  simp only [ho, hx, hy, Instr.storeAt, Instr.sureAddr, Sem.run_bind, Sem.run_pure, Result.andThen_ok, hr]
  refine hK _ _ (h _ ?_ ?_)
  · rw [hvs]; exact setRow_heap w b _ _ t (0, 0) hb
  · exact ⟨rfl, rfl, rfl, by simp, fun k _ hk => setRow_other w b k _ (fun e => hk (by rw [e]))⟩
theorem wpList_build_run {ops : Array Oper} {rest : List Oper} {op : Oper} {a : Act} {w : World} {Q : Exit → Act → World → Prop} (hgd : op.guard = none) (t : TypeId) (parts : Array (Nat × Operand)) (ho : op.op = .build t parts)
    (ps : Array (Nat × Value)) (hps : parts.map (fun (i, x) => (i, a.eval x)) = ps) (v : Value) (hr : (Instr.build t ps).run P w = .ok v w)
    (h : wpList P ops Q rest (a.put op.dst v) w) : wpList P ops Q (op :: rest) a w := by
  subst hps
  refine wpList_plain hgd fun K hK => ?_
  unfold Oper.wp execOp
  simp only [ho, Sem.run_bind, Sem.run_pure, Result.andThen_ok, hr]
  exact hK _ _ h
end
end Go.Proofs.Ytadfimimkkimmaa
end
section
namespace Go.Proofs.Ytadfimimkkimmaa
open Go.RowKit

def dcells (S N : List UInt8) (pv : Value) (f : Bool) : List Value := S.map bv ++ N.map bv ++ ([pv, Value.bool f] : List Value)
def wcell (p : Nat × List UInt8) : List Value := Value.int .i64 (p.1 : Int) :: p.2.map bv
def wcells (ps : List (Nat × List UInt8)) : List Value := ps.flatMap wcell
/-- The disk D lies at block b; its pending writes are the own row pv. -/
structure DskAt (w : World) (B b : Nat) (pv : Value) (D : Dsk) : Prop where
  blk : w.heap[b]? = some (.cells (dcells D.S D.now pv D.f).toArray 98 (0, 0))
  own : w.ownsRow B 104 33 pv D.ps.length (wcells D.ps)
  le : B ≤ b
  ne : pv.ownBlock ≠ some b
  ok : D.Ok
/-- The blocks of a disk. -/
def DF (b : Nat) (pv : Value) (k : Nat) : Prop := k = b ∨ pv.ownBlock = some k
/-- Its pending writes lie where they lay, or in new memory. -/
def NewOr (w : World) (pv pv' : Value) : Prop := ∀ k, pv'.ownBlock = some k → pv.ownBlock = some k ∨ w.heap.size ≤ k
section
variable {w w' : World} {B b : Nat} {pv : Value} {D : Dsk}
theorem DskAt.lt (h : DskAt w B b pv D) : b < w.heap.size := (Array.getElem?_eq_some_iff.1 h.blk).1
theorem DskAt.plt (h : DskAt w B b pv D) : ∀ k, pv.ownBlock = some k → B ≤ k ∧ k < w.heap.size := h.own.lt
theorem DskAt.heap (h : DskAt w B b pv D) (hb : w'.heap[b]? = w.heap[b]?) (hp : ∀ k, pv.ownBlock = some k → w'.heap[k]? = w.heap[k]?) : DskAt w' B b pv D :=
  ⟨hb.trans h.blk, own_heap h.own hp, h.le, h.ne, h.ok⟩
theorem DskAt.chg {F : Nat → Prop} (h : DskAt w B b pv D) (hc : Chg F w w') (hb : ¬ F b) (hp : ∀ k, pv.ownBlock = some k → ¬ F k) : DskAt w' B b pv D :=
  h.heap (hc.block b h.lt hb) fun k hk => hc.block k (h.plt k hk).2 (hp k hk)
theorem DskAt.below (h : DskAt w B b pv D) (hc : Below w.heap.size w w') : DskAt w' B b pv D :=
  h.heap (hc.block b h.lt) fun k hk => hc.block k (h.plt k hk).2
theorem DskAt.mono {B' : Nat} (h : DskAt w B b pv D) (hB : B' ≤ B) : DskAt w B' b pv D :=
  ⟨h.blk, by
    refine ⟨h.own.1, ?_⟩
    rcases h.own.2 with h1 | ⟨g, cap, cur, h1, h2, r⟩
    · exact .inl h1
    · exact .inr ⟨g, cap, cur, h1, by omega, r⟩, by have := h.le; omega, h.ne, h.ok⟩
theorem DskAt.drewN (h : DskAt w B b pv D) (n : Nat) : DskAt (w.drewN n) B b pv D := ⟨h.blk, h.own, h.le, h.ne, h.ok⟩
theorem DF.le (h : DskAt w B b pv D) {k : Nat} (hk : DF b pv k) : B ≤ k := by
  rcases hk with rfl | hk
  · exact h.le
  · exact (h.plt k hk).1
theorem DF.new {pv' : Value} (hn : NewOr w pv pv') {k : Nat} (hk : DF b pv' k) (hlt : k < w.heap.size) : DF b pv k := by
  rcases hk with h | h
  · exact .inl h
  · rcases hn k h with h1 | h1
    · exact .inr h1
    · omega
theorem NewOr.refl (w : World) (pv : Value) : NewOr w pv pv := fun _ h => .inl h
theorem NewOr.none (w : World) (pv : Value) : NewOr w pv (.slice none 0 0) := fun _ h => by simp [Value.ownBlock] at h

theorem dcells_len {S N : List UInt8} (hS : S.length = 1664) (hN : N.length = 1664) (pv : Value) (f : Bool) : (dcells S N pv f).length = 3330 := by
  unfold dcells; simp [hS, hN]
theorem wcell_len {p : Nat × List UInt8} (h : p.2.length = 32) : (wcell p).length = 33 := by unfold wcell; simp [h]
theorem wcells_snoc (ps : List (Nat × List UInt8)) (p : Nat × List UInt8) : wcells (ps ++ [p]) = wcells ps ++ wcell p := by unfold wcells; simp
theorem dcells_pv {S N : List UInt8} (hS : S.length = 1664) (hN : N.length = 1664) (pv : Value) (f : Bool) : (dcells S N pv f)[3328]? = some pv := by
  unfold dcells
  rw [List.getElem?_append_right (by simp [hS, hN])]
  simp [hS, hN]
theorem dcells_f {S N : List UInt8} (hS : S.length = 1664) (hN : N.length = 1664) (pv : Value) (f : Bool) : (dcells S N pv f)[3329]? = some (.bool f) := by
  unfold dcells
  rw [List.getElem?_append_right (by simp [hS, hN])]
  simp [hS, hN]
theorem dcells_S {S N : List UInt8} (pv : Value) (f : Bool) {i : Nat} (hi : i < S.length) : (dcells S N pv f)[i]? = S[i]?.map bv := by
  unfold dcells
  rw [List.append_assoc, List.getElem?_append_left (by simpa using hi), List.getElem?_map]
theorem dcells_N {S N : List UInt8} (hS : S.length = 1664) (pv : Value) (f : Bool) {i : Nat} (hi : i < N.length) : (dcells S N pv f)[1664 + i]? = N[i]?.map bv := by
  unfold dcells
  rw [List.append_assoc, List.getElem?_append_right (by simp [hS]), List.getElem?_append_left (by simp [hS]; omega)]
  simp [hS]
section
variable {S N : List UInt8} {f : Bool} {t : TypeId}
theorem cell_dpv (hb : w.heap[b]? = some (.cells (dcells S N pv f).toArray t (0, 0))) (hS : S.length = 1664) (hN : N.length = 1664) : w.cell? ⟨b, 3328, none⟩ = some pv := by
  rw [cell_of_row w b _ _ t (0, 0) hb, List.getElem?_toArray]; exact dcells_pv hS hN pv f
theorem cell_df (hb : w.heap[b]? = some (.cells (dcells S N pv f).toArray t (0, 0))) (hS : S.length = 1664) (hN : N.length = 1664) : w.cell? ⟨b, 3329, none⟩ = some (.bool f) := by
  rw [cell_of_row w b _ _ t (0, 0) hb, List.getElem?_toArray]; exact dcells_f hS hN pv f
theorem range_S (hb : w.heap[b]? = some (.cells (dcells S N pv f).toArray t (0, 0))) : w.rangeAt b 0 (S.map bv) := fun j v hj => by
  have hl : j < S.length := by have := (List.getElem?_eq_some_iff.1 hj).1; simpa using this
  rw [cell_of_row w b _ _ t (0, 0) hb, List.getElem?_toArray, Nat.zero_add, dcells_S pv f hl, ← hj, List.getElem?_map]
theorem range_N (hb : w.heap[b]? = some (.cells (dcells S N pv f).toArray t (0, 0))) (hS : S.length = 1664) : w.rangeAt b 1664 (N.map bv) := fun j v hj => by
  have hl : j < N.length := by have := (List.getElem?_eq_some_iff.1 hj).1; simpa using this
  rw [cell_of_row w b _ _ t (0, 0) hb, List.getElem?_toArray, dcells_N hS pv f hl, ← hj, List.getElem?_map]
theorem range_sec {L : List UInt8} {o k : Nat} (h : w.rangeAt b o (L.map bv)) : w.rangeAt b (o + k * 32) ((secAt L k).map bv) := fun j v hj => by
  rw [List.getElem?_map, secAt_get] at hj
  split at hj
  · rw [Nat.add_assoc]
    exact h (k * 32 + j) v (by rw [List.getElem?_map]; exact hj)
  · cases hj
theorem spl_S {S' : List UInt8} (hl : S'.length = S.length) : spl (dcells S N pv f) 0 (S'.map bv) = dcells S' N pv f := by
  unfold dcells
  rw [List.append_assoc, List.append_assoc]
  exact spl_mid (A := []) (X := S.map bv) (C := N.map bv ++ [pv, Value.bool f]) (vs := S'.map bv) (o := 0) rfl (by simp [hl])
theorem spl_N {N' : List UInt8} (hS : S.length = 1664) (hl : N'.length = N.length) : spl (dcells S N pv f) 1664 (N'.map bv) = dcells S N' pv f := by
  unfold dcells
  rw [spl_mid (by simp [hS]) (by simp [hl])]
theorem spl_pv {pv' : Value} (hS : S.length = 1664) (hN : N.length = 1664) : spl (dcells S N pv f) 3328 [pv'] = dcells S N pv' f := by
  unfold dcells
  rw [show (S.map bv ++ N.map bv ++ [pv, Value.bool f]) = S.map bv ++ N.map bv ++ [pv] ++ [Value.bool f] by simp]
  exact (spl_mid (A := S.map bv ++ N.map bv) (X := [pv]) (C := [Value.bool f]) (vs := [pv']) (o := 3328) (by simp [hS, hN]) rfl).trans (by simp)
theorem map_put {L x : List UInt8} {k : Nat} : (putAt L k x).map bv = (L.take (k * 32)).map bv ++ x.map bv ++ (L.drop (k * 32 + 32)).map bv := by unfold putAt; simp
theorem map_sec {L : List UInt8} {k : Nat} : L.map bv = (L.take (k * 32)).map bv ++ (secAt L k).map bv ++ (L.drop (k * 32 + 32)).map bv := by
  rw [← map_put, put_sec]
theorem spl_Ssec {x : List UInt8} {k : Nat} (hS : S.length = 1664) (hk : k < 52) (hx : x.length = 32) : spl (dcells S N pv f) (k * 32) (x.map bv) = dcells (putAt S k x) N pv f := by
  have hs : (secAt S k).length = 32 := secAt_len (by omega)
  unfold dcells
  rw [map_put, map_sec (L := S) (k := k)]
  generalize hT : (S.drop (k * 32 + 32)).map bv = T
  rw [List.append_assoc (_ ++ _) T, List.append_assoc (_ ++ _) (T ++ _), List.append_assoc (_ ++ _) T, List.append_assoc (_ ++ _) (T ++ _)]
  exact spl_mid (by rw [List.length_map, List.length_take]; omega) (by simp [hs, hx])
theorem spl_Nsec {x : List UInt8} {k : Nat} (hS : S.length = 1664) (hN : N.length = 1664) (hk : k < 52) (hx : x.length = 32) : spl (dcells S N pv f) (1664 + k * 32) (x.map bv) = dcells S (putAt N k x) pv f := by
  have hs : (secAt N k).length = 32 := secAt_len (by omega)
  unfold dcells
  rw [map_put, map_sec (L := N) (k := k)]
  generalize hT : (N.drop (k * 32 + 32)).map bv = T
  generalize hT2 : (N.take (k * 32)).map bv = T2
  have e : ∀ X : List Value, S.map bv ++ (T2 ++ X ++ T) ++ [pv, Value.bool f] = (S.map bv ++ T2) ++ X ++ (T ++ [pv, Value.bool f]) := fun X => by simp
  rw [e, e]
  exact spl_mid (by rw [List.length_append, List.length_map, ← hT2, List.length_map, List.length_take]; omega) (by simp [hs, hx])
end
end
theorem info_dsk : (Try.prog.info? 98).map (fun i => (i.zero, i.size)) = some (some (.agg (dcells (List.replicate 1664 0) (List.replicate 1664 0) (.slice none 0 0) false).toArray), 3330) := by kernel_rfl
theorem size_arr : (Try.prog.info? 95).map (·.size) = some 1664 := by kernel_rfl
theorem size_sec : (Try.prog.info? 94).map (·.size) = some 32 := by kernel_rfl
theorem size_pend : (Try.prog.info? 96).map (·.size) = some 1 := by kernel_rfl
theorem size_dsk : (Try.prog.info? 98).map (·.size) = some 3330 := by kernel_rfl
theorem build_new (w : World) : (Instr.build 98 #[]).run Try.prog w = .ok (.agg (dcells (List.replicate 1664 0) (List.replicate 1664 0) (.slice none 0 0) false).toArray) w := by kernel_rfl
theorem build_failed (w : World) : (Instr.build 98 #[(3, .bool true)]).run Try.prog w = .ok (.agg (dcells (List.replicate 1664 0) (List.replicate 1664 0) (.slice none 0 0) true).toArray) w := by kernel_rfl
end Go.Proofs.Ytadfimimkkimmaa
end
section
namespace Go.Proofs.Ytadfimimkkimmaa
open Go.RowKit

theorem new_at (w : World) : DskAt (w.alloc (.cells (dcells (List.replicate 1664 0) (List.replicate 1664 0) (.slice none 0 0) false).toArray 98)) w.heap.size w.heap.size (.slice none 0 0) Dsk.new :=
  ⟨heap_alloc_new _ _, World.ownsRow_nil _ _ _ _, Nat.le_refl _, by simp [Value.ownBlock], Dsk.new_ok⟩
theorem dsk_new_any (w : World) : Calls Try.prog 51 #[] w fun e w' => e = .returned (.pointer (some ⟨w.heap.size, 0, none⟩)) ∧ DskAt w' w.heap.size w.heap.size (.slice none 0 0) Dsk.new ∧ Below w.heap.size w w' := by
  have H := Lib.hid (new_at w)
  have hbuild := build_new
  generalize hC : dcells (List.replicate 1664 0) (List.replicate 1664 0) (.slice none 0 0) false = C at H hbuild
  clear hC
  go_enter Try.func51, Try.ntmps51
  go_wp2_with ((refine wpList_build_run rfl 98 #[] (by rfl) #[] (by simp) (.agg C.toArray) (hbuild _) ?_))
  go_ret
  exact ⟨rfl, H.out, below1 _ _⟩
section
variable (B b : Nat) (pv : Value) (D : Dsk) (w : World) (h : DskAt w B b pv D)
include h
theorem dsk_failed_any : Calls Try.prog 61 #[.pointer (some ⟨b, 0, none⟩)] w fun e w' => e = .returned (.bool D.f) ∧ w' = w := by
  have hc := cell_df h.blk h.ok.S h.ok.now
  clear h
  go_enter Try.func61, Try.ntmps61
  go_wp2
  go_ret
  exact ⟨rfl, rfl⟩
theorem dsk_pending_any : Calls Try.prog 60 #[.pointer (some ⟨b, 0, none⟩)] w fun e w' => e = .returned (.int .i64 (D.ps.length : Int)) ∧ w' = w := by
  have hc := cell_dpv h.blk h.ok.S h.ok.now
  have hv : ∃ A c, pv = .slice A D.ps.length c := by
    rcases h.own.2 with ⟨h1, h2⟩ | ⟨g, cap, cur, h1, _⟩
    · exact ⟨none, 0, by rw [h2]; exact h1⟩
    · exact ⟨_, _, h1⟩
  obtain ⟨A, c, rfl⟩ := hv
  clear h
  go_enter Try.func60, Try.ntmps60
  go_wp2
  go_ret
  exact ⟨rfl, rfl⟩
/-- The error of a call on sector k. -/
def reachE (f : Bool) (k : Int) : Int := if f = true then 5 else if k < 0 ∨ 52 ≤ k then 4 else 0
theorem dsk_reach_any (k : Int) (hk : -9223372036854775808 ≤ k ∧ k ≤ 9223372036854775807) : Calls Try.prog 86 #[.pointer (some ⟨b, 0, none⟩), .int .i64 k] w fun e w' => e = .returned (.int .i64 (reachE D.f k)) ∧ w' = w := by
  have hc := cell_df h.blk h.ok.S h.ok.now
  have HE : Hid (reachE D.f k = if D.f = true then 5 else if k < 0 ∨ 52 ≤ k then 4 else 0) := rfl
  clear h
  generalize D.f = f at hc HE ⊢
  generalize reachE f k = E at HE ⊢
  cases f
  · by_cases h1 : k < 0
    · have HE2 := Lib.hid (show E = 4 by rw [HE.out, if_neg (by simp), if_pos (.inl h1)])
      clear HE
      go_enter Try.func86, Try.ntmps86
      go_wp2
      go_ret
      exact ⟨by rw [HE2.out]; rfl, rfl⟩
    · by_cases h2 : 52 ≤ k
      · have HE2 := Lib.hid (show E = 4 by rw [HE.out, if_neg (by simp), if_pos (.inr h2)])
        clear HE
        go_enter Try.func86, Try.ntmps86
        go_wp2
        go_ret
        exact ⟨by rw [HE2.out]; rfl, rfl⟩
      · have HE2 := Lib.hid (show E = 0 by rw [HE.out, if_neg (by simp), if_neg (by omega)])
        clear HE
        go_enter Try.func86, Try.ntmps86
        go_wp2
        go_ret
        exact ⟨by rw [HE2.out]; rfl, rfl⟩
  · have HE2 := Lib.hid (show E = 5 by rw [HE.out, if_pos rfl])
    clear HE
    go_enter Try.func86, Try.ntmps86
    go_wp2
    go_ret
    exact ⟨by rw [HE2.out]; rfl, rfl⟩
/-- The error of a call that sets sector k to n bytes. -/
def takeE (f : Bool) (k : Int) (n : Nat) : Int := if reachE f k ≠ 0 then reachE f k else if n ≠ 32 then 1 else 0
theorem dsk_take_any (k : Int) (A : Option Addr) (n c : Nat) (hk : -9223372036854775808 ≤ k ∧ k ≤ 9223372036854775807) (hn : n ≤ 140737488355328) :
    Calls Try.prog 87 #[.pointer (some ⟨b, 0, none⟩), .int .i64 k, .slice A n c] w fun e w' => e = .returned (.int .i64 (takeE D.f k n)) ∧ w' = w := by
  have C := Lib.hid (dsk_reach_any B b pv D w h k hk)
  have HE : Hid (takeE D.f k n = if reachE D.f k ≠ 0 then reachE D.f k else if n ≠ 32 then 1 else 0) := rfl
  clear h
  generalize takeE D.f k n = E at HE ⊢
  generalize reachE D.f k = R at HE C
  by_cases h1 : R = 0
  · subst h1
    by_cases h2 : n = 32
    · have HE2 := Lib.hid (show E = 0 by rw [HE.out, if_neg (by simp), if_neg (by simp [h2])])
      have e2 : ((n : Int) != 32) = false := by subst h2; rfl
      clear HE h2
      go_enter Try.func87, Try.ntmps87
      go_wp2_with fail
      refine C.out.mono ?_
      rintro e w' ⟨rfl, rfl⟩
      go_wp2
      go_ret
      exact ⟨by rw [HE2.out]; rfl, rfl⟩
    · have HE2 := Lib.hid (show E = 1 by rw [HE.out, if_neg (by simp), if_pos h2])
      have e2 : ((n : Int) != 32) = true := by rw [bne_iff_ne]; omega
      clear HE h2
      go_enter Try.func87, Try.ntmps87
      go_wp2_with fail
      refine C.out.mono ?_
      rintro e w' ⟨rfl, rfl⟩
      go_wp2
      go_ret
      exact ⟨by rw [HE2.out]; rfl, rfl⟩
  · have HE2 := Lib.hid (show E = R by rw [HE.out, if_pos h1])
    have e2 : (R != 0) = true := by rw [bne_iff_ne]; exact h1
    clear HE h1
    go_enter Try.func87, Try.ntmps87
    go_wp2_with fail
    refine C.out.mono ?_
    rintro e w' ⟨rfl, rfl⟩
    go_wp2
    go_ret
    exact ⟨by rw [HE2.out]; rfl, rfl⟩
end
end Go.Proofs.Ytadfimimkkimmaa
end
section
set_option maxRecDepth 8000
namespace Go.Proofs.Ytadfimimkkimmaa
open Go.RowKit

theorem range_heap {w w' : World} {b o : Nat} {cs : List Value} (h : w.rangeAt b o cs) (hb : w'.heap[b]? = w.heap[b]?) : w'.rangeAt b o cs := fun j v hj => (World.cell?_of_block (a := ⟨b, o + j, none⟩) hb).trans (h j v hj)
theorem range_setCell {w : World} {b o b' j : Nat} {cs : List Value} {v : Value} (h : w.rangeAt b o cs) (hne : b' ≠ b) : (w.setCell ⟨b', j, none⟩ v).rangeAt b o cs := fun i u hi => by
  rw [World.cell?_setCell_other _ _ _ _ (by intro e; injection e with e; exact hne e)]; exact h i u hi
section
variable {P : Program}
theorem wpStill_load_mid {ops : Array Oper} {rest : List Oper} {op : Oper} {a : Act} {w : World} {Q : Act → Prop} (hgd : op.guard = none) (ty : TypeId) (x : Operand) (ho : op.op = .load ty x)
    (b o : Nat) (hx : a.eval x = .pointer (some ⟨b, o, none⟩)) (cs : List Value) (d : TypeDesc) (hc : w.rangeAt b o cs) (hu : P.underlying ty = some d) (hd : d.isRow = true) (hi : (P.info? ty).map (·.size) = some cs.length)
    (h : wpStill P ops w Q rest (a.put op.dst (.agg cs.toArray))) : wpStill P ops w Q (op :: rest) a := by
  refine wpStill_step (fun K hK => ?_)
  rw [if_pos (by simp [Region.wanted, hgd])]
  unfold Oper.still execOp
  simp only [ho, hx, Instr.loadAt, Instr.sureAddr, Sem.run_bind, Sem.run_pure, Result.andThen_ok, run_loadVar_mid w b o ty cs d hc hu hd hi]
  exact ⟨rfl, hK _ h⟩
/-- One cell stored into a block that is known whole. -/
theorem heap_setCell (w : World) (b o : Nat) (v : Value) (cur : List Value) (t : TypeId) (hb : w.heap[b]? = some (.cells cur.toArray t (0, 0))) (ho : o + 1 ≤ cur.length) (h1 : v.oneCell' = true) :
    (w.setCell ⟨b, o, none⟩ v).heap[b]? = some (.cells (spl cur o [v]).toArray t (0, 0)) ∧ w.grownBy (w.setCell ⟨b, o, none⟩ v) (some b) := by
  have hc : w.cell? ⟨b, o, none⟩ = some (cur[o]'(by omega)) := by rw [cell_of_row w b o _ t (0, 0) hb]; simp
  have hf : w.frozen? ⟨b, o, none⟩ = false := by simp [World.frozen?, hb]
  have e1 := run_storeCells_cells (P := Try.prog) b o [v] 0 w (fun j hj => by obtain rfl : j = 0 := (by simp at hj; omega); simp only [Nat.add_zero]; rw [hc]; rfl) (fun j hj => by obtain rfl : j = 0 := (by simp at hj; omega); simpa using hf) (fun u hu => by simp at hu; subst hu; exact h1)
  have e2 := run_storeCells_at Try.prog b o t [v] 0 cur.toArray w hb (by simpa using ho) (fun u hu => by simp at hu; subst hu; exact h1)
  have e3 := e1.symm.trans e2
  injection e3 with e4 e5
  have e6 : w.setCell ⟨b, o, none⟩ v = w.setRow b (spl cur o [v]).toArray := by
    simp only [Nat.add_zero] at e5
    exact e5
  rw [e6]
  exact ⟨setRow_heap w b _ _ t (0, 0) hb, rfl, rfl, rfl, by simp, fun k _ hk => setRow_other w b k _ (fun e => hk (by rw [e]))⟩

theorem spl_all {cur vs : List Value} (h : vs.length = cur.length) : spl cur 0 vs = vs := by
  unfold spl; simp [h]
/-- Some cells set in an array, as build sets them. -/
theorem foldl_spl (o : Nat) (vs : Array Value) (z : Array Value) (h : o + vs.size ≤ z.size) : vs.zipIdx.foldl (fun cs (x : Value × Nat) => cs.setIfInBounds (o + x.2) x.1) z = (spl z.toList o vs.toList).toArray := by
  obtain ⟨h1, h2⟩ := Go.Great.foldl_set o vs.toList 0 z
  have e : vs.zipIdx.foldl (fun cs (x : Value × Nat) => cs.setIfInBounds (o + x.2) x.1) z = (vs.toList.zipIdx 0).foldl (fun cs (x : Value × Nat) => cs.setIfInBounds (o + x.2) x.1) z := by
    rw [← Array.foldl_toList, Array.toList_zipIdx]
  rw [e]
  apply Array.ext_getElem?
  intro k
  have hl1 : (z.toList.take o).length = o := by rw [List.length_take, Array.length_toList]; omega
  have e3 : ∀ l : List Value, l.toArray[k]? = l[k]? := fun l => by simp
  rw [h2 k, e3 (spl z.toList o vs.toList)]
  unfold spl
  simp only [Nat.add_zero, Array.length_toList]
  by_cases c1 : k < o
  · rw [if_neg (by omega), List.append_assoc, List.getElem?_append_left (by omega), List.getElem?_take, if_pos c1, Array.getElem?_toList]
  · by_cases c2 : k < o + vs.size
    · rw [if_pos (by omega), List.append_assoc, List.getElem?_append_right (by omega), hl1, List.getElem?_append_left (by rw [Array.length_toList]; omega)]
    · rw [if_neg (by omega), List.getElem?_append_right (l₁ := z.toList.take o ++ vs.toList) (by rw [List.length_append, hl1, Array.length_toList]; omega), List.length_append, hl1, Array.length_toList, List.getElem?_drop, Array.getElem?_toList]
      congr 1
      omega
theorem fill_step (place : Nat → Option (Nat × Nat)) (z : Array Value) (i o : Nat) (v : Value) (rest : List (Nat × Value)) (hp : place i = some (o, v.cells.size)) (h : o + v.cells.size ≤ z.size) :
    Instr.fill place z ((i, v) :: rest) = Instr.fill place (spl z.toList o v.cells.toList).toArray rest := by
  rw [Instr.fill]
  simp only [hp]
  rw [if_neg (by simp; omega), ← foldl_spl o v.cells z h]
end
/-- write{k, x} as a value. -/
theorem build_write (u v : Value) (hu : u.cells.size = 1) (hv : v.cells.size = 32) (w : World) : (Instr.build 104 #[(0, u), (1, v)]).run Try.prog w = .ok (.agg (u.cells ++ v.cells)) w := by
  refine run_build w _ _ _ ?_
  have e : Try.prog.built 104 [(0, u), (1, v)] = Instr.fill ((#[(0, 1), (1, 32)] : Array (Nat × Nat))[·]?) (Value.int .i64 0 :: List.replicate 32 (Value.int .u8 0)).toArray [(0, u), (1, v)] := by kernel_rfl
  refine e.trans ?_
  generalize hU : u.cells = U at hu
  generalize hV : v.cells = V at hv
  obtain ⟨x, rfl⟩ : ∃ x, U = #[x] := ⟨U[0]'(by omega), by
    apply Array.ext
    · simpa using hu
    · intro i h1 h2
      obtain rfl : i = 0 := by simp at h2; omega
      rfl⟩
  rw [fill_step _ _ 0 0 _ _ (by rw [hU]; rfl) (by rw [hU]; simp), fill_step _ _ 1 1 _ _ (by rw [hV, hv]; rfl) (by rw [hU, hV]; simp [spl, hv]), Instr.fill, hU, hV]
  congr 1
  have e2 : spl (Value.int .i64 0 :: List.replicate 32 (Value.int .u8 0)) 0 [x] = [x] ++ List.replicate 32 (Value.int .u8 0) ++ [] := rfl
  have e3 := spl_mid (A := [x]) (X := List.replicate 32 (Value.int .u8 0)) (C := []) (vs := V.toList) (o := 1) rfl (by simp [hv])
  apply Array.ext'
  simp only [Array.toList_append]
  rw [e2, e3]
  simp
theorem built_slice (v : Value) (hv : v.cells.size = 33) (w : World) : (Instr.buildSlice 96 1 #[(0, v)]).run Try.prog w = .ok (.slice (some ⟨w.heap.size, 0, none⟩) 1 1) (w.alloc (.cells v.cells 104)) := by
  have hi : (Try.prog.info? 104).map (fun i => (i.zero, i.size)) = some (some (.agg (Value.int .i64 0 :: List.replicate 32 (Value.int .u8 0)).toArray), 33) := by kernel_rfl
  obtain ⟨i, hi, hzz⟩ := Option.map_eq_some_iff.1 hi
  simp only [Prod.mk.injEq] at hzz
  obtain ⟨hz, hs⟩ := hzz
  refine run_buildSlice w _ _ 1 _ _ i _ Try.underlying96 hi hz (by rw [hs]; decide) (by rw [hs]; decide) ?_
  rw [hs]
  rw [fill_step _ _ 0 0 _ _ (by simp [hv]) (by simp [hv]), Instr.fill]
  congr 1
  rw [spl_all (by simp [hv])]
theorem wp_build_write {dst : Option Tmp} {x y : Operand} {ty : TypeId} {pos : String} {after : Array Edge} {a : Act} {w : World} {K : Act → World → Prop} {Q : Exit → Act → World → Prop} (hx : (a.eval x).cells.size = 1) (hy : (a.eval y).cells.size = 32) :
    Oper.wp Try.prog ⟨dst, .build 104 #[(0, x), (1, y)], ty, pos, after, none⟩ a w K Q = K (a.put dst (.agg ((a.eval x).cells ++ (a.eval y).cells))) w := by
  unfold Oper.wp execOp
  simp only [List.map_toArray, List.map_cons, List.map_nil, Sem.run_bind, build_write _ _ hx hy, Result.andThen_ok]
  simp [Oper.upon_value]
theorem exec_build_write {dst : Option Tmp} {x y : Operand} {ty : TypeId} {pos : String} {after : Array Edge} {a : Act} {w : World} (hx : (a.eval x).cells.size = 1) (hy : (a.eval y).cells.size = 32) :
    Sem.run Try.prog (execOp a.eval ⟨dst, .build 104 #[(0, x), (1, y)], ty, pos, after, none⟩) w = .ok (.value (.agg ((a.eval x).cells ++ (a.eval y).cells))) w := by
  unfold execOp
  simp only [List.map_toArray, List.map_cons, List.map_nil, Sem.run_bind, build_write _ _ hx hy, Result.andThen_ok]
  simp
theorem wp_built_slice {dst : Option Tmp} {x : Operand} {ty : TypeId} {pos : String} {after : Array Edge} {a : Act} {w : World} {K : Act → World → Prop} {Q : Exit → Act → World → Prop} (hx : (a.eval x).cells.size = 33) :
    Oper.wp Try.prog ⟨dst, .buildSlice 96 1 #[(0, x)], ty, pos, after, none⟩ a w K Q = K (a.put dst (.slice (some ⟨w.heap.size, 0, none⟩) 1 1)) (w.alloc (.cells (a.eval x).cells 104)) := by
  unfold Oper.wp execOp
  simp only [List.map_toArray, List.map_cons, List.map_nil, Sem.run_bind, built_slice _ hx, Result.andThen_ok]
  simp [Oper.upon_value]
theorem arr_at (A : Option Addr) (n c : Nat) (hn : 32 ≤ n) (w : World) : (Instr.arrayAt 94 (.slice A n c)).run Try.prog w = .ok (.pointer A) w := by
  have h : ¬ n < 32 := by omega
  simp [Instr.arrayAt, run_underlying Try.underlying94, h]
end Go.Proofs.Ytadfimimkkimmaa
end
section
set_option maxRecDepth 8000
namespace Go.Proofs.Ytadfimimkkimmaa
open Go.RowKit

theorem size_pw : (Try.prog.info? 104).map (fun i => (i.zero, i.size, i.bytes)) = some (some (.agg (Value.int .i64 0 :: List.replicate 32 (Value.int .u8 0)).toArray), 33, 40) := by kernel_rfl
theorem dsk_write_end {w0 w1 w2 w3 w4 : World} {B b : Nat} {pv : Value} {D : Dsk} {k : Nat} {x : List UInt8} {o : Obj} {g cap : Nat} (h0 : DskAt w0 B b pv D) (hk : k < 52) (hx : x.length = 32) (hB1 : Below w0.heap.size w0 w1) (hg2 : w1.grownBy w2 (some b))
    (hg3 : (w2.drew.alloc o).grownBy w3 pv.ownBlock) (hat : pv.ownBlock = some g ∨ g = w2.heap.size + 1)
    (hown3 : w3.ownsRow B 104 33 (.slice (some ⟨g, 0, none⟩) (D.ps.length + 1) cap) (D.ps.length + 1) (wcells D.ps ++ wcell (k, x)))
    (hb4 : w4.heap[b]? = some (.cells (dcells D.S (putAt D.now k x) (.slice (some ⟨g, 0, none⟩) (D.ps.length + 1) cap) D.f).toArray 98 (0, 0))) (hg4 : w3.grownBy w4 (some b)) :
    DskAt w4 B b (.slice (some ⟨g, 0, none⟩) (D.ps.length + 1) cap) (D.write k x) ∧ Chg (DF b pv) w0 w4 ∧ NewOr w0 pv (.slice (some ⟨g, 0, none⟩) (D.ps.length + 1) cap) := by
  have hblt := h0.lt
  have hs1 := hB1.size
  have hs2 := hg2.size
  have hgb : g ≠ b := by
    rcases hat with h | h
    · intro e; subst e; exact h0.ne h
    · omega
  generalize hpv : Value.slice (some ⟨g, 0, none⟩) (D.ps.length + 1) cap = pv' at hown3 hb4 ⊢
  have hob : pv'.ownBlock = some g := by rw [← hpv]; rfl
  refine ⟨⟨?_, ?_, h0.le, ?_, h0.ok.write hk hx⟩, ?_, ?_⟩
  · rw [Dsk.write_now]; exact hb4
  · have : (D.write k x).ps.length = D.ps.length + 1 := by simp [Dsk.write]
    rw [this, show wcells (D.write k x).ps = wcells D.ps ++ wcell (k, x) from wcells_snoc _ _]
    exact own_heap hown3 fun j hj => by
      rw [hob] at hj; injection hj with hj; subst hj
      exact hg4.block _ (hown3.lt _ hob).2 (by intro e; injection e with e; exact hgb e)
  · rw [hob]; intro e; injection e with e; exact hgb e
  · have c1 : Chg (DF b pv) w0 w2 := (chg_below _ hB1).trans (chg_grown hg2) fun i _ e => .inl (by injection e with e; exact e.symm)
    have c2 : Chg (DF b pv) w0 w3 := ((c1.drewN 1).alloc o).trans (chg_grown hg3) fun i _ e => .inr e
    exact c2.trans (chg_grown hg4) fun i _ e => .inl (by injection e with e; exact e.symm)
  · intro j hj
    rw [hob] at hj; injection hj with hj; subst hj
    rcases hat with h | h
    · exact .inl h
    · exact .inr (by omega)
section
attribute [local go_sem ↓] wp_build_write exec_build_write wp_built_slice
set_option maxHeartbeats 800000 in
theorem dsk_write_ok (B b : Nat) (pv : Value) (D : Dsk) (k : Nat) (x : List UInt8) (A : Option Addr) (c : Nat) (w : World) (h : DskAt w B b pv D) (hf : D.f = false) (hk : k < 52) (hx : x.length = 32) (hr : RdB w w.heap.size A x) (hps : D.ps.length ≤ 2000000) :
    Calls Try.prog 74 #[.pointer (some ⟨b, 0, none⟩), .int .i64 (k : Int), .slice A 32 c] w fun e w' => ∃ pv', e = .returned (.int .i64 0) ∧ DskAt w' B b pv' (D.write k x) ∧ Chg (DF b pv) w w' ∧ NewOr w pv pv' := by
  have C := Lib.hid (dsk_take_any B b pv D w h (k : Int) A 32 c (by omega) (by omega))
  have hE : takeE D.f (k : Int) 32 = 0 := by
    have : reachE D.f (k : Int) = 0 := by unfold reachE; rw [hf, if_neg (by simp), if_neg (by omega)]
    unfold takeE; rw [this]; rfl
  rw [hE] at C
  obtain ⟨g, off, rfl, hg, hcells⟩ := hr.2 (by omega)
  have hra : w.rangeAt g off (x.map bv) := fun j v hj => by
    obtain ⟨hj1, rfl⟩ := List.getElem?_eq_some_iff.1 hj
    have hj2 : j < x.length := by simpa using hj1
    rw [hcells j hj2]
    simp [bv, hj2]
  have Hx := Lib.hid hx
  have Hra := Lib.hid hra
  clear hcells hra hr hE hx
  have Hh := Lib.hid h
  have harr := arr_at (some ⟨g, off, none⟩) 32 c (Nat.le_refl _)
  have k0 : (0 : Int) ≤ (k : Int) := by omega
  have k1 : (k : Int) < 52 := by omega
  clear h
  go_enter Try.func74, Try.ntmps74
  go_wp2_with fail
  refine C.out.mono ?_
  rintro e w' ⟨rfl, rfl⟩
  go_wp2_with (first
    | (refine wpList_load_mid rfl 94 _ (by rfl) g off (by rfl) (x.map bv) _ Hra.out Try.underlying94 rfl (by rw [List.length_map, Hx.out]; exact size_sec) ?_)
    | (refine wpList_store_blk rfl 94 _ _ (by rfl) w'.heap.size 0 (.agg (x.map bv).toArray) (by rfl) (by rfl) (List.replicate 32 (.int .u8 0)) 94 (heap_alloc_new _ _) (x.map bv) (by rfl) 32 (by rw [List.length_map, Hx.out]) size_sec (by decide) map_bv_one (x.map bv) (spl_all (by rw [List.length_map, Hx.out]; rfl)) ?_; intro w1 h1 hg1)
    | fail)
  have hB1 : Below w'.heap.size w' w1 := (below1 w' _).grown hg1 (by simp) (fun j hj => by injection hj with hj; omega)
  clear hg1
  have HD := Lib.hid (Hh.out.below hB1)
  have hG : w'.heap.size < w1.heap.size := (Array.getElem?_eq_some_iff.1 h1).1
  have hbG := Hh.out.lt
  have Hp := Lib.hid (Hh.out.plt)
  generalize hGe : w'.heap.size = G at h1 hG hbG Hp ⊢
  have HG := Lib.hid hGe
  clear hGe
  refine wp_region_still_tail 6 (by kernel_rfl) (by kernel_rfl) ?_
  simp only [List.take_succ_cons, List.take_zero, List.drop_succ_cons, List.drop_zero]
  change wpStill _ _ w1.drew _ _ _
  have hra1 : w1.drew.rangeAt G 0 (x.map bv) := fun j v hj => by rw [Nat.zero_add, cell_of_row _ _ _ _ _ _ (show w1.drew.heap[G]? = _ from h1)]; simpa using hj
  have Hra1 := Lib.hid hra1
  clear hra1
  still_step
  still_step
  refine wpStill_load_mid rfl 94 _ (by rfl) G 0 (by rfl) (x.map bv) _ Hra1.out Try.underlying94 rfl (by rw [List.length_map, Hx.out]; exact size_sec) ?_
  repeat still_step
  refine wpStill_nil ?_
  change wpList _ _ _ _ _ w1.drew
  have HS := Lib.hid Hh.out.ok.S
  have HN := Lib.hid Hh.out.ok.now
  refine wpList_store_blk rfl 94 _ _ (by rfl) b (1664 + k * 32) (.agg (x.map bv).toArray) (by rfl) (by rfl) (dcells D.S D.now pv D.f) 98 HD.out.blk (x.map bv) (by rfl) 32 (by rw [List.length_map, Hx.out]) size_sec (by rw [dcells_len HS.out HN.out]; omega) map_bv_one (dcells D.S (putAt D.now k x) pv D.f) (spl_Nsec HS.out HN.out hk Hx.out) ?_
  intro w2 hb2 hg2
  have hN' : (putAt D.now k x).length = 1664 := putAt_len HN.out (by omega) Hx.out
  have hc2 := cell_dpv hb2 HS.out hN'
  have hG2 : w2.heap[G]? = some (.cells (x.map bv).toArray 94 (0, 0)) := (hg2.block G hG (by intro e; injection e with e; omega)).trans h1
  have hra2 : w2.drew.rangeAt G 0 (x.map bv) := fun j v hj => by rw [Nat.zero_add, cell_of_row _ _ _ _ _ _ (show w2.drew.heap[G]? = _ from hG2)]; simpa using hj
  have hown2 : w2.ownsRow B 104 33 pv D.ps.length (wcells D.ps) := own_chg HD.out.own (chg_grown hg2).ofDrew (fun j hj e => HD.out.ne (hj.trans e.symm))
  have hsz2 := hg2.size
  have Hhb2 := Lib.hid hb2
  have Hg2 := Lib.hid (show w1.grownBy w2 (some b) from ⟨hg2.os, hg2.tape, hg2.output, hg2.size, hg2.block⟩)
  have Hown2 := Lib.hid hown2
  have Hra2 := Lib.hid hra2
  have hb2lt : b < w2.heap.size := (Array.getElem?_eq_some_iff.1 hb2).1
  clear hg2 hb2 hG2 hra2 hown2 h1
  go_wp2
  rw [show ∀ (a : Act) (v : Value), a.put none v = a from fun _ _ => rfl]
  have hu := Try.underlying94
  have hi : (Try.prog.info? 94).map (·.size) = some (x.map bv).length := by rw [List.length_map, Hx.out]; exact size_sec
  have hx32 := Hx.out
  have HO := Lib.hid (show ∀ o : Obj, (w2.drew.alloc o).ownsRow B 104 33 pv D.ps.length (wcells D.ps) from fun o => own_heap Hown2.out fun j hj => heap_alloc_old w2.drew o (Hown2.out.lt j hj).2)
  obtain ⟨iw, hiw, hzz⟩ := Option.map_eq_some_iff.1 size_pw
  simp only [Prod.mk.injEq] at hzz
  have Hzw := Lib.hid hzz.1
  have Hsw := Lib.hid hzz.2.1
  have Hbw := Lib.hid hzz.2.2
  have Hiw := Lib.hid hiw
  have HBw := Lib.hid (show B ≤ w2.heap.size by have := Hh.out.le; omega)
  have HbD := Lib.hid (show ∀ o : Obj, (w2.drew.alloc o).heap[b]? = w2.heap[b]? from fun o => heap_alloc_old w2.drew o hb2lt)
  have Hbs := Lib.hid (show ∀ o : Obj, b < (w2.drew.alloc o).heap.size from fun o => by simp; omega)
  have Hbn := Lib.hid (show some b ≠ pv.ownBlock from fun e => Hh.out.ne e.symm)
  have HGn := Lib.hid (show some G ≠ pv.ownBlock from fun e => by have := (Hp.out _ e.symm).2; omega)
  have hG2 : G < w2.heap.size := by have : w1.heap.size ≤ w2.heap.size := hsz2; omega
  have HGD := Lib.hid (show ∀ o : Obj, (w2.drew.alloc o).heap[G]? = w2.heap[G]? from fun o => heap_alloc_old w2.drew o hG2)
  have HGs := Lib.hid (show ∀ o : Obj, G < (w2.drew.alloc o).heap.size from fun o => by simp; omega)
  have Hne1 := Lib.hid (show ∀ u ∈ (Value.int .i64 (k : Int) :: x.map bv), u.oneCell' = true from fun u hu => by
    rcases List.mem_cons.1 hu with rfl | hu
    · rfl
    · exact map_bv_one u hu)
  have Hnl := Lib.hid (show (Value.int .i64 (k : Int) :: x.map bv).length = 1 * 33 by simp [Hx.out])
  have hdl := dcells_len HS.out hN' pv D.f
  have Hdl := Lib.hid hdl
  clear hzz hiw hdl hc2
  refine wp_region_noPanic (region_take 8 (fun W => W.heap[b]? = w2.heap[b]? ∧ W.heap[G]? = w2.heap[G]?) (by kernel_rfl) (by kernel_rfl) (fun _ _ _ _ _ h => h) ⟨rfl, rfl⟩ ?_)
  simp only [List.take_succ_cons, List.take_zero, List.drop_succ_cons, List.drop_zero]
  refine take_of (v := .pointer (some ⟨b, 0, none⟩)) (by rfl) (fun W hW => by go_simp) ?_
  refine take_of (v := .pointer (some ⟨b, 0, none⟩)) (by rfl) (fun W hW => by go_simp) ?_
  simp only [Act.put, List.setIfInBounds_toArray, List.set_cons_zero, List.set_cons_succ]
  refine take_of (v := .pointer (some ⟨b, 0, none⟩)) (by rfl) (fun W hW => by go_simp) ?_
  simp only [Act.put, List.setIfInBounds_toArray, List.set_cons_zero, List.set_cons_succ]
  refine take_of (v := .pointer (some ⟨b, 3328, none⟩)) (by rfl) (fun W hW => by go_simp) ?_
  simp only [Act.put, List.setIfInBounds_toArray, List.set_cons_zero, List.set_cons_succ]
  refine take_of (v := pv) (by rfl) (fun W hW => by have hc := cell_dpv (hW.1.trans Hhb2.out) HS.out hN'; go_simp) ?_
  refine take_of (v := .int .i64 (k : Int)) (by rfl) (fun W hW => by go_simp) ?_
  simp only [Act.put, List.setIfInBounds_toArray, List.set_cons_zero, List.set_cons_succ]
  refine take_mid (by rfl) 94 _ (by rfl) G 0 (by rfl) (x.map bv) _ (fun W hW => range_heap Hra2.out hW.2) hu rfl hi ?_
  simp only [Act.put, List.setIfInBounds_toArray, List.set_cons_zero, List.set_cons_succ]
  refine take_of (v := .agg (Value.int .i64 (k : Int) :: x.map bv).toArray) (by rfl) (fun W hW => by go_simp) ?_
  simp only [Act.put, List.setIfInBounds_toArray, List.set_cons_zero, List.set_cons_succ, takesE]
  refine listE_step fun K hK => ?_
  rw [if_pos (by rfl), wp_built_slice (by simp [Act.eval, Value.cells, hx32])]
  refine hK _ _ ⟨HbD.out _, HGD.out _⟩ ?_
  clear hK K
  simp only [Act.put, List.setIfInBounds_toArray, List.set_cons_zero, List.set_cons_succ]
  refine listE_step fun K hK => ?_
  refine step_append_lies _ (by rfl) _ _ _ (by rfl) B 104 iw _ 33 40 Try.underlying96 Hiw.out Hzw.out Hsw.out Hbw.out (by rfl) (by omega) pv D.ps.length (wcells D.ps) (by rfl) (HO.out _) ⟨w2.heap.size, 0, none⟩ 1 1 (Value.int .i64 (k : Int) :: x.map bv) (by rfl) Hnl.out (World.news_of_block (heap_alloc_new w2.drew _)) Hne1.out (by omega) (by unfold maxLen; omega) (by omega) (by simp; have := HBw.out; omega) (w2.heap.size + 1) (by simp) ?_
  intro g3 cap3 w3 hown3 hgrow3 hat3 hlt3
  have hb3 := (hgrow3.block b (Hbs.out _) Hbn.out).trans (HbD.out _)
  have hG3 := (hgrow3.block G (HGs.out _) HGn.out).trans (HGD.out _)
  refine hK _ _ ⟨hb3, hG3⟩ ?_
  clear hK K
  have Hown3 := Lib.hid hown3
  have Hgrow3 := Lib.hid hgrow3
  have Hat3 := Lib.hid hat3
  have Hb3 := Lib.hid hb3
  have HG3 := Lib.hid hG3
  clear hown3 hgrow3 hat3 hb3 hG3
  simp only [Act.put, List.setIfInBounds_toArray, List.set_cons_zero, List.set_cons_succ]
  refine listE_step fun K hK => ?_
  go_simp
  refine hK _ _ ⟨Hb3.out, HG3.out⟩ ?_
  clear hK K
  refine listE_step fun K hK => ?_
  go_simp
  refine hK _ _ ⟨Hb3.out, HG3.out⟩ ?_
  clear hK K
  refine listE_last ?_
  refine wpList_store_blk rfl 96 _ _ (by rfl) b 3328 (.slice (some ⟨g3, 0, none⟩) (D.ps.length + 1) cap3) (by rfl) (by rfl) (dcells D.S (putAt D.now k x) pv D.f) 98 (Hb3.out.trans Hhb2.out) [.slice (some ⟨g3, 0, none⟩) (D.ps.length + 1) cap3] (by rfl) 1 (by rfl) size_pend (by have := Hdl.out; omega) (by intro u hu; simp at hu; subst hu; rfl) (dcells D.S (putAt D.now k x) (.slice (some ⟨g3, 0, none⟩) (D.ps.length + 1) cap3) D.f) (spl_pv HS.out hN') ?_
  intro w4 hb4 hg4
  refine wpList_nil (NoPanic.normal ?_)
  have Hb4 := Lib.hid hb4
  have Hg4 := Lib.hid hg4
  clear hb4 hg4
  go_wp2
  go_ret
  exact ⟨_, rfl, dsk_write_end Hh.out hk Hx.out hB1 Hg2.out Hgrow3.out Hat3.out Hown3.out Hb4.out Hg4.out⟩
end
end Go.Proofs.Ytadfimimkkimmaa
end
