/- Texts put together: Rows2, GfAid, RefGf, Chg, DskMem, GeoCap, Plain. -/
import Derived.Test.YtadmofpipfdedaaSaaa
import Derived.Deep.Matrix
import Derived.Deep.MidRow
import Derived.Test.YtadmofpipfdedaaRows
section
namespace Go.Proofs.Ytadmofpipfdedaa
open Go.ChangeShapes Go.WideShapes Go.ChangeAt Go.RowKit

section
variable {H : Type} {enc : TypeId × Value → H} {P : Program}
end

end Go.Proofs.Ytadmofpipfdedaa
end
section
namespace Go.Proofs.Ytadmofpipfdedaa
open Go.RowKit

theorem i64_xor_small (a b : Nat) (ha : a < 1024) (hb : b < 1024) : bits .xor .i64 (a : Int) (b : Int) = ((a ^^^ b : Nat) : Int) := by
  have hx : a ^^^ b < 2 ^ 10 := Nat.xor_lt_two_pow (by omega) (by omega)
  have o : ∀ n : Nat, n < 1024 → (BitVec.ofInt 64 (n : Int)).toNat = n := fun n hn => by rw [BitVec.ofInt_natCast, BitVec.toNat_ofNat]; exact Nat.mod_eq_of_lt (by omega)
  show IntKind.i64.wrap ((BitVec.ofInt 64 (a : Int) ^^^ BitVec.ofInt 64 (b : Int)).toNat : Int) = _
  rw [BitVec.toNat_xor, o a ha, o b hb]
  exact IntWalk.i64_in _ (by omega)
theorem xor285 : ∀ x : Nat, x < 256 → ¬ x < 128 → (2 * x) ^^^ 285 = dbl x := by decide +kernel
end Go.Proofs.Ytadmofpipfdedaa
end
section
namespace Go.Proofs.Ytadmofpipfdedaa
open Go.RowKit

theorem mulF_more (k b : Nat) (h : k < 8) (s x : Nat) : mulF (8 - k) s x (b / 2 ^ k) = mulF (8 - (k + 1)) (if b / 2 ^ k % 2 = 1 then s ^^^ x else s) (dbl x) (b / 2 ^ (k + 1)) := by
  rw [show 8 - k = (8 - (k + 1)) + 1 from by omega, mulF_step, Nat.div_div_eq_div_mul, ← Nat.pow_succ]
theorem bit_any (b k : Nat) (hb : b < 256) : bits .and .u8 ((b : Int) / 2 ^ k) 1 = ((b / 2 ^ k % 2 : Nat) : Int) := by
  have hlt : b / 2 ^ k < 256 := Nat.lt_of_le_of_lt (Nat.div_le_self _ _) hb
  have := u8_and_nat (b / 2 ^ k) 1 hlt (by decide)
  rw [nat_mask1] at this
  rw [← this]
  simp
theorem refMul_any (a b : Nat) (ha : a < 256) (hb : b < 256) (w : World) : Calls Try.prog 85 #[.int .u8 (a : Int), .int .u8 (b : Int)] w fun e w' => e = .returned (.int .u8 ((gmul a b : Nat) : Int)) ∧ w' = w := by
  go_enter Try.func85, Try.ntmps85
  go_wp2
  go_loop [5, 6, 7] (fun vx vs vk => ∃ k s x : Nat, k ≤ 8 ∧ s < 256 ∧ x < 256 ∧ vx = .int .i64 (x : Int) ∧ vs = .int .i64 (s : Int) ∧ vk = .int .i64 (k : Int) ∧ Hid (mulF (8 - k) s x (b / 2 ^ k) = gmul a b)) (fun _ _ vk => 8 - (intOf vk).toNat)
  case atStart => exact ⟨0, 0, a, by omega, by decide, ha, rfl, rfl, rfl, (by rw [Nat.pow_zero, Nat.div_one]; rfl : mulF (8 - 0) 0 a (b / 2 ^ 0) = gmul a b)⟩
  case round =>
    obtain ⟨k, s, x, hk, hs, hx, rfl, rfl, rfl, Hm⟩ := hrel
    by_cases h8 : k < 8
    · have hdx := dbl_lt x hx
      have hxl := xor_lt8 hs hx
      have ex := i64_xor_small s x (by omega) (by omega)
      have e0 := bit_any b k hb
      have Hk := Lib.hid ((mulF_more k b h8 s x).symm.trans Hm.out)
      clear Hm
      by_cases hbit : b / 2 ^ k % 2 = 1
      · rw [hbit, show ((1 : Nat) : Int) = 1 from rfl] at e0
        have Hr : Hid (mulF (8 - (k + 1)) (s ^^^ x) (dbl x) (b / 2 ^ (k + 1)) = gmul a b) := by have := Hk.out; rw [if_pos hbit] at this; exact this
        clear Hk hbit
        by_cases h : x < 128
        · have Hd : Hid (dbl x = 2 * x) := if_pos h
          go_wp2
          go_round
          case rel => exact ⟨k + 1, (s ^^^ x), dbl x, by omega, by assumption, hdx, by rw [Hd.out]; go_num, rfl, by go_num, Hr⟩
          case measure => simp [intOf]; omega
        · have e1 := i64_xor_small (2 * x) 285 (by omega) (by omega)
          have e2 : ((2 * x : Nat) : Int) = (x : Int) * 2 := by omega
          rw [e2, xor285 x hx h, show ((285 : Nat) : Int) = 285 from rfl] at e1
          clear e2
          go_wp2
          go_round
          case rel => exact ⟨k + 1, (s ^^^ x), dbl x, by omega, by assumption, hdx, rfl, rfl, by go_num, Hr⟩
          case measure => simp [intOf]; omega
      · rw [show b / 2 ^ k % 2 = 0 from by omega, show ((0 : Nat) : Int) = 0 from rfl] at e0
        have Hr : Hid (mulF (8 - (k + 1)) s (dbl x) (b / 2 ^ (k + 1)) = gmul a b) := by have := Hk.out; rw [if_neg hbit] at this; exact this
        clear Hk hbit
        by_cases h : x < 128
        · have Hd : Hid (dbl x = 2 * x) := if_pos h
          go_wp2
          go_round
          case rel => exact ⟨k + 1, s, dbl x, by omega, by assumption, hdx, by rw [Hd.out]; go_num, rfl, by go_num, Hr⟩
          case measure => simp [intOf]; omega
        · have e1 := i64_xor_small (2 * x) 285 (by omega) (by omega)
          have e2 : ((2 * x : Nat) : Int) = (x : Int) * 2 := by omega
          rw [e2, xor285 x hx h, show ((285 : Nat) : Int) = 285 from rfl] at e1
          clear e2
          go_wp2
          go_round
          case rel => exact ⟨k + 1, s, dbl x, by omega, by assumption, hdx, rfl, rfl, by go_num, Hr⟩
          case measure => simp [intOf]; omega
    · obtain rfl : k = 8 := by omega
      have Hr : Hid (s = gmul a b) := Hm.out
      clear Hm
      go_wp2
      go_ret
      exact ⟨ret_int (congrArg Nat.cast Hr.out), rfl⟩
end Go.Proofs.Ytadmofpipfdedaa
end
section
namespace Go.Proofs.Ytadmofpipfdedaa
open Go.RowKit

structure Chg (F : Nat → Prop) (w w' : World) : Prop where
  os : w'.os = w.os
  tape : w'.tape = w.tape
  output : w'.output = w.output
  size : w.heap.size ≤ w'.heap.size
  block : ∀ k, k < w.heap.size → ¬ F k → w'.heap[k]? = w.heap[k]?
section
variable {F G : Nat → Prop} {a b c : World}
theorem Chg.refl (F : Nat → Prop) (w : World) : Chg F w w := ⟨rfl, rfl, rfl, Nat.le_refl _, fun _ _ _ => rfl⟩
theorem Chg.trans (h : Chg F a b) (k : Chg G b c) (hs : ∀ i, i < a.heap.size → G i → F i) : Chg F a c :=
  ⟨k.os.trans h.os, k.tape.trans h.tape, k.output.trans h.output, Nat.le_trans h.size k.size, fun i hi hn => (k.block i (Nat.lt_of_lt_of_le hi h.size) fun hg => hn (hs i hi hg)).trans (h.block i hi hn)⟩
theorem Chg.mono (h : Chg F a b) (hs : ∀ i, i < a.heap.size → F i → G i) : Chg G a b := ⟨h.os, h.tape, h.output, h.size, fun i hi hn => h.block i hi fun hf => hn (hs i hi hf)⟩
theorem chg_below (F : Nat → Prop) (h : Below a.heap.size a b) : Chg F a b := ⟨h.os, h.tape, h.output, h.size, fun i hi _ => h.block i hi⟩
theorem chg_grown {row : Option Nat} (h : a.grownBy b row) : Chg (fun k => row = some k) a b := ⟨h.os, h.tape, h.output, h.size, fun i hi hn => h.block i hi fun e => hn e.symm⟩
theorem Chg.below {B : Nat} (h : Chg F a b) (hF : ∀ k, F k → B ≤ k) (hB : B ≤ a.heap.size) : Below B a b := ⟨h.os, h.tape, h.output, h.size, fun i hi => h.block i (by omega) fun hf => by have := hF i hf; omega⟩
theorem Chg.ofDrew (h : Chg F a.drew b) : Chg F a b := ⟨h.os, h.tape, h.output, h.size, h.block⟩
end

/-- An own row hangs on its own block alone. -/
theorem own_heap {w w' : World} {B : Nat} {e : TypeId} {size : Nat} {v : Value} {n : Nat} {xs : List Value} (h : w.ownsRow B e size v n xs) (hk : ∀ k, v.ownBlock = some k → w'.heap[k]? = w.heap[k]?) : w'.ownsRow B e size v n xs := by
  refine ⟨h.1, ?_⟩
  rcases h.2 with h1 | ⟨g, cap, cur, rfl, h2, h3, r⟩
  · exact .inl h1
  · exact .inr ⟨g, cap, cur, rfl, h2, (hk g rfl).trans h3, r⟩
theorem own_chg {F : Nat → Prop} {w w' : World} {B : Nat} {e : TypeId} {size : Nat} {v : Value} {n : Nat} {xs : List Value} (h : w.ownsRow B e size v n xs) (hc : Chg F w w') (hn : ∀ k, v.ownBlock = some k → ¬ F k) : w'.ownsRow B e size v n xs :=
  own_heap h fun k hk => hc.block k (h.lt k hk).2 (hn k hk)
/-- A row of cells with some set. -/
def spl (l : List Value) (o : Nat) (vs : List Value) : List Value := l.take o ++ vs ++ l.drop (o + vs.length)
theorem spl_mid {A X C vs : List Value} {o : Nat} (ho : A.length = o) (hx : X.length = vs.length) : spl (A ++ X ++ C) o vs = A ++ vs ++ C := by
  unfold spl
  subst ho
  have e1 : (A ++ X ++ C).take A.length = A := by rw [List.append_assoc, List.take_left]
  have e2 : (A ++ X ++ C).drop (A.length + vs.length) = C := by rw [← hx, ← List.length_append, List.drop_left]
  rw [e1, e2]
theorem spl_len {l vs : List Value} {o : Nat} (h : o + vs.length ≤ l.length) : (spl l o vs).length = l.length := by
  unfold spl; simp; omega

section
variable {P : Program}
theorem run_storeVar_blk (w : World) (b o : Nat) (ty : TypeId) (v : Value) (cur : List Value) (t : TypeId) (hb : w.heap[b]? = some (.cells cur.toArray t (0, 0))) (hi : (P.info? ty).map (·.size) = some v.cells.size)
    (ho : o + v.cells.size ≤ cur.length) (h1 : ∀ u ∈ v.cells.toList, u.oneCell' = true) : (storeVar ty ⟨b, o, none⟩ v).run P w = .ok () (w.setRow b (spl cur o v.cells.toList).toArray) := by
  have h := run_storeCells_at P b o t v.cells.toList 0 cur.toArray w hb (by simpa using ho) h1
  cases hq : P.info? ty with
  | none => simp [hq] at hi
  | some i =>
    have hs : v.cells.size = i.size := by simp [hq] at hi; omega
    simp only [Nat.add_zero] at h
    simp [storeVar, sizeOf, typeInfo, hq, hs, h, spl]
theorem wpList_store_blk {ops : Array Oper} {rest : List Oper} {op : Oper} {a : Act} {w : World} {Q : Exit → Act → World → Prop} (hgd : op.guard = none) (ty : TypeId) (x y : Operand) (ho : op.op = .store ty x y)
    (b o : Nat) (v : Value) (hx : a.eval x = .pointer (some ⟨b, o, none⟩)) (hy : a.eval y = v) (cur : List Value) (t : TypeId) (hb : w.heap[b]? = some (.cells cur.toArray t (0, 0)))
    (vs : List Value) (hvs : v.cells = vs.toArray) (n : Nat) (hn : vs.length = n) (hi : (P.info? ty).map (·.size) = some n) (hl : o + n ≤ cur.length) (h1 : ∀ u ∈ vs, u.oneCell' = true)
    (new : List Value) (hnew : spl cur o vs = new)
    (h : ∀ w', w'.heap[b]? = some (.cells new.toArray t (0, 0)) → w.grownBy w' (some b) → wpList P ops Q rest (a.put op.dst undef) w') : wpList P ops Q (op :: rest) a w := by
  subst hn hnew
  refine wpList_plain hgd fun K hK => ?_
  have hr := run_storeVar_blk (P := P) w b o ty v cur t hb (by rw [hi, hvs]; rfl) (by rw [hvs]; exact hl) (by rw [hvs]; exact h1)
  unfold Oper.wp execOp
  simp only [ho, hx, hy, Instr.storeAt, Instr.sureAddr, Sem.run_bind, Sem.run_pure, Result.andThen_ok, hr]
  refine hK _ _ (h _ ?_ ?_)
  · rw [hvs]; exact setRow_heap w b _ _ t (0, 0) hb
  · exact ⟨rfl, rfl, rfl, by simp, fun k _ hk => setRow_other w b k _ (fun e => hk (by rw [e]))⟩
theorem wpList_build_run {ops : Array Oper} {rest : List Oper} {op : Oper} {a : Act} {w : World} {Q : Exit → Act → World → Prop} (hgd : op.guard = none) (t : TypeId) (parts : Array (Nat × Operand)) (ho : op.op = .build t parts)
    (ps : Array (Nat × Value)) (hps : parts.map (fun (i, x) => (i, a.eval x)) = ps) (v : Value) (hr : (Instr.build t ps).run P w = .ok v w)
    (h : wpList P ops Q rest (a.put op.dst v) w) : wpList P ops Q (op :: rest) a w := by
  subst hps
  refine wpList_plain hgd fun K hK => ?_
  unfold Oper.wp execOp
  simp only [ho, Sem.run_bind, Sem.run_pure, Result.andThen_ok, hr]
  exact hK _ _ h
end
end Go.Proofs.Ytadmofpipfdedaa
end
section
namespace Go.Proofs.Ytadmofpipfdedaa
open Go.RowKit

def dcells (S N : List UInt8) (pv : Value) (f : Bool) : List Value := S.map bv ++ N.map bv ++ ([pv, Value.bool f] : List Value)
def wcell (p : Nat × List UInt8) : List Value := Value.int .i64 (p.1 : Int) :: p.2.map bv
def wcells (ps : List (Nat × List UInt8)) : List Value := ps.flatMap wcell
/-- The disk D lies at block b; its pending writes are the own row pv. -/
structure DskAt (w : World) (B b : Nat) (pv : Value) (D : Dsk) : Prop where
  blk : w.heap[b]? = some (.cells (dcells D.S D.now pv D.f).toArray 99 (0, 0))
  own : w.ownsRow B 102 33 pv D.ps.length (wcells D.ps)
  le : B ≤ b
  ne : pv.ownBlock ≠ some b
  ok : D.Ok
/-- The blocks of a disk. -/
def DF (b : Nat) (pv : Value) (k : Nat) : Prop := k = b ∨ pv.ownBlock = some k
/-- Its pending writes lie where they lay, or in new memory. -/
def NewOr (w : World) (pv pv' : Value) : Prop := ∀ k, pv'.ownBlock = some k → pv.ownBlock = some k ∨ w.heap.size ≤ k
section
variable {w w' : World} {B b : Nat} {pv : Value} {D : Dsk}
theorem DskAt.lt (h : DskAt w B b pv D) : b < w.heap.size := (Array.getElem?_eq_some_iff.1 h.blk).1
theorem DskAt.plt (h : DskAt w B b pv D) : ∀ k, pv.ownBlock = some k → B ≤ k ∧ k < w.heap.size := h.own.lt
theorem DskAt.heap (h : DskAt w B b pv D) (hb : w'.heap[b]? = w.heap[b]?) (hp : ∀ k, pv.ownBlock = some k → w'.heap[k]? = w.heap[k]?) : DskAt w' B b pv D :=
  ⟨hb.trans h.blk, own_heap h.own hp, h.le, h.ne, h.ok⟩
theorem DskAt.chg {F : Nat → Prop} (h : DskAt w B b pv D) (hc : Chg F w w') (hb : ¬ F b) (hp : ∀ k, pv.ownBlock = some k → ¬ F k) : DskAt w' B b pv D :=
  h.heap (hc.block b h.lt hb) fun k hk => hc.block k (h.plt k hk).2 (hp k hk)
theorem DskAt.below (h : DskAt w B b pv D) (hc : Below w.heap.size w w') : DskAt w' B b pv D :=
  h.heap (hc.block b h.lt) fun k hk => hc.block k (h.plt k hk).2
theorem DskAt.mono {B' : Nat} (h : DskAt w B b pv D) (hB : B' ≤ B) : DskAt w B' b pv D :=
  ⟨h.blk, by
    refine ⟨h.own.1, ?_⟩
    rcases h.own.2 with h1 | ⟨g, cap, cur, h1, h2, r⟩
    · exact .inl h1
    · exact .inr ⟨g, cap, cur, h1, by omega, r⟩, by have := h.le; omega, h.ne, h.ok⟩
theorem DF.le (h : DskAt w B b pv D) {k : Nat} (hk : DF b pv k) : B ≤ k := by
  rcases hk with rfl | hk
  · exact h.le
  · exact (h.plt k hk).1
theorem NewOr.refl (w : World) (pv : Value) : NewOr w pv pv := fun _ h => .inl h
theorem dcells_len {S N : List UInt8} (hS : S.length = 1664) (hN : N.length = 1664) (pv : Value) (f : Bool) : (dcells S N pv f).length = 3330 := by
  unfold dcells; simp [hS, hN]
theorem wcell_len {p : Nat × List UInt8} (h : p.2.length = 32) : (wcell p).length = 33 := by unfold wcell; simp [h]
theorem wcells_snoc (ps : List (Nat × List UInt8)) (p : Nat × List UInt8) : wcells (ps ++ [p]) = wcells ps ++ wcell p := by unfold wcells; simp
theorem dcells_pv {S N : List UInt8} (hS : S.length = 1664) (hN : N.length = 1664) (pv : Value) (f : Bool) : (dcells S N pv f)[3328]? = some pv := by
  unfold dcells
  rw [List.getElem?_append_right (by simp [hS, hN])]
  simp [hS, hN]
theorem dcells_f {S N : List UInt8} (hS : S.length = 1664) (hN : N.length = 1664) (pv : Value) (f : Bool) : (dcells S N pv f)[3329]? = some (.bool f) := by
  unfold dcells
  rw [List.getElem?_append_right (by simp [hS, hN])]
  simp [hS, hN]
theorem dcells_S {S N : List UInt8} (pv : Value) (f : Bool) {i : Nat} (hi : i < S.length) : (dcells S N pv f)[i]? = S[i]?.map bv := by
  unfold dcells
  rw [List.append_assoc, List.getElem?_append_left (by simpa using hi), List.getElem?_map]
theorem dcells_N {S N : List UInt8} (hS : S.length = 1664) (pv : Value) (f : Bool) {i : Nat} (hi : i < N.length) : (dcells S N pv f)[1664 + i]? = N[i]?.map bv := by
  unfold dcells
  rw [List.append_assoc, List.getElem?_append_right (by simp [hS]), List.getElem?_append_left (by simp [hS]; omega)]
  simp [hS]
section
variable {S N : List UInt8} {f : Bool} {t : TypeId}
theorem cell_dpv (hb : w.heap[b]? = some (.cells (dcells S N pv f).toArray t (0, 0))) (hS : S.length = 1664) (hN : N.length = 1664) : w.cell? ⟨b, 3328, none⟩ = some pv := by
  rw [cell_of_row w b _ _ t (0, 0) hb, List.getElem?_toArray]; exact dcells_pv hS hN pv f
theorem cell_df (hb : w.heap[b]? = some (.cells (dcells S N pv f).toArray t (0, 0))) (hS : S.length = 1664) (hN : N.length = 1664) : w.cell? ⟨b, 3329, none⟩ = some (.bool f) := by
  rw [cell_of_row w b _ _ t (0, 0) hb, List.getElem?_toArray]; exact dcells_f hS hN pv f
theorem range_S (hb : w.heap[b]? = some (.cells (dcells S N pv f).toArray t (0, 0))) : w.rangeAt b 0 (S.map bv) := fun j v hj => by
  have hl : j < S.length := by have := (List.getElem?_eq_some_iff.1 hj).1; simpa using this
  rw [cell_of_row w b _ _ t (0, 0) hb, List.getElem?_toArray, Nat.zero_add, dcells_S pv f hl, ← hj, List.getElem?_map]
theorem range_N (hb : w.heap[b]? = some (.cells (dcells S N pv f).toArray t (0, 0))) (hS : S.length = 1664) : w.rangeAt b 1664 (N.map bv) := fun j v hj => by
  have hl : j < N.length := by have := (List.getElem?_eq_some_iff.1 hj).1; simpa using this
  rw [cell_of_row w b _ _ t (0, 0) hb, List.getElem?_toArray, dcells_N hS pv f hl, ← hj, List.getElem?_map]
theorem range_sec {L : List UInt8} {o k : Nat} (h : w.rangeAt b o (L.map bv)) : w.rangeAt b (o + k * 32) ((secAt L k).map bv) := fun j v hj => by
  rw [List.getElem?_map, secAt_get] at hj
  split at hj
  · rw [Nat.add_assoc]
    exact h (k * 32 + j) v (by rw [List.getElem?_map]; exact hj)
  · cases hj
theorem spl_pv {pv' : Value} (hS : S.length = 1664) (hN : N.length = 1664) : spl (dcells S N pv f) 3328 [pv'] = dcells S N pv' f := by
  unfold dcells
  rw [show (S.map bv ++ N.map bv ++ [pv, Value.bool f]) = S.map bv ++ N.map bv ++ [pv] ++ [Value.bool f] by simp]
  exact (spl_mid (A := S.map bv ++ N.map bv) (X := [pv]) (C := [Value.bool f]) (vs := [pv']) (o := 3328) (by simp [hS, hN]) rfl).trans (by simp)
theorem map_put {L x : List UInt8} {k : Nat} : (putAt L k x).map bv = (L.take (k * 32)).map bv ++ x.map bv ++ (L.drop (k * 32 + 32)).map bv := by unfold putAt; simp
theorem map_sec {L : List UInt8} {k : Nat} : L.map bv = (L.take (k * 32)).map bv ++ (secAt L k).map bv ++ (L.drop (k * 32 + 32)).map bv := by
  rw [← map_put, put_sec]
theorem spl_Ssec {x : List UInt8} {k : Nat} (hS : S.length = 1664) (hk : k < 52) (hx : x.length = 32) : spl (dcells S N pv f) (k * 32) (x.map bv) = dcells (putAt S k x) N pv f := by
  have hs : (secAt S k).length = 32 := secAt_len (by omega)
  unfold dcells
  rw [map_put, map_sec (L := S) (k := k)]
  generalize hT : (S.drop (k * 32 + 32)).map bv = T
  rw [List.append_assoc (_ ++ _) T, List.append_assoc (_ ++ _) (T ++ _), List.append_assoc (_ ++ _) T, List.append_assoc (_ ++ _) (T ++ _)]
  exact spl_mid (by rw [List.length_map, List.length_take]; omega) (by simp [hs, hx])
theorem spl_Nsec {x : List UInt8} {k : Nat} (hS : S.length = 1664) (hN : N.length = 1664) (hk : k < 52) (hx : x.length = 32) : spl (dcells S N pv f) (1664 + k * 32) (x.map bv) = dcells S (putAt N k x) pv f := by
  have hs : (secAt N k).length = 32 := secAt_len (by omega)
  unfold dcells
  rw [map_put, map_sec (L := N) (k := k)]
  generalize hT : (N.drop (k * 32 + 32)).map bv = T
  generalize hT2 : (N.take (k * 32)).map bv = T2
  have e : ∀ X : List Value, S.map bv ++ (T2 ++ X ++ T) ++ [pv, Value.bool f] = (S.map bv ++ T2) ++ X ++ (T ++ [pv, Value.bool f]) := fun X => by simp
  rw [e, e]
  exact spl_mid (by rw [List.length_append, List.length_map, ← hT2, List.length_map, List.length_take]; omega) (by simp [hs, hx])
end
end
theorem size_sec : (Try.prog.info? 95).map (·.size) = some 32 := by kernel_rfl
theorem size_pend : (Try.prog.info? 97).map (·.size) = some 1 := by kernel_rfl
theorem build_new (w : World) : (Instr.build 99 #[]).run Try.prog w = .ok (.agg (dcells (List.replicate 1664 0) (List.replicate 1664 0) (.slice none 0 0) false).toArray) w := by kernel_rfl
end Go.Proofs.Ytadmofpipfdedaa
end
section
namespace Go.Proofs.Ytadmofpipfdedaa
open Go.RowKit

end Go.Proofs.Ytadmofpipfdedaa
end
section
namespace Go.Proofs.Ytadmofpipfdedaa
open Go.ChangeShapes Go.WideShapes Go.ChangeAt Go.RowKit

theorem laidOut : laidOutB Try.prog = true := by kernel_rfl
theorem own : ownKnob Try.prog.godebug = none := by kernel_rfl
end Go.Proofs.Ytadmofpipfdedaa
end
