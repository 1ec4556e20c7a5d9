/- BenchCrash: plain; a bench, and beside it three slices of numbers. -/
import Derived.Test.YtpiilfgikgkneaaBchP
import Derived.Test.YtpiilfgikgkneaaMdl
import Derived.Test.YtpiilfgikgkneaaDskLeft
namespace Go.Proofs.Ytpiilfgikgkneaa
open Go.RowKit

def secW (d a : Nat) : List UInt8 := sectorB (10 * (d : Int) + (a : Int) + 1)
def wrD (d n : Nat) : List (Nat × List UInt8) := (List.range n).map fun a => (a, secW d a)
theorem wrD_succ (d n : Nat) : wrD d (n + 1) = wrD d n ++ [(n, secW d n)] := by unfold wrD; rw [List.range_succ, List.map_append]; rfl
theorem wrD_len (d n : Nat) : (wrD d n).length = n := by unfold wrD; simp
theorem wrD_ok (d : Nat) : ∀ n, n ≤ 52 → WOk (wrD d n)
  | 0, _ => WOk.nil
  | n + 1, h => by rw [wrD_succ]; exact (wrD_ok d n (by omega)).snoc (by omega) (sectorB_len _)
theorem kept_last (d : Nat) (ks : List Bool) (a : Nat) : ∀ n, lastOf (keptOf (wrD d n) ks) a = if a < n ∧ ks.getD a false = true then some (secW d a) else none
  | 0 => by rw [if_neg (by omega)]; rfl
  | n + 1 => by
    have ih := kept_last d ks a n
    rw [wrD_succ, keptOf_snoc, wrD_len]
    show lastOf (_ ++ (if ks.getD n false = true then [(n, secW d n)] else [])) a = _
    by_cases c : ks.getD n false = true
    · rw [if_pos c, lastOf_snoc]
      by_cases e : n = a
      · rw [if_pos e, if_pos ⟨by omega, by rw [← e]; exact c⟩, ← e]
      · rw [if_neg e, ih]
        by_cases h : a < n ∧ ks.getD a false = true
        · rw [if_pos h, if_pos ⟨by omega, h.2⟩]
        · rw [if_neg h, if_neg (fun h2 => h ⟨by omega, h2.2⟩)]
    · rw [if_neg c, List.append_nil, ih]
      by_cases h : a < n ∧ ks.getD a false = true
      · rw [if_pos h, if_pos ⟨by omega, h.2⟩]
      · rw [if_neg h, if_neg (fun h2 => by
          by_cases e : a = n
          · rw [e] at h2; exact c h2.2
          · exact h ⟨by omega, h2.2⟩)]
def NB (c : Nat → Nat) (m : Nat) : Bch := ⟨3, fun d => ⟨zeroS, wrD d (c d), false⟩, m, -1, false⟩
theorem NB_zero : NB (fun _ => 0) 0 = Bch.new 3 := rfl
theorem NB_step (c : Nat → Nat) (m : Nat) {d : Nat} (hd : d < 3) (hn : c d < 52) : (NB c m).writeE (d : Int) ((c d : Nat) : Int) 32 = 0 ∧ (NB c m).write (d : Int) ((c d : Nat) : Int) (secW d (c d)) = NB (upd c d (c d + 1)) (m + 1) := by
  have hw := Bch.write_ok (N := NB c m) (d := d) (k := c d) (x := secW d (c d)) hd hn (sectorB_len _) rfl rfl (by show (-1 : Int) ≠ 0; omega)
  rw [show (secW d (c d)).length = 32 from sectorB_len _, Bch.count_free rfl] at hw
  refine ⟨hw.1, hw.2.trans ?_⟩
  show (⟨3, upd (NB c m).D d _, m + 1, -1, false⟩ : Bch) = ⟨3, _, m + 1, -1, false⟩
  congr 1
  funext j
  by_cases e : j = d
  · rw [e, upd_same, upd_same, wrD_succ]; rfl
  · rw [upd_other _ _ e, upd_other _ _ e]; rfl
theorem NB_ps (c : Nat → Nat) (m : Nat) (hc : ∀ d, d < 3 → c d ≤ 20) (j : Nat) (hj : j < 3) : ((NB c m).D j).ps.length ≤ 2000000 := by
  have := hc j hj
  show (wrD j (c j)).length ≤ _
  rw [wrD_len]; omega
def sumC (c : Nat → Nat) : Nat → Nat
  | 0 => 0
  | t + 1 => sumC c t + c t
theorem NB_offs (c : Nat → Nat) (m t : Nat) : offs (NB c m).D t = sumC c t := by
  induction t with
  | zero => rfl
  | succ t ih =>
    show offs (NB c m).D t + (wrD t (c t)).length = sumC c t + c t
    rw [ih, wrD_len]
theorem NB_sec (c : Nat → Nat) (m : Nat) (ks : List Bool) {t a : Nat} (ht : t < 3) (ha : a < c t) (hc : c t ≤ 20) :
    secAt (((NB c m).crash ks).D t).now a = if ks.getD (sumC c t + a) false = true then secW t a else List.replicate 32 0 := by
  have hD : ((NB c m).crash ks).D t = (⟨zeroS, wrD t (c t), false⟩ : Dsk).crash (ks.drop (offs (NB c m).D t)) := if_pos ht
  rw [hD, Dsk.crash_now, NB_offs]
  show secAt (nowOf zeroS (keptOf (wrD t (c t)) (ks.drop (sumC c t)))) a = _
  rw [nowOf_sec zeroS_len (WOk.kept (wrD_ok _ _ (by omega))) _ (by omega), kept_last, show (ks.drop (sumC c t)).getD a false = ks.getD (sumC c t + a) false by simp]
  by_cases h : ks.getD (sumC c t + a) false = true
  · rw [if_pos ⟨ha, h⟩, if_pos h]; rfl
  · rw [if_neg (fun e => h e.2), if_neg h]; exact sec_zero (by omega)
theorem crash_f (c : Nat → Nat) (m : Nat) (ks : List Bool) (t : Nat) : (((NB c m).crash ks).D t).f = false := by
  show (if t < 3 then _ else _ : Dsk).f = false
  split <;> rfl
theorem crash_pend (c : Nat → Nat) (m : Nat) (ks : List Bool) : ∀ t, t < 3 → (((NB c m).crash ks).D t).ps = [] := fun t ht => by
  show (if t < 3 then _ else _ : Dsk).ps = []
  rw [if_pos ht]; rfl
/-- Numbers from 0 on. -/
def nums (n : Nat) : List Value := (List.range n).map fun a : Nat => Value.int .i64 (a : Int)
theorem nums_succ (n : Nat) : nums (n + 1) = nums n ++ [.int .i64 (n : Int)] := by unfold nums; rw [List.range_succ, List.map_append]; rfl
theorem nums_len (n : Nat) : (nums n).length = n := by unfold nums; simp
theorem nums_get {n k : Nat} (h : k < n) : (nums n)[k]? = some (.int .i64 (k : Int)) := by unfold nums; simp [h]
def trio (v : Nat → Value) : List Value := [v 0, v 1, v 2]
theorem trio_get (v : Nat → Value) {d : Nat} (hd : d < 3) : (trio v)[d]? = some (v d) := by
  match d, hd with
  | 0, _ => rfl
  | 1, _ => rfl
  | 2, _ => rfl
theorem trio_set (v : Nat → Value) {d : Nat} (hd : d < 3) (x : Value) : spl (trio v) d [x] = trio (upd v d x) := by
  match d, hd with
  | 0, _ => rfl
  | 1, _ => rfl
  | 2, _ => rfl
/-- A bench, and beside it, at block pb, three slices of numbers. -/
structure PD (W w : World) (b : Nat) (H : BH) (N : Bch) (pb : Nat) (c : Nat → Nat) (v : Nat → Value) : Prop where
  p : BP W w b H N
  blk : w.heap[pb]? = some (.cells (trio v).toArray 28 (0, 0))
  own : ∀ d, d < 3 → w.ownsRow W.heap.size 3 1 (v d) (c d) (nums (c d))
  le : W.heap.size ≤ pb
  off : ¬ BF b H N.n pb
  offv : ∀ d k, d < 3 → (v d).ownBlock = some k → ¬ BF b H N.n k ∧ k ≠ pb
  ap : ∀ d e k, d < 3 → e < 3 → d ≠ e → (v d).ownBlock = some k → (v e).ownBlock ≠ some k
section
variable {W w w' : World} {b : Nat} {H : BH} {N : Bch} {pb : Nat} {c : Nat → Nat} {v : Nat → Value}
theorem PD.plt (h : PD W w b H N pb c v) : pb < w.heap.size := (Array.getElem?_eq_some_iff.1 h.blk).1
theorem PD.grow (h : PD W w b H N pb c v) (hb : Below w.heap.size w w') : PD W w' b H N pb c v :=
  ⟨h.p.grow hb, (hb.block pb h.plt).trans h.blk, fun d hd => own_heap (h.own d hd) fun k hk => hb.block k ((h.own d hd).lt k hk).2, h.le, h.off, h.offv, h.ap⟩
theorem PD.bench (h : PD W w b H N pb c v) {N' : Bch} (hn : N'.n = N.n) (hc : BC W w w' b H N.n N') : ∃ H', PD W w' b H' N' pb c v := by
  obtain ⟨H', hp, hg, hm⟩ := hc
  refine ⟨H', hp, (hg.block pb h.plt h.off).trans h.blk, fun d hd => own_chg (h.own d hd) hg fun k hk => (h.offv d k hd hk).1, h.le, ?_, ?_, h.ap⟩
  · rw [hn]; intro e
    rcases hm pb e with e | e
    · exact h.off e
    · have := h.plt; omega
  · intro d k hd hk
    refine ⟨?_, (h.offv d k hd hk).2⟩
    rw [hn]; intro e
    rcases hm k e with e | e
    · exact (h.offv d k hd hk).1 e
    · have := ((h.own d hd).lt k hk).2; omega
theorem PD.cell (h : PD W w b H N pb c v) {d : Nat} (hd : d < 3) : w.cell? ⟨pb, d, none⟩ = some (v d) := by
  rw [cell_of_row w pb d _ _ _ h.blk, List.getElem?_toArray]; exact trio_get v hd
theorem PD.push {w1 w2 w3 : World} {v' : Value} {d : Nat} (h : PD W w b H N pb c v) (hd : d < 3) (h1 : Below w.heap.size w w1) (ho : w2.ownsRow W.heap.size 3 1 v' (c d + 1) (nums (c d) ++ [.int .i64 ((c d : Nat) : Int)]))
    (hg : w1.grownBy w2 (v d).ownBlock) (hat : v'.ownBlock = (v d).ownBlock ∨ v'.ownBlock = some w1.heap.size) (hb3 : w3.heap[pb]? = some (.cells (spl (trio v) d [v']).toArray 28 (0, 0))) (hg3 : w2.grownBy w3 (some pb)) :
    PD W w3 b H N pb (upd c d (c d + 1)) (upd v d v') := by
  have P1 := h.grow h1
  have hF : ∀ k, (v d).ownBlock = some k → W.heap.size ≤ k ∧ ¬ BF b H N.n k ∧ k ≠ pb := fun k e => ⟨((h.own d hd).lt k e).1, h.offv d k hd e⟩
  have hc2 := chg_grown hg
  have hc3 := chg_grown hg3
  have hp2 : BP W w2 b H N := P1.p.chg hc2 (fun k e => (hF k e).1) (fun k hk e => (hF k e).2.1 hk)
  have hnew : ∀ k, v'.ownBlock = some k → (v d).ownBlock = some k ∨ w1.heap.size ≤ k := fun k e => by
    rcases hat with h | h
    · exact .inl (by rw [← h]; exact e)
    · rw [h] at e; injection e with e; exact .inr (by omega)
  have hbf : ∀ k, BF b H N.n k → k < w1.heap.size := fun k hk => (P1.p.at'.flt hk).2
  have hpl := P1.plt
  have hv'pb : ∀ k, v'.ownBlock = some k → ¬ BF b H N.n k ∧ k ≠ pb := fun k e => by
    rcases hnew k e with e | e
    · exact (hF k e).2
    · exact ⟨fun hk => by have := hbf k hk; omega, by omega⟩
  refine ⟨hp2.chg hc3 (fun k e => by injection e with e; rw [← e]; exact h.le) (fun k hk e => h.off (by injection e with e; rw [e]; exact hk)), by rw [← trio_set v hd]; exact hb3, ?_, h.le, h.off, ?_, ?_⟩
  · intro e he
    by_cases c1 : e = d
    · subst c1
      rw [upd_same, upd_same, nums_succ]
      exact own_chg ho hc3 fun k hk e => (hv'pb k hk).2 (by injection e with e; exact e.symm)
    · rw [upd_other _ _ c1, upd_other _ _ c1]
      exact own_chg (own_chg (P1.own e he) hc2 fun k hk e2 => h.ap e d k he hd c1 hk e2) hc3 fun k hk e2 => (h.offv e k he hk).2 (by injection e2 with e2; exact e2.symm)
  · intro e k he
    by_cases c1 : e = d
    · subst c1; rw [upd_same]; exact hv'pb k
    · rw [upd_other _ _ c1]; exact h.offv e k he
  · intro e f k he hf hef
    by_cases c1 : e = d
    · subst c1
      rw [upd_same, upd_other _ _ (fun h => hef h.symm)]
      intro hk hk2
      rcases hnew k hk with h1 | h1
      · exact h.ap e f k he hf hef h1 hk2
      · have := ((P1.own f hf).lt k hk2).2; omega
    · rw [upd_other _ _ c1]
      by_cases c2 : f = d
      · subst c2
        rw [upd_same]
        intro hk hk2
        rcases hnew k hk2 with h1 | h1
        · exact h.ap e f k he hf hef hk h1
        · have := ((P1.own e he).lt k hk).2; omega
      · rw [upd_other _ _ c2]; exact h.ap e f k he hf hef
end
theorem size_intss : (Try.prog.info? 22).map (·.size) = some 1 := by kernel_rfl
theorem info_int : (Try.prog.info? 3).map (fun i => (i.zero, i.size, i.bytes)) = some (some (.int .i64 0), 1, 8) := by kernel_rfl
end Go.Proofs.Ytpiilfgikgkneaa
