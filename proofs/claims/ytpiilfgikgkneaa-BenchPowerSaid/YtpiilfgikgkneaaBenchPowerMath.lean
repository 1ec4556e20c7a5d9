/- BenchPower: plain. -/
import Derived.Test.YtpiilfgikgkneaaBchP
import Derived.Test.YtpiilfgikgkneaaMdl
namespace Go.Proofs.Ytpiilfgikgkneaa
open Go.RowKit

def pl (d : Nat) : Nat → List (Nat × List UInt8)
  | 0 => []
  | m + 1 => pl d m ++ (if m % 2 = d then [(m / 2, sectorB (7 * (m : Int) + 1))] else [])
theorem pl_ok (d : Nat) : ∀ m, m ≤ 100 → WOk (pl d m)
  | 0, _ => WOk.nil
  | m + 1, h => by
    unfold pl
    split
    · exact (pl_ok d m (by omega)).snoc (by omega) (sectorB_len _)
    · rw [List.append_nil]; exact pl_ok d m (by omega)
theorem pl_last {d : Nat} (hd : d < 2) (k : Nat) : ∀ m, lastOf (pl d m) k = if 2 * k + d < m then some (sectorB (7 * ((2 * k + d : Nat) : Int) + 1)) else none
  | 0 => rfl
  | m + 1 => by
    have ih := pl_last hd k m
    unfold pl
    by_cases c : m % 2 = d
    · rw [if_pos c, lastOf_snoc]
      by_cases e : m / 2 = k
      · have hm : m = 2 * k + d := by omega
        rw [if_pos e, if_pos (by omega), hm]
      · rw [if_neg e, ih]
        have : 2 * k + d ≠ m := by omega
        by_cases h : 2 * k + d < m
        · rw [if_pos h, if_pos (by omega)]
        · rw [if_neg h, if_neg (by omega)]
    · rw [if_neg c, List.append_nil, ih]
      have : 2 * k + d ≠ m := by omega
      by_cases h : 2 * k + d < m
      · rw [if_pos h, if_pos (by omega)]
      · rw [if_neg h, if_neg (by omega)]
theorem pl_len (m : Nat) : (pl 0 m).length + (pl 1 m).length = m := by
  induction m with
  | zero => rfl
  | succ m ih =>
    unfold pl
    rw [List.length_append, List.length_append]
    rcases Nat.mod_two_eq_zero_or_one m with h | h
    · rw [if_pos h, if_neg (by omega)]; simp; omega
    · rw [if_neg (by omega), if_pos h]; simp; omega
theorem pl_le (d m : Nat) : (pl d m).length ≤ m := by
  induction m with
  | zero => exact Nat.le_refl _
  | succ m ih =>
    unfold pl
    rw [List.length_append]
    split
    · simp; omega
    · simp; omega
/-- The bench behind i writes. -/
def PC (lim i : Nat) : Bch := ⟨2, fun d => ⟨zeroS, pl d (min i lim), false⟩, min i lim, (lim : Int) - (min i lim : Nat), decide (lim < i)⟩
theorem PC_zero (lim : Nat) : (Bch.new 2).limit (lim : Int) = PC lim 0 := by
  unfold Bch.limit PC
  rw [if_neg (by simp [Bch.new]), Nat.zero_min]
  show (⟨2, fun _ => Dsk.new, 0, max (lim : Int) (-1), false⟩ : Bch) = _
  rw [show max (lim : Int) (-1) = (lim : Int) - ((0 : Nat) : Int) by omega]
  rfl
theorem PC_step {lim i : Nat} (hi : i ≤ 30) (x : List UInt8) (hx : x = sectorB (7 * (i : Int) + 1)) :
    (PC lim i).writeE ((i % 2 : Nat) : Int) ((i / 2 : Nat) : Int) 32 = (if i < lim then 0 else 6) ∧ (PC lim i).write ((i % 2 : Nat) : Int) ((i / 2 : Nat) : Int) x = PC lim (i + 1) := by
  have hxl : x.length = 32 := by rw [hx]; exact sectorB_len _
  have hd : i % 2 < (PC lim i).n := Nat.mod_lt _ (by decide)
  have hpk : (PC lim i).pickE ((i % 2 : Nat) : Int) = 0 := Bch.pickE_ok (by omega) (by omega)
  rcases Nat.lt_trichotomy i lim with h | h | h
  · have hdn : (PC lim i).down = false := decide_eq_false (by omega)
    have hl : (PC lim i).left ≠ 0 := by show (lim : Int) - ((min i lim : Nat) : Int) ≠ 0; omega
    have hw := Bch.write_ok (N := PC lim i) (x := x) hd (show i / 2 < 52 by omega) hxl rfl hdn hl
    rw [hxl] at hw
    rw [if_pos h, hw.1, hw.2]
    refine ⟨rfl, ?_⟩
    have hl2 : ((PC lim i).set (i % 2) (((PC lim i).D (i % 2)).write (i / 2) x)).left = (PC lim i).left := rfl
    unfold Bch.count
    rw [hl2, if_neg hl, if_neg (show ¬ (PC lim i).left = -1 by show ¬ (lim : Int) - ((min i lim : Nat) : Int) = -1; omega)]
    show (⟨2, upd (PC lim i).D (i % 2) _, min i lim + 1, (lim : Int) - ((min i lim : Nat) : Int) - 1, decide (lim < i)⟩ : Bch) = ⟨2, _, min (i + 1) lim, (lim : Int) - ((min (i + 1) lim : Nat) : Int), decide (lim < i + 1)⟩
    have e1 : min i lim = i := by omega
    have e2 : min (i + 1) lim = i + 1 := by omega
    rw [e2, e1, show (lim : Int) - (i : Int) - 1 = (lim : Int) - ((i + 1 : Nat) : Int) by omega, decide_eq_false (show ¬ lim < i by omega), decide_eq_false (show ¬ lim < i + 1 by omega)]
    congr 1
    funext j
    by_cases e : j = i % 2
    · rw [e, upd_same]
      show (⟨zeroS, pl (i % 2) (min i lim) ++ [(i / 2, x)], false⟩ : Dsk) = ⟨zeroS, pl (i % 2) (i + 1), false⟩
      rw [e1, hx]
      show _ = (⟨zeroS, pl (i % 2) i ++ (if i % 2 = i % 2 then _ else _), false⟩ : Dsk)
      rw [if_pos rfl]
    · rw [upd_other _ _ e]
      show (⟨zeroS, pl j (min i lim), false⟩ : Dsk) = ⟨zeroS, pl j i ++ (if i % 2 = j then _ else _), false⟩
      rw [if_neg (fun h => e h.symm), List.append_nil, e1]
  · have hdn : (PC lim i).down = false := decide_eq_false (by omega)
    have hl : (PC lim i).left = 0 := by show (lim : Int) - ((min i lim : Nat) : Int) = 0; omega
    have hp : (PC lim i).powE ((i % 2 : Nat) : Int) = 0 := Bch.powE_ok hpk hdn
    have ht : takeE ((PC lim i).at_ ((i % 2 : Nat) : Int)).f ((i / 2 : Nat) : Int) 32 = 0 := takeE_ok (by omega) (by omega)
    constructor
    · unfold Bch.writeE Bch.countE
      rw [if_neg (fun e => e hp), if_neg (fun e => e ht), if_pos hl, if_neg (by omega)]
    · unfold Bch.write
      rw [hxl, if_neg (fun e => e hp), if_neg (fun e => e ht), if_pos hl]
      unfold Bch.count
      rw [if_pos hl]
      unfold PC
      rw [show min (i + 1) lim = min i lim by omega, decide_eq_true (show lim < i + 1 by omega)]
  · have hdn : (PC lim i).down = true := decide_eq_true (by omega)
    have hp : (PC lim i).powE ((i % 2 : Nat) : Int) = 6 := Bch.powE_down hpk hdn
    constructor
    · unfold Bch.writeE
      rw [if_pos (by rw [hp]; simp), hp, if_neg (by omega)]
    · unfold Bch.write
      rw [if_pos (by rw [hp]; simp)]
      unfold PC
      rw [show min (i + 1) lim = min i lim by omega, decide_eq_true (show lim < i + 1 by omega), decide_eq_true (show lim < i by omega)]
theorem PC_pend (lim i : Nat) : (PC lim i).pend = min i lim := by
  show 0 + (pl 0 (min i lim)).length + (pl 1 (min i lim)).length = _
  rw [Nat.zero_add, pl_len]
theorem PC_ps (lim i : Nat) (hi : i ≤ 1000) (j : Nat) : ((PC lim i).D j).ps.length ≤ 2000000 := by
  have := pl_le j (min i lim)
  show (pl j (min i lim)).length ≤ _
  omega
theorem kept_all : ∀ (ps : List (Nat × List UInt8)) (ks : List Bool), ps.length ≤ ks.length → (∀ k ∈ ks, k = true) → keptOf ps ks = ps
  | [], _, _, _ => rfl
  | p :: ps, [], h, _ => by simp at h
  | p :: ps, k :: ks, h, hk => by
    have h1 := hk k (List.mem_cons_self ..)
    subst h1
    show p :: keptOf ps ks = _
    rw [kept_all ps ks (by simpa using h) fun k' hk' => hk k' (List.mem_cons_of_mem _ hk')]
/-- A sector of the bench behind the crash. -/
theorem PC_left (lim n : Nat) (all : Bool) (hn : n ≤ 50) (i : Nat) (hi : i < n) :
    secAt (((PC lim n).crash (List.replicate (if all = true then min n lim else 0) true)).D (i % 2)).now (i / 2) = if all = true ∧ i < min n lim then sectorB (7 * (i : Int) + 1) else List.replicate 32 0 := by
  have h2 : i % 2 < 2 := Nat.mod_lt _ (by decide)
  have hi2 : 2 * (i / 2) + i % 2 = i := by omega
  have hD : ((PC lim n).crash (List.replicate (if all = true then min n lim else 0) true)).D (i % 2) = (⟨zeroS, pl (i % 2) (min n lim), false⟩ : Dsk).crash ((List.replicate (if all = true then min n lim else 0) true).drop (offs (PC lim n).D (i % 2))) := if_pos h2
  rw [hD, Dsk.crash_now]
  show secAt (nowOf zeroS (keptOf (pl (i % 2) (min n lim)) _)) (i / 2) = _
  cases all
  · rw [if_neg (show ¬ false = true by simp), List.replicate_zero, List.drop_nil, keptOf_nil, if_neg (by simp)]
    exact sec_zero (by omega)
  · rw [if_pos rfl, List.drop_replicate, kept_all _ _ (by
      rw [List.length_replicate]
      have := pl_len (min n lim)
      rcases Nat.mod_two_eq_zero_or_one i with h | h
      · rw [h]; show (pl 0 (min n lim)).length ≤ min n lim - 0; omega
      · rw [h]; show (pl 1 (min n lim)).length ≤ min n lim - (0 + (pl 0 (min n lim)).length); omega) (fun k hk => List.eq_of_mem_replicate hk)]
    rw [nowOf_sec zeroS_len (pl_ok _ _ (by omega)) _ (by omega), pl_last h2, hi2]
    by_cases c : i < min n lim
    · rw [if_pos c, if_pos ⟨rfl, c⟩]; rfl
    · rw [if_neg c, if_neg (fun h => c h.2)]
      exact sec_zero (by omega)
theorem info_bool : (Try.prog.info? 4).map (fun i => (i.zero, i.size, i.bytes)) = some (some (.bool false), 1, 1) := by kernel_rfl
/-- A bench, and beside it a slice of so many true. -/
structure KP (W w : World) (b : Nat) (H : BH) (N : Bch) (B0 : Nat) (v : Value) (i : Nat) : Prop where
  p : BP W w b H N
  hb : ∀ k, BF b H N.n k → k < B0
  le : W.heap.size ≤ B0 ∧ B0 ≤ w.heap.size
  own : w.ownsRow B0 4 1 v i (List.replicate i (.bool true))
theorem KP.push {W w w2 : World} {b : Nat} {H : BH} {N : Bch} {B0 : Nat} {v v2 : Value} {i : Nat} {o : Obj} (h : KP W w b H N B0 v i) (ho : w2.ownsRow B0 4 1 v2 (i + 1) (List.replicate i (.bool true) ++ [.bool true])) (hg : (w.alloc o).grownBy w2 v.ownBlock) : KP W w2 b H N B0 v2 (i + 1) := by
  have hF : ∀ k, v.ownBlock = some k → B0 ≤ k := fun k e => (h.own.lt k e).1
  have hc := chg_grown hg
  refine ⟨(h.p.alloc o).chg hc (fun k e => Nat.le_trans h.le.1 (hF k e)) (fun k hk e => by have := h.hb k hk; have := hF k e; omega), h.hb, ⟨h.le.1, ?_⟩, ?_⟩
  · have := hc.size
    have := (below1 w o).size
    have := h.le.2
    omega
  · rw [List.replicate_succ']; exact ho
theorem KP.rd {W w : World} {b : Nat} {H : BH} {N : Bch} {B0 : Nat} {v : Value} {i : Nat} (h : KP W w b H N B0 v i) (hi : i ≤ 1000) :
    ∃ A c q, v = .slice A i c ∧ i ≤ c ∧ RdO w w.heap.size A (List.replicate i true) ∧ (∀ a, A = some a → a.block = q) ∧ ¬ BF b H N.n q := by
  rcases h.own.2 with ⟨rfl, h0⟩ | ⟨g, cap, cur, rfl, hB, hg, hc, _⟩
  · subst h0
    exact ⟨none, 0, B0, rfl, Nat.le_refl _, RdO.nil _ _ _, (fun a e => by cases e), fun hk => by have := h.hb _ hk; omega⟩
  · refine ⟨some ⟨g, 0, none⟩, cap, g, rfl, hc, ⟨by simp; omega, fun _ => ⟨g, 0, rfl, (Array.getElem?_eq_some_iff.1 hg).1, fun k hk => ?_⟩⟩, fun a e => by injection e with e; subst e; rfl, fun hk => by have := h.hb _ hk; omega⟩
    rw [List.length_replicate] at hk
    rw [Nat.zero_add, own_cell_at h.own k (by simpa using hk)]
    simp [hk]
end Go.Proofs.Ytpiilfgikgkneaa
