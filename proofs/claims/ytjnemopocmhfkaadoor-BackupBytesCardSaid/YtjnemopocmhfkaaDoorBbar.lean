/- Texts put together: BakMath, BakHead. -/
import Derived.Test.YtjnemopocmhfkaaDoorBbap
import Derived.Test.YtjnemopocmhfkaaDoorBbaa
import Derived.Test.YtjnemopocmhfkaaDoorBbad
import Derived.Test.YtjnemopocmhfkaaDoorBbab
section
set_option linter.unusedVariables false
set_option linter.unusedSimpArgs false
namespace Go.Proofs.YtjnemopocmhfkaaDoor

/-- A backup's first sector but for its seal, and sealed with the data. -/
def bkH (e w n : Nat) : List UInt8 := [87, 66, 65, 75, UInt8.ofNat (e / 256), UInt8.ofNat e, UInt8.ofNat w, UInt8.ofNat n] ++ List.replicate 24 0
def bkB (e w : Nat) (ds : List (List UInt8)) : List UInt8 := stamped (bkH e w ds.length) ds
theorem bkH_len (e w n : Nat) : (bkH e w n).length = 32 := by simp [bkH]
theorem bkB_len (e w : Nat) (ds : List (List UInt8)) : (bkB e w ds).length = 32 := stamped_len _ _ (bkH_len _ _ _)
def bkMay (e w : Int) : Bool := decide (0 ≤ e) && (decide (e ≤ 65535) && (decide (0 ≤ w) && decide (w ≤ 16)))
theorem bkMay_iff (e w : Int) : bkMay e w = true ↔ 0 ≤ e ∧ e ≤ 65535 ∧ 0 ≤ w ∧ w ≤ 16 := by simp [bkMay]
/-- These sectors written on disk i, from 6 on, up to the first error. -/
def bkTo (ps : List (List UInt8)) (i : Nat) (N : Bch) : Nat → Int × Bch
  | 0 => (0, N)
  | k + 1 => if (bkTo ps i N k).1 ≠ 0 then bkTo ps i N k else wrF (6 + k) (ps.getD k []) (bkTo ps i N k).2 i
def bkF (ps : List (List UInt8)) (N : Bch) (i : Nat) : Int × Bch := bkTo ps i N ps.length
section
variable {ps : List (List UInt8)} {i : Nat} {N : Bch}
theorem bkTo_goes {k : Nat} (h : (bkTo ps i N k).1 = 0) : bkTo ps i N (k + 1) = wrF (6 + k) (ps.getD k []) (bkTo ps i N k).2 i := by rw [bkTo, if_neg (by simp [h])]
theorem bkTo_stop {k : Nat} (h : (bkTo ps i N k).1 ≠ 0) : ∀ m, k ≤ m → bkTo ps i N m = bkTo ps i N k
  | 0, hm => by obtain rfl : k = 0 := by omega
                rfl
  | m + 1, hm => by
    by_cases e : k = m + 1
    · rw [e]
    · have ih := bkTo_stop h m (by omega)
      rw [bkTo, if_pos (by rw [ih]; exact h), ih]
theorem bkTo_n : ∀ k, (bkTo ps i N k).2.n = N.n
  | 0 => rfl
  | k + 1 => by
    have ih := bkTo_n k
    rw [bkTo]; split
    · exact ih
    · exact (Bch.write_n _ _ _ _).trans ih
theorem bkTo_done : ∀ k, (bkTo ps i N k).2.done ≤ N.done + k
  | 0 => Nat.le_refl _
  | k + 1 => by
    have ih := bkTo_done k
    rw [bkTo]; split
    · omega
    · have h := write_done (bkTo ps i N k).2 (i : Int) ((6 + k : Nat) : Int) (ps.getD k [])
      exact Nat.le_trans h (by omega)
theorem bkTo_len (j : Nat) : ∀ k, ((bkTo ps i N k).2.D j).ps.length ≤ (N.D j).ps.length + k
  | 0 => Nat.le_refl _
  | k + 1 => by
    have ih := bkTo_len j k
    rw [bkTo]; split
    · omega
    · have h := write_len (bkTo ps i N k).2 (i : Int) ((6 + k : Nat) : Int) (ps.getD k []) j
      exact Nat.le_trans h (by omega)
end
section
variable {ps : List (List UInt8)} {lv : List Bool} {N : Bch}
theorem onBk_n (i : Nat) : (onTo (bkF ps) lv N i).2.n = N.n := onTo_any (fun M => M.n = N.n) rfl (fun M i h => (bkTo_n _).trans h) i
theorem onBk_done : ∀ i, (onTo (bkF ps) lv N i).2.done ≤ N.done + i * ps.length
  | 0 => by rw [Nat.zero_mul]; exact Nat.le_refl _
  | i + 1 => by
    have ih := onBk_done i
    have h : (bkF ps (onTo (bkF ps) lv N i).2 i).2.done ≤ (onTo (bkF ps) lv N i).2.done + ps.length := bkTo_done _
    rw [onTo, Nat.succ_mul]
    repeat' split
    · omega
    · omega
    · exact Nat.le_trans h (by omega)
    · exact Nat.le_trans h (by omega)
theorem onBk_len (j : Nat) : ∀ i, ((onTo (bkF ps) lv N i).2.D j).ps.length ≤ (N.D j).ps.length + i * ps.length
  | 0 => by rw [Nat.zero_mul]; exact Nat.le_refl _
  | i + 1 => by
    have ih := onBk_len j i
    have h : ((bkF ps (onTo (bkF ps) lv N i).2 i).2.D j).ps.length ≤ ((onTo (bkF ps) lv N i).2.D j).ps.length + ps.length := bkTo_len j _
    rw [onTo, Nat.succ_mul]
    repeat' split
    · omega
    · omega
    · exact Nat.le_trans h (by omega)
    · exact Nat.le_trans h (by omega)
end
/-- What Put tells and leaves. -/
def bkBad (e w : Int) (ds : List (List UInt8)) : Bool := !bkMay e w || (decide (28 < ds.length) || ds.any fun x => (x.length : Int) != 32)
def bkS (N : Bch) (lv : List Bool) (e w : Int) (ds : List (List UInt8)) : Int × Bch :=
  if bkBad e w ds = true then (1, N) else if (onTo (bkF (bkB e.toNat w.toNat ds :: ds)) lv N N.n).1 ≠ 0 then onTo (bkF (bkB e.toNat w.toNat ds :: ds)) lv N N.n
  else onTo flF lv (onTo (bkF (bkB e.toNat w.toNat ds :: ds)) lv N N.n).2 N.n
theorem bkS_n (N : Bch) (lv : List Bool) (e w : Int) (ds : List (List UInt8)) : (bkS N lv e w ds).2.n = N.n := by
  unfold bkS
  repeat' split
  · rfl
  · exact onBk_n _
  · exact (flushed_n _).trans (onBk_n _)
/-- How many, and which sectors, a disk tells; is it a backup of that epoch and window? -/
def bkN (D : Dsk) : Nat := ((secAt D.now 6).getD 7 0).toNat
def bkG (D : Dsk) (n : Nat) : List (List UInt8) := (List.range n).map fun k => secAt D.now (7 + k)
def bkOk (D : Dsk) (e w : Nat) : Bool := decide (bkN D ≤ 28) && (secAt D.now 6 == bkB e w (bkG D (bkN D)))
theorem bkG_len (D : Dsk) (n : Nat) : (bkG D n).length = n := by simp [bkG]
def goneB (N : Bch) (j : Nat) : Bool := N.down || (N.D j).f
def hitB (N : Bch) (e w j : Nat) : Bool := !goneB N j && bkOk (N.D j) e w
def hitL (N : Bch) (j : Nat) : List (List UInt8) := bkG (N.D j) (bkN (N.D j))
def getB (N : Bch) (lv : List Bool) (e w : Nat) : Nat → Bool
  | 0 => false
  | j + 1 => getB N lv e w j || (lv.getD j false && hitB N e w j)
def getL (N : Bch) (lv : List Bool) (e w : Nat) : Nat → List (List UInt8)
  | 0 => []
  | j + 1 => if getB N lv e w j = true then getL N lv e w j else if (lv.getD j false && hitB N e w j) = true then hitL N j else []
def gotB (N : Bch) (lv : List Bool) (e w : Int) : Bool := bkMay e w && getB N lv e.toNat w.toNat N.n
def gotL (N : Bch) (lv : List Bool) (e w : Int) : List (List UInt8) := if bkMay e w = true then getL N lv e.toNat w.toNat N.n else []
section
variable {N : Bch} {lv : List Bool} {e w : Nat}
theorem getL_none : ∀ {j : Nat}, getB N lv e w j = false → getL N lv e w j = []
  | 0, _ => rfl
  | j + 1, h => by
    unfold getB at h
    simp only [Bool.or_eq_false_iff] at h
    rw [getL, if_neg (by simp [h.1]), if_neg (by rw [h.2]; decide)]
theorem getB_mono {j : Nat} (h : getB N lv e w j = true) : ∀ m, j ≤ m → getB N lv e w m = true ∧ getL N lv e w m = getL N lv e w j
  | 0, hm => by obtain rfl : j = 0 := by omega
                exact ⟨h, rfl⟩
  | m + 1, hm => by
    by_cases q : j = m + 1
    · rw [q] at h; rw [q]; exact ⟨h, rfl⟩
    · obtain ⟨h1, h2⟩ := getB_mono h m (by omega)
      exact ⟨by rw [getB, h1]; rfl, by rw [getL, if_pos h1, h2]⟩
theorem getB_iff : ∀ {m : Nat}, getB N lv e w m = true ↔ ∃ j, j < m ∧ lv.getD j false = true ∧ hitB N e w j = true
  | 0 => by simp [getB]
  | m + 1 => by
    rw [getB, Bool.or_eq_true, Bool.and_eq_true, getB_iff (m := m)]
    constructor
    · rintro (⟨j, hj, h⟩ | h)
      · exact ⟨j, by omega, h⟩
      · exact ⟨m, by omega, h⟩
    · rintro ⟨j, hj, h⟩
      by_cases q : j = m
      · subst q; exact .inr h
      · exact .inl ⟨j, by omega, h⟩
/-- Whatever is found is what one of the disks has. -/
theorem getL_of : ∀ {m : Nat}, getB N lv e w m = true → ∃ j, j < m ∧ lv.getD j false = true ∧ hitB N e w j = true ∧ getL N lv e w m = hitL N j
  | 0, h => by simp [getB] at h
  | m + 1, h => by
    cases q : getB N lv e w m with
    | true =>
      obtain ⟨j, hj, h1, h2, h3⟩ := getL_of q
      exact ⟨j, by omega, h1, h2, by rw [getL, if_pos q]; exact h3⟩
    | false =>
      rw [getB, q, Bool.false_or] at h
      have h' := h
      rw [Bool.and_eq_true] at h'
      exact ⟨m, by omega, h'.1, h'.2, by rw [getL, if_neg (by rw [q]; decide), if_pos h]⟩
end
/-- A disk that has that backup; one that has none. -/
structure Has (D : Dsk) (e w : Nat) (ds : List (List UInt8)) : Prop where
  h : secAt D.now 6 = bkB e w ds
  n : ds.length ≤ 28
  d : ∀ k, k < ds.length → secAt D.now (7 + k) = ds.getD k []
theorem ofNat_inj {a b : Nat} (ha : a < 256) (hb : b < 256) (h : UInt8.ofNat a = UInt8.ofNat b) : a = b := by
  have := congrArg UInt8.toNat h
  simp only [UInt8.toNat_ofNat'] at this
  omega
theorem bkB_get (e w : Nat) (ds : List (List UInt8)) {i : Nat} (hi : i < 28) : (bkB e w ds)[i]? = (bkH e w ds.length)[i]? := by
  unfold bkB stamped
  have hl : ((bkH e w ds.length).take 28).length = 28 := by rw [List.length_take, bkH_len]; rfl
  rw [List.getElem?_append_left (by omega), List.getElem?_take, if_pos hi]
theorem bkB_inj {e w e' w' : Nat} {ds ds' : List (List UInt8)} (h1 : e < 65536) (h2 : e' < 65536) (h3 : w < 256) (h4 : w' < 256) (h : bkB e w ds = bkB e' w' ds') : e = e' ∧ w = w' := by
  have g := fun i (hi : i < 28) => (bkB_get e w ds hi).symm.trans ((congrArg (·[i]?) h).trans (bkB_get e' w' ds' hi))
  have g4 : some (UInt8.ofNat (e / 256)) = some (UInt8.ofNat (e' / 256)) := g 4 (by omega)
  have g5 : some (UInt8.ofNat e) = some (UInt8.ofNat e') := g 5 (by omega)
  have g6 : some (UInt8.ofNat w) = some (UInt8.ofNat w') := g 6 (by omega)
  injection g4 with g4
  injection g5 with g5
  injection g6 with g6
  have a4 := ofNat_inj (by omega) (by omega) g4
  have a5 := congrArg UInt8.toNat g5
  simp only [UInt8.toNat_ofNat'] at a5
  exact ⟨by omega, ofNat_inj h3 h4 g6⟩
theorem Has.num {D : Dsk} {e w : Nat} {ds : List (List UInt8)} (h : Has D e w ds) : bkN D = ds.length := by
  unfold bkN
  rw [h.h, List.getD_eq_getElem?_getD, bkB_get _ _ _ (by omega)]
  show (UInt8.ofNat ds.length).toNat = _
  have := h.n
  rw [UInt8.toNat_ofNat']; omega
theorem Has.g {D : Dsk} {e w : Nat} {ds : List (List UInt8)} (h : Has D e w ds) : bkG D (bkN D) = ds := by
  rw [h.num]
  apply List.ext_getElem (bkG_len _ _)
  intro k h1 h2
  have := h.d k h2
  simp only [bkG, List.getElem_map, List.getElem_range]
  rw [this]; simp [h2]
theorem Has.ok {D : Dsk} {e w e' w' : Nat} {ds : List (List UInt8)} (h : Has D e w ds) (h1 : e < 65536) (h2 : e' < 65536) (h3 : w < 256) (h4 : w' < 256) : bkOk D e' w' = decide (e' = e ∧ w' = w) := by
  unfold bkOk
  rw [h.g, h.num, decide_eq_true h.n, Bool.true_and, h.h]
  by_cases q : e' = e ∧ w' = w
  · obtain ⟨rfl, rfl⟩ := q
    rw [decide_eq_true ⟨rfl, rfl⟩]; exact beq_self_eq_true _
  · rw [decide_eq_false q, beq_eq_false_iff_ne]
    exact fun hh => q (by obtain ⟨a, b⟩ := bkB_inj h1 h2 h3 h4 hh; exact ⟨a.symm, b.symm⟩)
theorem none_ok {D : Dsk} (h : secAt D.now 6 = List.replicate 32 0) (e w : Nat) : bkOk D e w = false := by
  unfold bkOk
  rw [Bool.and_eq_false_iff]; right
  rw [beq_eq_false_iff_ne]
  intro q
  have g : (secAt D.now 6)[0]? = (bkB e w (bkG D (bkN D)))[0]? := congrArg (·[0]?) q
  rw [h, bkB_get _ _ _ (by omega)] at g
  have g' : some (0 : UInt8) = some 87 := g
  exact absurd g' (by decide)
/-- A disk with these written. -/
def wrs (D : Dsk) (ps : List (List UInt8)) : Nat → Dsk
  | 0 => D
  | k + 1 => (wrs D ps k).write (6 + k) (ps.getD k [])
section
variable {D : Dsk} {ps : List (List UInt8)}
theorem wrs_f : ∀ k, (wrs D ps k).f = D.f
  | 0 => rfl
  | k + 1 => wrs_f k
theorem wrs_ok (h : D.Ok) (h32 : ∀ x ∈ ps, x.length = 32) (hn : ps.length ≤ 29) : ∀ k, k ≤ ps.length → (wrs D ps k).Ok
  | 0, _ => h
  | k + 1, hk => (wrs_ok h h32 hn k (by omega)).write (by omega) (h32 _ (by rw [List.getD_eq_getElem?_getD, List.getElem?_eq_getElem (by omega)]; exact List.getElem_mem _))
theorem wrs_sec (h : D.Ok) (h32 : ∀ x ∈ ps, x.length = 32) (hn : ps.length ≤ 29) (j : Nat) : ∀ k, k ≤ ps.length → secAt (wrs D ps k).now j = if 6 ≤ j ∧ j < 6 + k then ps.getD (j - 6) [] else secAt D.now j
  | 0, _ => by rw [if_neg (by omega)]; rfl
  | k + 1, hk => by
    have ih := wrs_sec h h32 hn j k (by omega)
    have hx : (ps.getD k []).length = 32 := h32 _ (by rw [List.getD_eq_getElem?_getD, List.getElem?_eq_getElem (by omega)]; exact List.getElem_mem _)
    have ho := wrs_ok h h32 hn k (by omega)
    show secAt ((wrs D ps k).write (6 + k) (ps.getD k [])).now j = _
    rw [Dsk.write_now]
    by_cases q : j = 6 + k
    · subst q
      rw [sec_put_same ho.now (by omega) hx, if_pos (by omega)]
      congr 1; omega
    · rw [sec_put_other ho.now (by omega) hx q, ih]
      by_cases q2 : 6 ≤ j ∧ j < 6 + k
      · rw [if_pos q2, if_pos (by omega)]
      · rw [if_neg q2, if_neg (by omega)]
end
/-- Written on one disk that serves, with power. -/
structure BkG (N M : Bch) (ps : List (List UInt8)) (i k : Nat) : Prop where
  n : M.n = N.n
  dn : M.down = false
  lf : M.left = -1
  D : ∀ j, M.D j = if j = i then wrs (N.D i) ps k else N.D j
  done : M.done = N.done + k
theorem bk_good {N : Bch} {ps : List (List UInt8)} (h32 : ∀ x ∈ ps, x.length = 32) (hn : ps.length ≤ 29) {i : Nat} (hi : i < N.n) (hf : (N.D i).f = false) (hd : N.down = false) (hl : N.left = -1) : ∀ k, k ≤ ps.length → (bkTo ps i N k).1 = 0 ∧ BkG N (bkTo ps i N k).2 ps i k
  | 0, _ => ⟨rfl, rfl, hd, hl, fun j => by split
                                           · subst_vars; rfl
                                           · rfl, rfl⟩
  | k + 1, hk => by
    obtain ⟨h0, g⟩ := bk_good h32 hn hi hf hd hl k (by omega)
    have hx : (ps.getD k []).length = 32 := h32 _ (by rw [List.getD_eq_getElem?_getD, List.getElem?_eq_getElem (by omega)]; exact List.getElem_mem _)
    have hDi : (bkTo ps i N k).2.D i = wrs (N.D i) ps k := by rw [g.D i, if_pos rfl]
    have hw := Bch.write_ok (N := (bkTo ps i N k).2) (d := i) (k := 6 + k) (x := ps.getD k []) (by rw [g.n]; omega) (by omega) hx (by rw [hDi, wrs_f, hf]) g.dn (by rw [g.lf]; decide)
    rw [Bch.count_free (by exact g.lf), hDi] at hw
    rw [bkTo_goes h0]
    refine ⟨hw.1, ?_⟩
    show BkG N ((bkTo ps i N k).2.write (i : Int) ((6 + k : Nat) : Int) (ps.getD k [])) ps i (k + 1)
    rw [hw.2]
    refine ⟨g.n, g.dn, g.lf, fun j => ?_, ?_⟩
    · show upd (bkTo ps i N k).2.D i _ j = _
      by_cases e : j = i
      · subst e; rw [upd_same, if_pos rfl]; rfl
      · rw [upd_other _ _ e, if_neg e, g.D j, if_neg e]
    · show (bkTo ps i N k).2.done + 1 = _
      rw [g.done]; omega
/-- Written on a disk that has failed: nothing. -/
theorem bk_failed {N : Bch} {ps : List (List UInt8)} (hp : 0 < ps.length) {i : Nat} (hi : i < N.n) (hf : (N.D i).f = true) (hd : N.down = false) : bkF ps N i = (5, N) := by
  have hpw : N.powE (i : Int) = 0 := Bch.powE_ok (Bch.pickE_ok (by omega) (by omega)) hd
  have ht : takeE (N.at_ (i : Int)).f ((6 : Nat) : Int) (ps.getD 0 []).length = 5 := by rw [show (N.at_ (i : Int)) = N.D i from rfl, hf]; exact takeE_fail _ _
  have e1 : N.writeE (i : Int) ((6 : Nat) : Int) (ps.getD 0 []).length = 5 := by
    unfold Bch.writeE; rw [if_neg (by simp [hpw]), if_pos (by rw [ht]; decide), ht]
  have e2 : N.write (i : Int) ((6 : Nat) : Int) (ps.getD 0 []) = N := by
    unfold Bch.write; rw [if_neg (by simp [hpw]), if_pos (by rw [ht]; decide)]
  have h1 : bkTo ps i N 1 = (5, N) := by
    rw [show (1 : Nat) = 0 + 1 from rfl, bkTo_goes rfl]
    show (N.writeE (i : Int) ((6 : Nat) : Int) (ps.getD 0 []).length, N.write (i : Int) ((6 : Nat) : Int) (ps.getD 0 [])) = _
    rw [e1, e2]
  show bkTo ps i N ps.length = _
  rw [bkTo_stop (k := 1) (by rw [h1]; exact (by decide : (5 : Int) ≠ 0)) _ (by omega), h1]
def bkD (lv : List Bool) (ps : List (List UInt8)) (D : Dsk) (i j : Nat) : Dsk := if j < i ∧ lv.getD j false = true ∧ D.f = false then wrs D ps ps.length else D
theorem bkD_same {lv : List Bool} {ps : List (List UInt8)} {D : Dsk} {i j : Nat} (h : j ≠ i) : bkD lv ps D (i + 1) j = bkD lv ps D i j := by
  unfold bkD
  by_cases c : j < i
  · simp only [c, show j < i + 1 by omega]
  · rw [if_neg (by omega), if_neg (by omega)]
theorem bkD_at {lv : List Bool} {ps : List (List UInt8)} {D : Dsk} {i : Nat} : bkD lv ps D i i = D := if_neg (by omega)
theorem bkD_next {lv : List Bool} {ps : List (List UInt8)} {D : Dsk} {i : Nat} : bkD lv ps D (i + 1) i = if lv.getD i false = true ∧ D.f = false then wrs D ps ps.length else D := by
  unfold bkD; simp only [show i < i + 1 by omega, true_and]
structure BkA (N M : Bch) (lv : List Bool) (ps : List (List UInt8)) (i : Nat) : Prop where
  n : M.n = N.n
  dn : M.down = false
  lf : M.left = -1
  D : ∀ j, M.D j = bkD lv ps (N.D j) i j
  done : M.done = N.done + cntTo N lv i * ps.length
theorem onBk_good {N : Bch} {lv : List Bool} {ps : List (List UInt8)} (h32 : ∀ x ∈ ps, x.length = 32) (hp : 0 < ps.length) (hn : ps.length ≤ 29) (hd : N.down = false) (hl : N.left = -1) : ∀ i, i ≤ N.n → (onTo (bkF ps) lv N i).1 = 0 ∧ BkA N (onTo (bkF ps) lv N i).2 lv ps i
  | 0, _ => ⟨rfl, rfl, hd, hl, fun j => (if_neg (by omega)).symm, by show N.done = N.done + 0 * _; omega⟩
  | i + 1, hi => by
    obtain ⟨h0, g⟩ := onBk_good (lv := lv) h32 hp hn hd hl i (by omega)
    have hDi : (onTo (bkF ps) lv N i).2.D i = N.D i := by rw [g.D i, bkD_at]
    cases hb : lv.getD i false with
    | false =>
      rw [onTo_skip h0 hb]
      refine ⟨h0, g.n, g.dn, g.lf, fun j => ?_, ?_⟩
      · by_cases e : j = i
        · subst e; rw [hDi, bkD_next, if_neg (no1 hb)]
        · rw [bkD_same e]; exact g.D j
      · rw [g.done]; show _ = N.done + (cntTo N lv i + _) * _; rw [if_neg (no1 hb)]; rfl
    | true =>
      cases hf : (N.D i).f with
      | true =>
        have e0 := bk_failed (N := (onTo (bkF ps) lv N i).2) (ps := ps) hp (i := i) (by rw [g.n]; omega) (by rw [hDi]; exact hf) g.dn
        rw [onTo_pass h0 hb (by rw [e0]), e0]
        refine ⟨rfl, g.n, g.dn, g.lf, fun j => ?_, ?_⟩
        · by_cases e : j = i
          · subst e; show (onTo (bkF ps) lv N j).2.D j = _; rw [hDi, bkD_next, if_neg (no2 hf)]
          · rw [bkD_same e]; exact g.D j
        · show (onTo (bkF ps) lv N i).2.done = N.done + (cntTo N lv i + _) * _
          rw [g.done, if_neg (no2 hf)]; rfl
      | false =>
        obtain ⟨e1, w⟩ := bk_good (N := (onTo (bkF ps) lv N i).2) h32 hn (i := i) (by rw [g.n]; omega) (by rw [hDi, hf]) g.dn g.lf ps.length (Nat.le_refl _)
        have e1' : (bkF ps (onTo (bkF ps) lv N i).2 i).1 = 0 := e1
        rw [onTo_goes h0 hb (by rw [e1']; decide)]
        refine ⟨e1', w.n.trans g.n, w.dn, w.lf, fun j => ?_, ?_⟩
        · show (bkTo ps i (onTo (bkF ps) lv N i).2 ps.length).2.D j = _
          rw [w.D j]
          by_cases e : j = i
          · subst e; rw [if_pos rfl, hDi, bkD_next, if_pos ⟨hb, hf⟩]
          · rw [if_neg e, bkD_same e]; exact g.D j
        · show (bkTo ps i (onTo (bkF ps) lv N i).2 ps.length).2.done = N.done + (cntTo N lv i + _) * _
          rw [w.done, g.done, if_pos ⟨hb, hf⟩, Nat.succ_mul]; omega
end Go.Proofs.YtjnemopocmhfkaaDoor
end
section
set_option maxRecDepth 20000
set_option linter.unusedVariables false
set_option linter.unusedSimpArgs false
namespace Go.Proofs.YtjnemopocmhfkaaDoor
open Go.RowKit

theorem bkMay_any (e w : Int) (V : World) : Calls Tryd.prog 23 #[.int .i64 e, .int .i64 w] V fun r V' => r = .returned (.bool (bkMay e w)) ∧ V' = V := by
  by_cases c1 : 0 ≤ e
  · by_cases c2 : e ≤ 65535
    · by_cases c3 : 0 ≤ w
      · by_cases c4 : w ≤ 16
        · have R := Lib.hid (show bkMay e w = true from (bkMay_iff e w).2 ⟨c1, c2, c3, c4⟩)
          go_enter Tryd.func23, Tryd.ntmps23
          go_wp2
          go_ret
          exact ⟨by rw [R.out]; rfl, rfl⟩
        · have R := Lib.hid (show bkMay e w = false from Bool.eq_false_iff.2 fun h => c4 ((bkMay_iff e w).1 h).2.2.2)
          go_enter Tryd.func23, Tryd.ntmps23
          go_wp2
          go_ret
          exact ⟨by rw [R.out]; rfl, rfl⟩
      · have R := Lib.hid (show bkMay e w = false from Bool.eq_false_iff.2 fun h => c3 ((bkMay_iff e w).1 h).2.2.1)
        have i3 : ¬ (w ≥ 0) := c3
        go_enter Tryd.func23, Tryd.ntmps23
        go_wp2
        go_ret
        exact ⟨by rw [R.out]; rfl, rfl⟩
    · have R := Lib.hid (show bkMay e w = false from Bool.eq_false_iff.2 fun h => c2 ((bkMay_iff e w).1 h).2.1)
      go_enter Tryd.func23, Tryd.ntmps23
      go_wp2
      go_ret
      exact ⟨by rw [R.out]; rfl, rfl⟩
  · have R := Lib.hid (show bkMay e w = false from Bool.eq_false_iff.2 fun h => c1 ((bkMay_iff e w).1 h).1)
    have i1 : ¬ (e ≥ 0) := c1
    go_enter Tryd.func23, Tryd.ntmps23
    go_wp2
    go_ret
    exact ⟨by rw [R.out]; rfl, rfl⟩
theorem bkH_sets (e w n : Nat) : ((((setsB (List.replicate 32 0) 0 [87, 66, 65, 75]).set 4 (UInt8.ofNat (e / 256))).set 5 (UInt8.ofNat e)).set 6 (UInt8.ofNat w)).set 7 (UInt8.ofNat n) = bkH e w n := rfl
set_option maxHeartbeats 800000 in
theorem bkHead_any (A : Option Addr) (n c e w : Nat) (ds : List (List UInt8)) (V : World) (hn : ds.length = n) (he : e < 65536) (hw : w ≤ 16) (h28 : n ≤ 28) (hr : RdR V V.heap.size A ds) (ht : TabOk V) :
    Calls Tryd.prog 27 #[.int .i64 (e : Int), .int .i64 (w : Int), .slice A n c] V fun r V' => ∃ g : Nat, r = .returned (.slice (some ⟨g, 0, none⟩) 32 32) ∧ OwB 5 V' V.heap.size (.slice (some ⟨g, 0, none⟩) 32 32) (bkB e w ds) ∧ Below V.heap.size V V' := by
  have hmk := makeS
  have Hr := Lib.hid hr
  have Ht := Lib.hid ht
  have Hn := Lib.hid hn
  have HS := Lib.hid (bkH_sets e w n)
  have HB : Hid (bkB e w ds = stamped (bkH e w n) ds) := by show _ = _; rw [← hn]; rfl
  have HL := Lib.hid (bkH_len e w n)
  have E1 : Hid ((e : Int) / 256 = ((UInt8.ofNat (e / 256)).toNat : Int)) := by show _ = _; rw [UInt8.toNat_ofNat']; omega
  have E0 : Hid ((e : Int) % 256 = ((UInt8.ofNat e).toNat : Int)) := by show _ = _; rw [UInt8.toNat_ofNat']; omega
  have Ew : Hid ((w : Int) = ((UInt8.ofNat w).toNat : Int)) := by show _ = _; rw [UInt8.toNat_ofNat']; omega
  have En : Hid ((n : Int) = ((UInt8.ofNat n).toNat : Int)) := by show _ = _; rw [UInt8.toNat_ofNat']; omega
  clear hr ht hn
  have O0 := Lib.hid (own_make 5 V 32 (by omega))
  have H0 := Lib.hid (show (setsB (List.replicate 32 0) 0 [87, 66, 65, 75]).length = 32 from rfl)
  go_enter Tryd.func27, Tryd.ntmps27
  go_wp2_with (refine wpList_copy_S rfl _ _ rfl V.heap.size 32 32 V.heap.size (List.replicate 32 0) [87, 66, 65, 75] rfl rfl O0.out (by simp) (by decide) ?_; intro w2 o2 g2 rv; generalize setsB (List.replicate 32 0) 0 [87, 66, 65, 75] = L at o2 HS H0; obtain ⟨q4, f4⟩ := o2.cell H0.out 4 (by omega); obtain ⟨q5, f5⟩ := o2.cell H0.out 5 (by omega); obtain ⟨q6, f6⟩ := o2.cell H0.out 6 (by omega); obtain ⟨q7, f7⟩ := o2.cell H0.out 7 (by omega); have O2 := Lib.hid o2; have G2 := Lib.hid g2; clear o2 g2 O0 hmk; generalize L.getD 4 0 = y4 at q4; generalize L.getD 5 0 = y5 at q5; generalize L.getD 6 0 = y6 at q6; generalize L.getD 7 0 = y7 at q7)
  have s4 := O2.out.set H0.out 4 (UInt8.ofNat (e / 256))
  have s5 := s4.1.set (by rw [List.length_set]; exact H0.out) 5 (UInt8.ofNat e)
  have s6 := s5.1.set (by rw [List.length_set, List.length_set]; exact H0.out) 6 (UInt8.ofNat w)
  have s7 := s6.1.set (by rw [List.length_set, List.length_set, List.length_set]; exact H0.out) 7 (UInt8.ofNat n)
  have g7 := G2.out.trans (s4.2.trans (s5.2.trans (s6.2.trans s7.2)))
  have o7 := s7.1
  rw [HS.out, ← E1.out, ← E0.out, ← Ew.out, ← En.out] at o7
  rw [← E1.out, ← E0.out, ← Ew.out, ← En.out] at g7
  clear s4 s5 s6 s7 q4 q5 q6 q7 f4 f5 f6 f7 O2 G2
  generalize ((((w2.setCell ⟨V.heap.size, 4, none⟩ (.int .u8 ((e : Int) / 256))).setCell ⟨V.heap.size, 5, none⟩ (.int .u8 ((e : Int) % 256))).setCell ⟨V.heap.size, 6, none⟩ (.int .u8 (w : Int))).setCell ⟨V.heap.size, 7, none⟩ (.int .u8 (n : Int))) = W at o7 g7 ⊢
  have hb : Below V.heap.size V W := (below1 V _).grown g7 (by simp) (fun j e => by injection e with e; omega)
  have hz := hb.size
  have CS := Lib.hid (stamp_any V.heap.size 32 V.heap.size A c (bkH e w n) ds n W Hn.out o7 HL.out ((Hr.out.below hb (Nat.le_refl _)).more hz) (Ht.out.below hb Ht.out.pos))
  clear o7 hz
  (with_reducible refine CS.out.mono ?_); rintro e2 w3 ⟨rfl, o3, g3⟩
  have O3 := Lib.hid o3
  have B3 := Lib.hid (hb.grown g3 hb.size (fun j e => by injection e with e; omega))
  clear o3 g3 hb g7 CS
  go_wp2
  go_ret
  exact ⟨V.heap.size, rfl, by rw [HB.out]; exact O3.out, B3.out⟩
end Go.Proofs.YtjnemopocmhfkaaDoor
end
