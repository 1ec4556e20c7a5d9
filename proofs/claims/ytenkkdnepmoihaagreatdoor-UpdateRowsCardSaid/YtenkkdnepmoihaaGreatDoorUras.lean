/- Texts put together: SlotMath, RecMath, LogMath, RecBox, RecMay, RecFind, RecSame. -/
import Derived.Test.YtenkkdnepmoihaaGreatDoorUral
import Derived.Test.YtenkkdnepmoihaaGreatDoorUrar
import Derived.Test.YtenkkdnepmoihaaGreatDoorProg
import Derived.Test.YtenkkdnepmoihaaGreatDoorUrac
import Derived.Test.YtenkkdnepmoihaaGreatDoorUrab
import Derived.Deep.MidRow
import Derived.Test.YtenkkdnepmoihaaGreatDoorUrag
section
set_option linter.unusedVariables false
set_option linter.unusedSimpArgs false
namespace Go.Proofs.YtenkkdnepmoihaaGreatDoor

end Go.Proofs.YtenkkdnepmoihaaGreatDoor
end
section
namespace Go.Proofs.YtenkkdnepmoihaaGreatDoor

/-- An Item: its disk, its place, its bytes. -/
structure It where
  d : Int
  a : Int
  b : List UInt8
def itZ : It := ⟨0, 0, []⟩
/-- Whole numbers of 64 digits, and bytes that fit in memory. -/
structure It64 (x : It) : Prop where
  d : (-9223372036854775808 ≤ x.d ∧ x.d ≤ 9223372036854775807)
  a : (-9223372036854775808 ≤ x.a ∧ x.a ≤ 9223372036854775807)
theorem It.ext' {x y : It} (h1 : x.d = y.d) (h2 : x.a = y.a) (h3 : x.b = y.b) : x = y := by
  obtain ⟨a1, a2, a3⟩ := x
  obtain ⟨b1, b2, b3⟩ := y
  dsimp only at h1 h2 h3
  subst h1 h2 h3
  rfl
def mayB (x : It) : Bool := decide (0 ≤ x.d ∧ x.d < 8 ∧ 36 ≤ x.a ∧ x.a < 52 ∧ x.b.length = 32)
def meetsB (x y : It) : Bool := decide (x.d = y.d ∧ x.a = y.a)
theorem mayB_iff (x : It) : mayB x = true ↔ (0 ≤ x.d ∧ x.d < 8 ∧ 36 ≤ x.a ∧ x.a < 52 ∧ x.b.length = 32) := by simp [mayB]
theorem meetsB_iff (x y : It) : meetsB x y = true ↔ (x.d = y.d ∧ x.a = y.a) := by simp [meetsB]
def itN (l : List It) (k : Nat) : It := l.getD k itZ
/-- The first n of them may be beside one another. -/
def fineN (l : List It) (n : Nat) : Bool := decide (∀ k, k < n → mayB (itN l k) = true ∧ ∀ j, j < k → meetsB (itN l k) (itN l j) = false)
theorem fineN_iff (l : List It) (n : Nat) : fineN l n = true ↔ ∀ k, k < n → mayB (itN l k) = true ∧ ∀ j, j < k → meetsB (itN l k) (itN l j) = false := by simp [fineN]
def recOk (s : Int) (l : List It) : Bool := decide (1 ≤ s ∧ s ≤ 2147483647 ∧ l.length ≤ 3) && fineN l l.length
theorem recOk_iff (s : Int) (l : List It) : recOk s l = true ↔ (1 ≤ s ∧ s ≤ 2147483647 ∧ l.length ≤ 3) ∧ fineN l l.length = true := by simp [recOk]
def recErr (s : Int) (l : List It) : Int := if recOk s l = true then 0 else 1
theorem recErr_yes {s : Int} {l : List It} (h : recOk s l = true) : recErr s l = 0 := if_pos h
theorem recErr_no {s : Int} {l : List It} (h : recOk s l = false) : recErr s l = 1 := if_neg (by rw [h]; decide)
theorem recOk_no {s : Int} {l : List It} (h : ¬ (1 ≤ s ∧ s ≤ 2147483647 ∧ l.length ≤ 3)) : recOk s l = false := by
  rw [← Bool.not_eq_true]; exact fun h' => h ((recOk_iff s l).1 h').1
theorem recOk_at {s : Int} {l : List It} (k : Nat) (hk : k < l.length) (h : mayB (itN l k) = false) : recOk s l = false := by
  rw [← Bool.not_eq_true]; intro h'
  have := ((fineN_iff _ _).1 ((recOk_iff s l).1 h').2 k hk).1
  rw [h] at this; cases this
theorem recOk_two {s : Int} {l : List It} (k j : Nat) (hk : k < l.length) (hj : j < k) (h : meetsB (itN l k) (itN l j) = true) : recOk s l = false := by
  rw [← Bool.not_eq_true]; intro h'
  have := ((fineN_iff _ _).1 ((recOk_iff s l).1 h').2 k hk).2 j hj
  rw [h] at this; cases this
theorem itN_mem {l : List It} {k : Nat} (hk : k < l.length) : itN l k ∈ l := by
  unfold itN
  rw [List.getD_eq_getElem?_getD, List.getElem?_eq_getElem hk]
  exact List.getElem_mem hk
theorem recOk_may {s : Int} {l : List It} (h : recOk s l = true) (x : It) (hx : x ∈ l) : 0 ≤ x.d ∧ x.d < 8 ∧ 36 ≤ x.a ∧ x.a < 52 ∧ x.b.length = 32 := by
  obtain ⟨k, hk, rfl⟩ := List.getElem_of_mem hx
  have := ((fineN_iff _ _).1 ((recOk_iff s l).1 h).2 k hk).1
  rw [show itN l k = l[k] from by simp [itN, List.getD_eq_getElem?_getD, hk]] at this
  exact (mayB_iff _).1 this
theorem byX_one {n : Int} (h : 0 ≤ n ∧ n ≤ 255) : (((byN n 0).toNat : Nat) : Int) = n := by
  simp only [byN, UInt8.toNat_ofNat']; omega
/-- What the first sector says of the Items. -/
def plcB (l : List It) : List UInt8 := l.flatMap fun x => [byN x.d 0, byN x.a 0]
theorem plcB_len (l : List It) : (plcB l).length = 2 * l.length := by
  induction l with
  | nil => rfl
  | cons x l ih => show (plcB l).length + 2 = _; rw [ih, List.length_cons]; omega
theorem plcB_snoc (l : List It) (x : It) : plcB (l ++ [x]) = plcB l ++ [byN x.d 0, byN x.a 0] := by simp [plcB]
def hdB (s : Int) (l : List It) : List UInt8 := [87, 82, 69, 67, byN s 3, byN s 2, byN s 1, byN s 0, UInt8.ofNat l.length] ++ plcB l
theorem hdB_len (s : Int) (l : List It) : (hdB s l).length = 9 + 2 * l.length := by
  show (plcB l).length + 9 = _; rw [plcB_len]; omega
def z32 : List UInt8 := List.replicate 32 0
/-- The first sector, ahead of its seal. -/
def fullB (s : Int) (l : List It) : List UInt8 := hdB s l ++ List.replicate (32 - (hdB s l).length) 0
theorem fullB_len {s : Int} {l : List It} (h : l.length ≤ 3) : (fullB s l).length = 32 := by
  simp only [fullB, List.length_append, hdB_len, List.length_replicate]; omega
def partsB (l : List It) : List (List UInt8) := l.map (·.b) ++ List.replicate (3 - l.length) z32
theorem partsB_len {l : List It} (h : l.length ≤ 3) : (partsB l).length = 3 := by simp [partsB]; omega
/-- A Record's sectors. -/
def recB (s : Int) (l : List It) : List (List UInt8) := stamped (fullB s l) (partsB l) :: partsB l
theorem recB_len {s : Int} {l : List It} (h : l.length ≤ 3) : (recB s l).length = 4 := by
  show (partsB l).length + 1 = 4; rw [partsB_len h]
/-- What the sectors say. -/
def sqO (rs : List (List UInt8)) : Int := numB [(rs.getD 0 []).getD 4 0, (rs.getD 0 []).getD 5 0, (rs.getD 0 []).getD 6 0, (rs.getD 0 []).getD 7 0]
def cnO (rs : List (List UInt8)) : Nat := ((rs.getD 0 []).getD 8 0).toNat
def itO (rs : List (List UInt8)) (i : Nat) : It := ⟨((rs.getD 0 []).getD (9 + 2 * i) 0).toNat, ((rs.getD 0 []).getD (10 + 2 * i) 0).toNat, rs.getD (1 + i) []⟩
def itsN (rs : List (List UInt8)) (n : Nat) : List It := (List.range n).map (itO rs)
def itsO (rs : List (List UInt8)) : List It := itsN rs (min (cnO rs) 3)
theorem itsN_len (rs : List (List UInt8)) (n : Nat) : (itsN rs n).length = n := by simp [itsN]
/-- They are four sectors. -/
def sect (rs : List (List UInt8)) : Bool := decide (rs.length = 4) && rs.all fun x => decide (x.length = 32)
theorem sect_iff (rs : List (List UInt8)) : sect rs = true ↔ rs.length = 4 ∧ ∀ x ∈ rs, x.length = 32 := by simp [sect]
theorem sect_get {rs : List (List UInt8)} (h : sect rs = true) (k : Nat) (hk : k < 4) : (rs.getD k []).length = 32 := by
  obtain ⟨h1, h2⟩ := (sect_iff rs).1 h
  rw [List.getD_eq_getElem?_getD, List.getElem?_eq_getElem (by omega)]
  exact h2 _ (List.getElem_mem _)
def rcO (rs : List (List UInt8)) : Bool := sect rs && recOk (sqO rs) (itsO rs) && decide (recB (sqO rs) (itsO rs) = rs)
theorem rcO_iff (rs : List (List UInt8)) : rcO rs = true ↔ sect rs = true ∧ recOk (sqO rs) (itsO rs) = true ∧ recB (sqO rs) (itsO rs) = rs := by simp [rcO, and_assoc]
def rcS (rs : List (List UInt8)) : Int := if rcO rs = true then sqO rs else 0
def rcL (rs : List (List UInt8)) : List It := if rcO rs = true then itsO rs else []
/-! The sectors of a Record say it. -/
theorem partsB_get {l : List It} (k : Nat) (hk : k < l.length) : (partsB l).getD k [] = (itN l k).b := by
  simp [partsB, itN, List.getD_eq_getElem?_getD, hk, List.getElem?_append_left]
theorem recB_get0 (s : Int) (l : List It) : (recB s l).getD 0 [] = stamped (fullB s l) (partsB l) := rfl
theorem recB_getS (s : Int) (l : List It) (k : Nat) : (recB s l).getD (1 + k) [] = (partsB l).getD k [] := by
  rw [Nat.add_comm]; simp [recB, List.getD_eq_getElem?_getD]
theorem stamped_get {bs : List UInt8} {rs : List (List UInt8)} (hl : bs.length = 32) (k : Nat) (hk : k < 28) : (stamped bs rs).getD k 0 = bs.getD k 0 := by
  unfold stamped
  rw [List.getD_eq_getElem?_getD, List.getElem?_append_left (by simp; omega), List.getElem?_take, if_pos hk, List.getD_eq_getElem?_getD]
theorem fullB_get {s : Int} {l : List It} (k : Nat) (hk : k < 9 + 2 * l.length) : (fullB s l).getD k 0 = (hdB s l).getD k 0 := by
  unfold fullB
  rw [List.getD_eq_getElem?_getD, List.getElem?_append_left (by rw [hdB_len]; exact hk), List.getD_eq_getElem?_getD]
theorem plcB_get (l : List It) (k : Nat) (hk : k < l.length) : (plcB l).getD (2 * k) 0 = byN (itN l k).d 0 ∧ (plcB l).getD (2 * k + 1) 0 = byN (itN l k).a 0 := by
  induction l generalizing k with
  | nil => simp at hk
  | cons x l ih =>
    match k with
    | 0 => exact ⟨rfl, rfl⟩
    | k + 1 =>
      have := ih k (by simp at hk; omega)
      refine ⟨?_, ?_⟩
      · exact this.1
      · exact this.2
theorem hdB_get9 (s : Int) (l : List It) (j : Nat) : (hdB s l).getD (9 + j) 0 = (plcB l).getD j 0 := by
  unfold hdB
  rw [List.getD_eq_getElem?_getD, List.getElem?_append_right (by simp), List.getD_eq_getElem?_getD]
  congr 2
  simp
theorem recB_by {s : Int} {l : List It} (h : l.length ≤ 3) (k : Nat) (hk : k < 9 + 2 * l.length) : ((recB s l).getD 0 []).getD k 0 = (hdB s l).getD k 0 := by
  rw [recB_get0, stamped_get (fullB_len h) k (by omega), fullB_get k hk]
theorem sqO_recB {s : Int} {l : List It} (h : recOk s l = true) : sqO (recB s l) = s := by
  obtain ⟨⟨h1, h2, h3⟩, _⟩ := (recOk_iff s l).1 h
  unfold sqO
  rw [recB_by h3 4 (by omega), recB_by h3 5 (by omega), recB_by h3 6 (by omega), recB_by h3 7 (by omega)]
  exact byN_four ⟨h1, h2⟩
theorem cnO_recB {s : Int} {l : List It} (h : l.length ≤ 3) : cnO (recB s l) = l.length := by
  unfold cnO
  rw [recB_by h 8 (by omega)]
  show (UInt8.ofNat l.length).toNat = _
  rw [UInt8.toNat_ofNat']; omega
theorem itO_recB {s : Int} {l : List It} (h : recOk s l = true) (k : Nat) (hk : k < l.length) : itO (recB s l) k = itN l k := by
  obtain ⟨⟨h1, h2, h3⟩, _⟩ := (recOk_iff s l).1 h
  have hm := recOk_may h _ (itN_mem hk)
  have e1 : ((recB s l).getD 0 []).getD (9 + 2 * k) 0 = byN (itN l k).d 0 := by
    rw [recB_by h3 _ (by omega), hdB_get9, (plcB_get l k hk).1]
  have e2 : ((recB s l).getD 0 []).getD (10 + 2 * k) 0 = byN (itN l k).a 0 := by
    rw [recB_by h3 _ (by omega), show 10 + 2 * k = 9 + (2 * k + 1) by omega, hdB_get9, (plcB_get l k hk).2]
  have e3 : (recB s l).getD (1 + k) [] = (itN l k).b := by rw [recB_getS, partsB_get k hk]
  apply It.ext'
  · show ((((recB s l).getD 0 []).getD (9 + 2 * k) 0).toNat : Int) = _
    rw [e1]; exact byX_one (by omega)
  · show ((((recB s l).getD 0 []).getD (10 + 2 * k) 0).toNat : Int) = _
    rw [e2]; exact byX_one (by omega)
  · exact e3
theorem itsO_recB {s : Int} {l : List It} (h : recOk s l = true) : itsO (recB s l) = l := by
  obtain ⟨⟨h1, h2, h3⟩, _⟩ := (recOk_iff s l).1 h
  have e : itsO (recB s l) = itsN (recB s l) l.length := by unfold itsO; rw [cnO_recB h3, Nat.min_eq_left h3]
  rw [e]
  apply List.ext_getElem (itsN_len _ _)
  intro k h1' h2'
  have := itO_recB h k h2'
  simp only [itsN, List.getElem_map, List.getElem_range]
  rw [this]
  simp [itN, List.getD_eq_getElem?_getD, h2']
theorem sect_recB {s : Int} {l : List It} (h : recOk s l = true) : sect (recB s l) = true := by
  obtain ⟨⟨h1, h2, h3⟩, _⟩ := (recOk_iff s l).1 h
  refine (sect_iff _).2 ⟨recB_len h3, fun x hx => ?_⟩
  rcases List.mem_cons.1 hx with rfl | hx
  · exact stamped_len _ _ (fullB_len h3)
  · rcases List.mem_append.1 hx with hx | hx
    · obtain ⟨y, hy, rfl⟩ := List.mem_map.1 hx
      exact (recOk_may h y hy).2.2.2.2
    · rw [(List.mem_replicate.1 hx).2]; rfl
theorem rcO_recB {s : Int} {l : List It} (h : recOk s l = true) : rcO (recB s l) = true := by
  refine (rcO_iff _).2 ⟨sect_recB h, ?_, ?_⟩
  · rw [sqO_recB h, itsO_recB h]; exact h
  · rw [sqO_recB h, itsO_recB h]
theorem rcS_recB {s : Int} {l : List It} (h : recOk s l = true) : rcS (recB s l) = s := (if_pos (rcO_recB h)).trans (sqO_recB h)
theorem rcL_recB {s : Int} {l : List It} (h : recOk s l = true) : rcL (recB s l) = l := (if_pos (rcO_recB h)).trans (itsO_recB h)
end Go.Proofs.YtenkkdnepmoihaaGreatDoor
end
section
set_option linter.unusedVariables false
set_option linter.unusedSimpArgs false
namespace Go.Proofs.YtenkkdnepmoihaaGreatDoor

def itWr (N : Bch) (x : It) : Int × Bch := (N.writeE x.d x.a x.b.length, N.write x.d x.a x.b)
def itFl (N : Bch) (x : It) : Int × Bch := (N.flushE x.d, N.flush x.d)
/-- What is done Item by Item, up to the first error. -/
def runTo (f : Bch → It → Int × Bch) (l : List It) (N : Bch) : Nat → Int × Bch
  | 0 => (0, N)
  | i + 1 => if (runTo f l N i).1 ≠ 0 then runTo f l N i else
      if (f (runTo f l N i).2 (itN l i)).1 = 5 then (0, (f (runTo f l N i).2 (itN l i)).2) else f (runTo f l N i).2 (itN l i)
def wroteI (N : Bch) (l : List It) : Int × Bch := runTo itWr l N l.length
def settleS (N : Bch) (l : List It) : Int × Bch := if (wroteI N l).1 ≠ 0 then wroteI N l else runTo itFl l (wroteI N l).2 l.length
section
variable {f : Bch → It → Int × Bch} {l : List It} {N : Bch}
theorem runTo_pass {i : Nat} (h : (runTo f l N i).1 = 0) (hq : (f (runTo f l N i).2 (itN l i)).1 = 5) : runTo f l N (i + 1) = (0, (f (runTo f l N i).2 (itN l i)).2) := by
  rw [runTo, if_neg (by simp [h]), if_pos hq]
theorem runTo_goes {i : Nat} (h : (runTo f l N i).1 = 0) (hq : (f (runTo f l N i).2 (itN l i)).1 ≠ 5) : runTo f l N (i + 1) = f (runTo f l N i).2 (itN l i) := by
  rw [runTo, if_neg (by simp [h]), if_neg hq]
theorem runTo_stop {i : Nat} (h : (runTo f l N i).1 ≠ 0) : ∀ m, i ≤ m → runTo f l N m = runTo f l N i
  | 0, hm => by obtain rfl : i = 0 := by omega
                rfl
  | m + 1, hm => by
    by_cases e : i = m + 1
    · rw [e]
    · have ih := runTo_stop h m (by omega)
      rw [runTo, if_pos (by rw [ih]; exact h), ih]
theorem runTo_any (P : Bch → Prop) (h0 : P N) (hs : ∀ M x, P M → P (f M x).2) : ∀ i, P (runTo f l N i).2
  | 0 => h0
  | i + 1 => by
    have ih := runTo_any P h0 hs i
    rw [runTo]
    repeat' split
    · exact ih
    · exact hs _ _ ih
    · exact hs _ _ ih
end
section
variable {l : List It} {N : Bch}
theorem ran_n (i : Nat) : (runTo itWr l N i).2.n = N.n := runTo_any (fun M => M.n = N.n) rfl (fun M x h => (Bch.write_n M _ _ _).trans h) i
theorem ranF_n (i : Nat) : (runTo itFl l N i).2.n = N.n := runTo_any (fun M => M.n = N.n) rfl (fun M x h => (flush_n M _).trans h) i
theorem settle_n : (settleS N l).2.n = N.n := by
  unfold settleS wroteI; split
  · exact ran_n _
  · exact (ranF_n _).trans (ran_n _)
theorem ran_done : ∀ i, (runTo itWr l N i).2.done ≤ N.done + i
  | 0 => Nat.le_refl _
  | i + 1 => by
    have ih := ran_done i
    have h := write_done (runTo itWr l N i).2 (itN l i).d (itN l i).a (itN l i).b
    rw [runTo]
    repeat' split
    · omega
    · exact Nat.le_trans h (by omega)
    · exact Nat.le_trans h (by omega)
theorem ran_len (j : Nat) : ∀ i, ((runTo itWr l N i).2.D j).ps.length ≤ (N.D j).ps.length + i
  | 0 => Nat.le_refl _
  | i + 1 => by
    have ih := ran_len j i
    have h := write_len (runTo itWr l N i).2 (itN l i).d (itN l i).a (itN l i).b j
    rw [runTo]
    repeat' split
    · omega
    · exact Nat.le_trans h (by omega)
    · exact Nat.le_trans h (by omega)
end
/-! What is put. -/
def liveD (n : Nat) (lv : List Bool) (d : Int) : Bool := decide (d < (n : Int)) && lv.getD d.toNat false
def secIt (d : Nat) (rs : List (List UInt8)) (k : Nat) : It := ⟨(d : Int), ((2 + k : Nat) : Int), rs.getD k []⟩
def secIts (d : Nat) (rs : List (List UInt8)) (i : Nat) : List It := (List.range i).map (secIt d rs)
theorem secIts_succ (d : Nat) (rs : List (List UInt8)) (i : Nat) : secIts d rs (i + 1) = secIts d rs i ++ [secIt d rs i] := by simp [secIts, List.range_succ]
theorem secIts_len (d : Nat) (rs : List (List UInt8)) (i : Nat) : (secIts d rs i).length = i := by simp [secIts]
def putTo (n : Nat) (lv : List Bool) (rs : List (List UInt8)) : Nat → List It
  | 0 => []
  | d + 1 => putTo n lv rs d ++ if liveD n lv (d : Int) = true then secIts d rs rs.length else []
theorem putTo_no {n : Nat} {lv : List Bool} {rs : List (List UInt8)} {d : Nat} (h : liveD n lv (d : Int) = false) : putTo n lv rs (d + 1) = putTo n lv rs d := by
  rw [putTo, if_neg (by simp [h]), List.append_nil]
theorem putTo_yes {n : Nat} {lv : List Bool} {rs : List (List UInt8)} {d : Nat} (h : liveD n lv (d : Int) = true) : putTo n lv rs (d + 1) = putTo n lv rs d ++ secIts d rs rs.length := by
  rw [putTo, if_pos h]
theorem putTo_len (n : Nat) (lv : List Bool) (rs : List (List UInt8)) : ∀ d, (putTo n lv rs d).length ≤ d * rs.length
  | 0 => by simp [putTo]
  | d + 1 => by
    have ih := putTo_len n lv rs d
    have e : (d + 1) * rs.length = d * rs.length + rs.length := Nat.succ_mul _ _
    rw [putTo, List.length_append, e]
    split
    · rw [secIts_len]; omega
    · simp; omega
theorem mem_put {n : Nat} {lv : List Bool} {rs : List (List UInt8)} {x : It} : ∀ {d : Nat}, x ∈ putTo n lv rs d ↔ ∃ j k, j < d ∧ k < rs.length ∧ liveD n lv (j : Int) = true ∧ x = secIt j rs k
  | 0 => by simp [putTo]
  | d + 1 => by
    rw [putTo, List.mem_append, mem_put (d := d)]
    constructor
    · rintro (⟨j, k, hj, hk, hl, e⟩ | h)
      · exact ⟨j, k, by omega, hk, hl, e⟩
      · by_cases hl : liveD n lv (d : Int) = true
        · rw [if_pos hl] at h
          obtain ⟨k, hk, e⟩ := List.mem_map.1 h
          exact ⟨d, k, by omega, List.mem_range.1 hk, hl, e.symm⟩
        · rw [if_neg hl] at h; cases h
    · rintro ⟨j, k, hj, hk, hl, e⟩
      by_cases h : j = d
      · subst h; exact .inr (by rw [if_pos hl]; exact List.mem_map.2 ⟨k, List.mem_range.2 hk, e.symm⟩)
      · exact .inl ⟨j, k, by omega, hk, hl, e⟩
def putS (N : Bch) (lv : List Bool) (s : Int) (l : List It) : Int × Bch := if recOk s l = true then settleS N (putTo N.n lv (recB s l) N.n) else (1, N)
/-! What is applied. -/
def liveI (n : Nat) (lv : List Bool) (x : It) : Bool := liveD n lv x.d
def appS (N : Bch) (lv : List Bool) (s : Int) (l : List It) : Int × Bch := if recOk s l = true then settleS N (l.filter (liveI N.n lv)) else (1, N)
theorem put_n (N : Bch) (lv : List Bool) (s : Int) (l : List It) : (putS N lv s l).2.n = N.n := by
  unfold putS; split
  · exact settle_n
  · rfl
theorem app_n (N : Bch) (lv : List Bool) (s : Int) (l : List It) : (appS N lv s l).2.n = N.n := by
  unfold appS; split
  · exact settle_n
  · rfl
/-! What is found. -/
def logR (D : Dsk) : List (List UInt8) := (List.range 4).map fun k => secAt D.now (2 + k)
def goneD (N : Bch) (d : Nat) : Bool := N.down || (N.D d).f
def onB (N : Bch) (d : Nat) : Bool := if goneD N d = true then false else rcO (logR (N.D d))
def onS (N : Bch) (d : Nat) : Int := if goneD N d = true then 0 else rcS (logR (N.D d))
def onL (N : Bch) (d : Nat) : List It := if goneD N d = true then [] else rcL (logR (N.D d))
end Go.Proofs.YtenkkdnepmoihaaGreatDoor
end
section
set_option linter.unusedVariables false
set_option linter.unusedSimpArgs false
namespace Go.Proofs.YtenkkdnepmoihaaGreatDoor
open Go.RowKit

theorem rx_cell_at {w : World} {B g n cap : Nat} {e : TypeId} {size : Nat} {xs : List Value} (h : w.ownsRow B e size (.slice (some ⟨g, 0, none⟩) n cap) n xs) (j : Nat) (hj : j < xs.length) : w.cell? ⟨g, j, none⟩ = xs[j]? := by
  rcases h.2 with ⟨h1, _⟩ | ⟨g', cap', cur, h1, h2, h3, h4, h5, h6, h7⟩
  · cases h1
  · injection h1 with h8 _ h9
    injection h8 with h8
    injection h8 with h8 _ _
    subst h8 h9
    have hx := h.1
    rw [cell_of_row w g j cur e (0, 0) h3, ← h7, List.getElem?_take, if_pos (by omega), Array.getElem?_toList]
theorem rx_form {w : World} {B n : Nat} {e : TypeId} {size : Nat} {v : Value} {xs : List Value} (h : w.ownsRow B e size v n xs) : ∃ A c, v = .slice A n c ∧ n ≤ c ∧ (0 < n → ∃ g, A = some ⟨g, 0, none⟩ ∧ B ≤ g) := by
  rcases h.2 with ⟨rfl, rfl⟩ | ⟨g, cap, cur, rfl, hB, _, hc, _⟩
  · exact ⟨none, 0, rfl, Nat.le_refl _, fun h => by omega⟩
  · exact ⟨_, cap, rfl, hc, fun _ => ⟨g, rfl, hB⟩⟩
theorem rangeAt_keep {w w' : World} {b o : Nat} {cs : List Value} (h : w.rangeAt b o cs) (hk : ∀ k, w'.cell? ⟨b, k, none⟩ = w.cell? ⟨b, k, none⟩) : w'.rangeAt b o cs := fun j v hj => (hk _).trans (h j v hj)
/-- The cells of Items whose Data lie there. -/
def itcs : List It → List Value → List Value
  | x :: l, u :: xs => .int .i64 x.d :: .int .i64 x.a :: u :: itcs l xs
  | _, _ => []
theorem itcs_len : ∀ (l : List It) (xs : List Value), xs.length = l.length → (itcs l xs).length = l.length * 3
  | [], xs, _ => by simp [itcs]
  | x :: l, [], h => by simp at h
  | x :: l, u :: xs, h => by
    have := itcs_len l xs (by simpa using h)
    simp only [itcs, List.length_cons]; omega
theorem itcs_get : ∀ (l : List It) (xs : List Value) (k : Nat) (u : Value), xs.length = l.length → xs[k]? = some u → ∀ j, j < 3 → (itcs l xs)[k * 3 + j]? = [.int .i64 (itN l k).d, .int .i64 (itN l k).a, u][j]?
  | [], [], k, u, _, h, _, _ => by simp at h
  | [], _ :: _, _, _, h, _, _, _ => by simp at h
  | _ :: _, [], _, _, h, _, _, _ => by simp at h
  | x :: l, v :: xs, 0, u, _, h, j, hj => by
    obtain rfl : v = u := by simpa using h
    match j, hj with
    | 0, _ => rfl
    | 1, _ => rfl
    | 2, _ => rfl
  | x :: l, v :: xs, k + 1, u, hl, h, j, hj => by
    have := itcs_get l xs k u (by simpa using hl) (by simpa using h) j hj
    rw [show (k + 1) * 3 + j = k * 3 + j + 1 + 1 + 1 by omega]
    exact this
/-- All their numbers are whole numbers of 64 digits. -/
def Its64 (l : List It) : Prop := ∀ k, k < l.length → It64 (itN l k)
/-- The slice of Items reads as these. -/
def RdI (w : World) (B : Nat) (A : Option Addr) (l : List It) : Prop :=
  l.length ≤ 140737488355328 ∧ (0 < l.length → ∃ b, A = some ⟨b, 0, none⟩ ∧ b < B ∧ ∀ k, k < l.length → ∃ D c, w.rangeAt b (k * 3) [.int .i64 (itN l k).d, .int .i64 (itN l k).a, .slice D (itN l k).b.length c] ∧ RdB w B D (itN l k).b)
theorem RdI.keep {w w' : World} {B B' : Nat} {A : Option Addr} {l : List It} (h : RdI w B A l) (hB : B ≤ B') (hk : ∀ p : Addr, p.block < B → w'.cell? p = w.cell? p) : RdI w' B' A l :=
  ⟨h.1, fun hn => by
    obtain ⟨b, e, hb, hc⟩ := h.2 hn
    refine ⟨b, e, by omega, fun k hk' => ?_⟩
    obtain ⟨D, c, h1, h2⟩ := hc k hk'
    exact ⟨D, c, rangeAt_keep h1 fun j => hk ⟨b, j, none⟩ hb, h2.keep hB hk⟩⟩
theorem RdI.below {w w' : World} {B B' : Nat} {A : Option Addr} {l : List It} (h : RdI w B A l) (hb : Below B' w w') (hB : B ≤ B') : RdI w' B A l := h.keep (Nat.le_refl _) fun p hp => hb.cell (by omega)
theorem RdI.more {w : World} {B B' : Nat} {A : Option Addr} {l : List It} (h : RdI w B A l) (hB : B ≤ B') : RdI w B' A l := h.keep hB fun _ _ => rfl
theorem RdI.later {w w' : World} {A : Option Addr} {l : List It} (h : RdI w w.heap.size A l) (hb : Below w.heap.size w w') : RdI w' w'.heap.size A l := (h.below hb (Nat.le_refl _)).more hb.size
theorem RdI.nil (w : World) (B : Nat) (A : Option Addr) : RdI w B A [] := ⟨by simp, fun h => by simp at h⟩
theorem itN_take {l : List It} {i k : Nat} (h : k < i) : itN (l.take i) k = itN l k := by
  simp [itN, List.getD_eq_getElem?_getD, h]
theorem RdI.take {w : World} {B : Nat} {A : Option Addr} {l : List It} (h : RdI w B A l) (i : Nat) : RdI w B A (l.take i) :=
  ⟨by have := h.1; simp; omega, fun hn => by
    have hn' : 0 < l.length := by simp at hn; omega
    obtain ⟨b, e, hb, hc⟩ := h.2 hn'
    refine ⟨b, e, hb, fun k hk => ?_⟩
    have hk' : k < i ∧ k < l.length := by simp at hk; omega
    rw [itN_take hk'.1]
    exact hc k hk'.2⟩
theorem itB_get {l : List It} {k : Nat} (hk : k < l.length) : (l.map (·.b)).getD k [] = (itN l k).b := by
  simp [itN, List.getD_eq_getElem?_getD, hk]
end Go.Proofs.YtenkkdnepmoihaaGreatDoor
end
section
set_option linter.unusedVariables false
set_option linter.unusedSimpArgs false
namespace Go.Proofs.YtenkkdnepmoihaaGreatDoor
open Go.RowKit

theorem unlike_any (A : Option Addr) (n c : Nat) (w : World) (r : Bool) (hr : ((n : Int) != 32) = r) :
    Calls Tryz.prog 111 #[.slice A n c] w fun e w' => e = .returned (.bool r) ∧ w' = w := by
  subst hr
  go_enter Tryz.func111, Tryz.ntmps111
  go_wp2
  go_ret
  exact ⟨rfl, rfl⟩
theorem may_any (x : It) (A : Option Addr) (n c : Nat) (w : World) (hn : x.b.length = n) (h : It64 x) :
    Calls Tryz.prog 97 #[.agg #[.int .i64 x.d, .int .i64 x.a, .slice A n c]] w fun e w' => e = .returned (.bool (mayB x)) ∧ Below w.heap.size w w' := by
  have HM := Lib.hid (mayB_iff x)
  obtain ⟨hd, ha⟩ := h
  rw [hn] at HM
  obtain ⟨d, a, b⟩ := x
  dsimp only at *
  have hn' := Lib.hid hn
  clear hn
  generalize mayB ⟨d, a, b⟩ = m at HM
  have B1 := Lib.hid (below1 w (.cells #[.int .i64 d, .int .i64 a, .slice A n c] 92))
  have HY : Hid ((0 ≤ d ∧ d < 8 ∧ 36 ≤ a ∧ a < 52 ∧ n = 32) → m = true) := fun q => HM.out.2 q
  have HN : Hid (¬ (0 ≤ d ∧ d < 8 ∧ 36 ≤ a ∧ a < 52 ∧ n = 32) → m = false) := fun q => by
    rw [← Bool.not_eq_true]; exact fun e => q (HM.out.1 e)
  clear HM
  by_cases h1 : 0 ≤ d
  · by_cases h2 : d < 8
    · by_cases h3 : 36 ≤ a
      · by_cases h4 : a < 52
        · by_cases h5 : n = 32
          · have R := Lib.hid (HY.out ⟨h1, h2, h3, h4, h5⟩)
            have CU := Lib.hid fun W => unlike_any A n c W false (by rw [h5]; rfl)
            clear h5
            go_enter Tryz.func97, Tryz.ntmps97
            go_wp2_with (go_at_call 111; refine (CU.out _).mono ?_; rintro e w' ⟨rfl, rfl⟩)
            go_ret
            exact ⟨by rw [R.out]; rfl, B1.out⟩
          · have R := Lib.hid (HN.out (by omega))
            have CU := Lib.hid fun W => unlike_any A n c W true (by rw [bne_iff_ne]; omega)
            clear h5
            go_enter Tryz.func97, Tryz.ntmps97
            go_wp2_with (go_at_call 111; refine (CU.out _).mono ?_; rintro e w' ⟨rfl, rfl⟩)
            go_ret
            exact ⟨by rw [R.out]; rfl, B1.out⟩
        · have R := Lib.hid (HN.out (by omega))
          go_enter Tryz.func97, Tryz.ntmps97
          go_wp2
          go_ret
          exact ⟨by rw [R.out]; rfl, B1.out⟩
      · have R := Lib.hid (HN.out (by omega))
        go_enter Tryz.func97, Tryz.ntmps97
        go_wp2
        go_ret
        exact ⟨by rw [R.out]; rfl, B1.out⟩
    · have R := Lib.hid (HN.out (by omega))
      go_enter Tryz.func97, Tryz.ntmps97
      go_wp2
      go_ret
      exact ⟨by rw [R.out]; rfl, B1.out⟩
  · have R := Lib.hid (HN.out (by omega))
    go_enter Tryz.func97, Tryz.ntmps97
    go_wp2
    go_ret
    exact ⟨by rw [R.out]; rfl, B1.out⟩
theorem meets_any (x y : It) (A A' : Option Addr) (n c n' c' : Nat) (w : World) :
    Calls Tryz.prog 99 #[.agg #[.int .i64 x.d, .int .i64 x.a, .slice A n c], .agg #[.int .i64 y.d, .int .i64 y.a, .slice A' n' c']] w fun e w' => e = .returned (.bool (meetsB x y)) ∧ Below w.heap.size w w' := by
  have HM := Lib.hid (meetsB_iff x y)
  obtain ⟨d, a, b⟩ := x
  obtain ⟨d', a', b'⟩ := y
  dsimp only at *
  generalize meetsB ⟨d, a, b⟩ ⟨d', a', b'⟩ = m at HM
  have B1 := Lib.hid (below2 w (.cells #[.int .i64 d, .int .i64 a, .slice A n c] 92) (.cells #[.int .i64 d', .int .i64 a', .slice A' n' c'] 92))
  have HN : Hid (¬ (d = d' ∧ a = a') → m = false) := fun q => by
    rw [← Bool.not_eq_true]; exact fun e => q (HM.out.1 e)
  by_cases h1 : d = d'
  · by_cases h2 : a = a'
    · have R := Lib.hid (HM.out.2 ⟨h1, h2⟩)
      have e1 : (d == d') = true := by rw [h1]; exact beq_self_eq_true _
      have e2 : (a == a') = true := by rw [h2]; exact beq_self_eq_true _
      clear h1 h2
      go_enter Tryz.func99, Tryz.ntmps99
      go_wp2
      go_ret
      exact ⟨by rw [R.out]; rfl, B1.out⟩
    · have R := Lib.hid (HN.out (fun q => h2 q.2))
      have e1 : (d == d') = true := by rw [h1]; exact beq_self_eq_true _
      have e2 : (a == a') = false := beq_eq_false_iff_ne.2 h2
      clear h1 h2
      go_enter Tryz.func99, Tryz.ntmps99
      go_wp2
      go_ret
      exact ⟨by rw [R.out]; rfl, B1.out⟩
  · have R := Lib.hid (HN.out (fun q => h1 q.1))
    have e1 : (d == d') = false := beq_eq_false_iff_ne.2 h1
    clear h1
    go_enter Tryz.func99, Tryz.ntmps99
    go_wp2
    go_ret
    exact ⟨by rw [R.out]; rfl, B1.out⟩
end Go.Proofs.YtenkkdnepmoihaaGreatDoor
end
section
set_option maxRecDepth 8000
set_option linter.unusedVariables false
set_option linter.unusedSimpArgs false
namespace Go.Proofs.YtenkkdnepmoihaaGreatDoor
open Go.RowKit

theorem its_take {l : List It} {i : Nat} (hi : i < l.length) : l.take (i + 1) = l.take i ++ [itN l i] := by
  rw [List.take_succ_eq_append_getElem hi]; simp [itN, hi]
set_option maxHeartbeats 800000 in
theorem idxI_any (A : Option Addr) (n c : Nat) (l : List It) (x : It) (D : Option Addr) (m cd : Nat) (w : World) (hn : l.length = n) (h : RdI w w.heap.size A l) :
    Calls Tryz.prog 129 #[.slice A n c, .func (.func 99) #[.agg #[.int .i64 x.d, .int .i64 x.a, .slice D m cd]] #[]] w fun e w' => ∃ r : Int, e = .returned (.int .i64 r) ∧ decide (0 ≤ r) = l.any (meetsB x) ∧ Below w.heap.size w w' := by
  subst hn
  have H := Lib.hid h
  have hmx := h.1
  clear h
  go_enter Tryz.func129, Tryz.ntmps129
  go_wp2
  go_loopw [8] (fun i wr => ∃ j : Nat, j ≤ l.length ∧ i = .int .i64 j ∧ (l.take j).any (meetsB x) = false ∧ Below w.heap.size w wr) (fun i _ => l.length - (intOf i).toNat)
  case atStart => exact ⟨0, Nat.zero_le _, rfl, by simp, Below.refl _ _⟩
  case round =>
    obtain ⟨j, hj, rfl, hall, hbr⟩ := hrel
    have Hall := Lib.hid hall
    clear hall
    by_cases hlt : j < l.length
    · obtain ⟨g, rfl, hg, hc⟩ := (H.out.below hbr (Nat.le_refl _)).2 (by omega)
      obtain ⟨D', c', hrp, _⟩ := hc j hlt
      clear hc
      have Hts := Lib.hid (its_take hlt)
      have Hm := Lib.hid (itN_mem hlt)
      generalize itN l j = y at hrp Hts Hm
      have CL := Lib.hid (meets_any x y D D' m cd y.b.length c' wr)
      have Hrp := Lib.hid hrp
      have k0 : (0 : Int) ≤ (j : Int) := by omega
      have k1 : (j : Int) < (l.length : Int) := by omega
      clear hrp
      cases hpk : meetsB x y with
      | true =>
        rw [hpk] at CL
        have Hpk := Lib.hid hpk
        clear hpk
        go_wp2_with (first
          | ((with_reducible refine (id ?_ : wpList _ _ _ (⟨some 15, _, _, _, _, _⟩ :: _) _ _)); refine wpList_load_mid rfl 92 _ (by rfl) g (j * 3) (by rfl) [.int .i64 y.d, .int .i64 y.a, .slice D' y.b.length c'] _ Hrp.out Tryz.underlying92 rfl (by kernel_rfl) ?_)
          | (go_at_call 99; refine CL.out.mono ?_; rintro e w1 ⟨rfl, hb1⟩))
        go_ret
        exact ⟨(j : Int), rfl, by rw [decide_eq_true (by omega)]; exact (List.any_eq_true.2 ⟨y, Hm.out, Hpk.out⟩).symm, hbr.trans (hb1.mono hbr.size)⟩
      | false =>
        rw [hpk] at CL
        have Hpk := Lib.hid hpk
        clear hpk
        go_wp2_with (first
          | ((with_reducible refine (id ?_ : wpList _ _ _ (⟨some 15, _, _, _, _, _⟩ :: _) _ _)); refine wpList_load_mid rfl 92 _ (by rfl) g (j * 3) (by rfl) [.int .i64 y.d, .int .i64 y.a, .slice D' y.b.length c'] _ Hrp.out Tryz.underlying92 rfl (by kernel_rfl) ?_)
          | (go_at_call 99; refine CL.out.mono ?_; rintro e w1 ⟨rfl, hb1⟩))
        go_roundw
        case rel => exact ⟨j + 1, by omega, by go_num, by rw [Hts.out, List.any_append, Hall.out]; simpa using Hpk.out, hbr.trans (hb1.mono hbr.size)⟩
        case measure => simp [intOf]; omega
    · obtain rfl : j = l.length := by omega
      go_wp2
      go_ret
      exact ⟨-1, rfl, by have := Hall.out; rw [List.take_length] at this; rw [this]; decide, hbr⟩
theorem anyI_any (A : Option Addr) (n c : Nat) (l : List It) (x : It) (D : Option Addr) (m cd : Nat) (w : World) (hn : l.length = n) (h : RdI w w.heap.size A l) :
    Calls Tryz.prog 98 #[.slice A n c, .func (.func 99) #[.agg #[.int .i64 x.d, .int .i64 x.a, .slice D m cd]] #[]] w fun e w' => e = .returned (.bool (l.any (meetsB x))) ∧ Below w.heap.size w w' := by
  have C := Lib.hid (idxI_any A n c l x D m cd w hn h)
  clear h hn
  go_enter Tryz.func98, Tryz.ntmps98
  go_wp2_with fail
  refine C.out.mono ?_
  rintro e w1 ⟨r, rfl, hr, hb1⟩
  have Hr := Lib.hid hr
  clear hr
  go_wp2
  go_ret
  exact ⟨by rw [← Hr.out]; rfl, hb1⟩
end Go.Proofs.YtenkkdnepmoihaaGreatDoor
end
section
set_option maxRecDepth 8000
set_option linter.unusedVariables false
set_option linter.unusedSimpArgs false
namespace Go.Proofs.YtenkkdnepmoihaaGreatDoor
open Go.RowKit

instance itDec : DecidableEq It := fun x y => decidable_of_iff (x.d = y.d ∧ x.a = y.a ∧ x.b = y.b) ⟨fun h => It.ext' h.1 h.2.1 h.2.2, fun h => by subst h; exact ⟨rfl, rfl, rfl⟩⟩
end Go.Proofs.YtenkkdnepmoihaaGreatDoor
end
