/- Texts put together: SupMath, RecMath. -/
import Derived.Test.YtkbhnbkjpnigkaaDoorLcab
import Derived.Test.YtkbhnbkjpnigkaaDoorLcaa
section
namespace Go.Proofs.YtkbhnbkjpnigkaaDoor

/-- A Super's fields: generation, its geometry, the one it goes to, whether it does, window, epoch, what is out. -/
structure Su where
  g : Int
  al : Int
  ad : Int
  ac : Int
  bl : Int
  bd : Int
  bc : Int
  r : Bool
  wi : Int
  ep : Int
  ou : Int
/-- All numbers are whole numbers of 64 digits. -/
structure Su64 (s : Su) : Prop where
  g : (-9223372036854775808 ≤ s.g ∧ s.g ≤ 9223372036854775807)
  al : (-9223372036854775808 ≤ s.al ∧ s.al ≤ 9223372036854775807)
  ad : (-9223372036854775808 ≤ s.ad ∧ s.ad ≤ 9223372036854775807)
  ac : (-9223372036854775808 ≤ s.ac ∧ s.ac ≤ 9223372036854775807)
  bl : (-9223372036854775808 ≤ s.bl ∧ s.bl ≤ 9223372036854775807)
  bd : (-9223372036854775808 ≤ s.bd ∧ s.bd ≤ 9223372036854775807)
  bc : (-9223372036854775808 ≤ s.bc ∧ s.bc ≤ 9223372036854775807)
  wi : (-9223372036854775808 ≤ s.wi ∧ s.wi ≤ 9223372036854775807)
  ep : (-9223372036854775808 ≤ s.ep ∧ s.ep ≤ 9223372036854775807)
  ou : (-9223372036854775808 ≤ s.ou ∧ s.ou ≤ 9223372036854775807)
def suZ : Su := ⟨0, 0, 0, 0, 0, 0, 0, false, 0, 0, 0⟩
def suEq (s t : Su) : Bool := decide (s.g = t.g ∧ s.al = t.al ∧ s.ad = t.ad ∧ s.ac = t.ac ∧ s.bl = t.bl ∧ s.bd = t.bd ∧ s.bc = t.bc ∧ s.r = t.r ∧ s.wi = t.wi ∧ s.ep = t.ep ∧ s.ou = t.ou)
theorem suEq_iff (s t : Su) : suEq s t = true ↔ s = t := by
  obtain ⟨a1, a2, a3, a4, a5, a6, a7, a8, a9, a10, a11⟩ := s
  obtain ⟨b1, b2, b3, b4, b5, b6, b7, b8, b9, b10, b11⟩ := t
  simp [suEq]
theorem suEq_refl (s : Su) : suEq s s = true := (suEq_iff s s).2 rfl
theorem suEq_no {s t : Su} (h : s ≠ t) : suEq s t = false := by
  rw [← Bool.not_eq_true]; exact fun h' => h ((suEq_iff s t).1 h')
def aimB (s : Su) : Bool := if s.r = true then gCan s.al s.ad s.ac s.bl s.bd s.bc && decide (0 ≤ s.wi ∧ s.wi ≤ 16) else decide (s.bl = 0 ∧ s.bd = 0 ∧ s.bc = 0 ∧ s.wi = 0)
def genB (s : Su) : Bool := decide (1 ≤ s.g ∧ s.g ≤ 2147483647)
def epB (s : Su) : Bool := decide (0 ≤ s.ep ∧ s.ep ≤ 65535)
def ouB (s : Su) : Bool := decide (0 ≤ s.ou ∧ s.ou ≤ 255)
def suOk (s : Su) : Bool := genB s && gOk s.al s.ad s.ac && aimB s && epB s && ouB s
def suErr (s : Su) : Int := if suOk s = true then 0 else 1
theorem suErr_yes {s : Su} (h : suOk s = true) : suErr s = 0 := if_pos h
theorem suErr_no {s : Su} (h : suOk s = false) : suErr s = 1 := if_neg (by rw [h]; decide)
theorem suOk_parts {s : Su} (h : suOk s = true) : genB s = true ∧ gOk s.al s.ad s.ac = true ∧ aimB s = true ∧ epB s = true ∧ ouB s = true := by
  simp [suOk] at h
  exact ⟨h.1.1.1.1, h.1.1.1.2, h.1.1.2, h.1.2, h.2⟩
/-- What holds of the fields of a Super that may be. -/
structure SuIn (s : Su) : Prop where
  g : 1 ≤ s.g ∧ s.g ≤ 2147483647
  al : 0 ≤ s.al ∧ s.al ≤ 255
  ad : 0 ≤ s.ad ∧ s.ad ≤ 255
  ac : 0 ≤ s.ac ∧ s.ac ≤ 255
  bl : 0 ≤ s.bl ∧ s.bl ≤ 255
  bd : 0 ≤ s.bd ∧ s.bd ≤ 255
  bc : 0 ≤ s.bc ∧ s.bc ≤ 255
  wi : 0 ≤ s.wi ∧ s.wi ≤ 255
  ep : 0 ≤ s.ep ∧ s.ep ≤ 65535
  ou : 0 ≤ s.ou ∧ s.ou ≤ 255
theorem suIn {s : Su} (h : suOk s = true) : SuIn s := by
  obtain ⟨h1, h2, h3, h4, h5⟩ := suOk_parts h
  have a := gOk_bd h2
  have q1 : 1 ≤ s.g ∧ s.g ≤ 2147483647 := by simpa [genB] using h1
  have q4 : 0 ≤ s.ep ∧ s.ep ≤ 65535 := by simpa [epB] using h4
  have q5 : 0 ≤ s.ou ∧ s.ou ≤ 255 := by simpa [ouB] using h5
  have b : (0 ≤ s.bl ∧ s.bl ≤ 255) ∧ (0 ≤ s.bd ∧ s.bd ≤ 255) ∧ (0 ≤ s.bc ∧ s.bc ≤ 255) ∧ (0 ≤ s.wi ∧ s.wi ≤ 255) := by
    unfold aimB at h3
    split at h3
    · simp only [Bool.and_eq_true, decide_eq_true_eq] at h3
      have := gOk_bd (gCan_parts h3.1).2.1
      omega
    · have := of_decide_eq_true h3
      omega
  exact ⟨q1, by omega, by omega, by omega, b.1, b.2.1, b.2.2.1, b.2.2.2, q4, q5⟩
/-- Byte k of a number, from its low end. -/
def byN (n : Int) (k : Nat) : UInt8 := UInt8.ofNat (n.toNat / 256 ^ k)
def rnB (r : Bool) : UInt8 := if r = true then 1 else 0
def suBody (s : Su) : List UInt8 := [87, 83, 85, 80, byN s.g 3, byN s.g 2, byN s.g 1, byN s.g 0, byN s.al 0, byN s.ad 0, byN s.ac 0, byN s.bl 0, byN s.bd 0, byN s.bc 0, rnB s.r, byN s.wi 0, byN s.ep 1, byN s.ep 0, byN s.ou 0, 0, 0, 0, 0, 0, 0, 0, 0, 0]
def suFull (s : Su) : List UInt8 := suBody s ++ [0, 0, 0, 0]
def suB (s : Su) : List UInt8 := stamped (suFull s) []
theorem suFull_len (s : Su) : (suFull s).length = 32 := rfl
theorem suB_eq (s : Su) : suB s = suBody s ++ be4 (sumR [suBody s]) := rfl
theorem suB_len (s : Su) : (suB s).length = 32 := rfl
theorem suB_right (s : Su) : rightB (suB s) [] = true := right_stamped _ _ (suFull_len s)
/-- The number that bytes tell, the greatest first. -/
def numB (bs : List UInt8) : Nat := bs.foldl (fun n x => n * 256 + x.toNat) 0
def flds (bs : List UInt8) : Su :=
  ⟨numB [bs.getD 4 0, bs.getD 5 0, bs.getD 6 0, bs.getD 7 0], numB [bs.getD 8 0], numB [bs.getD 9 0], numB [bs.getD 10 0], numB [bs.getD 11 0], numB [bs.getD 12 0], numB [bs.getD 13 0],
    (((bs.getD 14 0).toNat : Int) == 1), numB [bs.getD 15 0], numB [bs.getD 16 0, bs.getD 17 0], numB [bs.getD 18 0]⟩
theorem numB_one (a : UInt8) : numB [a] = a.toNat := by simp [numB]
theorem numB_two (a b : UInt8) : numB [a, b] = a.toNat * 256 + b.toNat := by simp [numB]
theorem numB_four (a b c d : UInt8) : numB [a, b, c, d] = ((a.toNat * 256 + b.toNat) * 256 + c.toNat) * 256 + d.toNat := by simp [numB]
theorem byN_one {n : Int} (h : 0 ≤ n ∧ n ≤ 255) : ((numB [byN n 0] : Nat) : Int) = n := by
  rw [numB_one]; simp only [byN, UInt8.toNat_ofNat']; omega
theorem byN_two {n : Int} (h : 0 ≤ n ∧ n ≤ 65535) : ((numB [byN n 1, byN n 0] : Nat) : Int) = n := by
  rw [numB_two]; simp only [byN, UInt8.toNat_ofNat']; omega
theorem byN_four {n : Int} (h : 1 ≤ n ∧ n ≤ 2147483647) : ((numB [byN n 3, byN n 2, byN n 1, byN n 0] : Nat) : Int) = n := by
  rw [numB_four]; simp only [byN, UInt8.toNat_ofNat']; omega
theorem suB_get (s : Su) (k : Nat) (hk : k < 28) : (suB s).getD k 0 = (suBody s).getD k 0 := by
  rw [suB_eq, List.getD_eq_getElem?_getD, List.getElem?_append_left (by show k < 28; exact hk), List.getD_eq_getElem?_getD]
theorem flds_of {bs : List UInt8} {s : Su} (h : ∀ k, k < 28 → bs.getD k 0 = (suBody s).getD k 0) (hi : SuIn s) : flds bs = s := by
  have hr : ((((rnB s.r).toNat : Nat) : Int) == 1) = s.r := by cases s.r <;> rfl
  unfold flds
  rw [h 4 (by omega), h 5 (by omega), h 6 (by omega), h 7 (by omega), h 8 (by omega), h 9 (by omega), h 10 (by omega), h 11 (by omega), h 12 (by omega), h 13 (by omega), h 14 (by omega), h 15 (by omega), h 16 (by omega), h 17 (by omega), h 18 (by omega)]
  have e : (⟨numB [byN s.g 3, byN s.g 2, byN s.g 1, byN s.g 0], numB [byN s.al 0], numB [byN s.ad 0], numB [byN s.ac 0], numB [byN s.bl 0], numB [byN s.bd 0], numB [byN s.bc 0], (((rnB s.r).toNat : Nat) : Int) == 1, numB [byN s.wi 0], numB [byN s.ep 1, byN s.ep 0], numB [byN s.ou 0]⟩ : Su) = s := by
    rw [byN_four hi.g, byN_one hi.al, byN_one hi.ad, byN_one hi.ac, byN_one hi.bl, byN_one hi.bd, byN_one hi.bc, hr, byN_one hi.wi, byN_two hi.ep, byN_one hi.ou]
  exact e
theorem flds_suB {s : Su} (h : suOk s = true) : flds (suB s) = s := flds_of (suB_get s) (suIn h)
/-- A sector is that of a Super. -/
def decO (bs : List UInt8) : Bool := decide (bs.length = 32) && suOk (flds bs) && decide (suB (flds bs) = bs)
def decS (bs : List UInt8) : Su := if decO bs = true then flds bs else suZ
def decE (bs : List UInt8) : Int := if decO bs = true then 0 else 2
theorem decE_yes {bs : List UInt8} (h : decO bs = true) : decE bs = 0 := if_pos h
theorem decE_no {bs : List UInt8} (h : decO bs = false) : decE bs = 2 := if_neg (by rw [h]; decide)
theorem decS_yes {bs : List UInt8} (h : decO bs = true) : decS bs = flds bs := if_pos h
theorem decS_no {bs : List UInt8} (h : decO bs = false) : decS bs = suZ := if_neg (by rw [h]; decide)
theorem decO_iff (bs : List UInt8) : decO bs = true ↔ bs.length = 32 ∧ suOk (flds bs) = true ∧ suB (flds bs) = bs := by
  simp [decO, and_assoc]
theorem decO_mk {bs : List UInt8} (h1 : bs.length = 32) (h2 : suOk (flds bs) = true) (h3 : suB (flds bs) = bs) : decO bs = true := (decO_iff bs).2 ⟨h1, h2, h3⟩
theorem decO_not {bs : List UInt8} (h : ¬ (bs.length = 32 ∧ suOk (flds bs) = true ∧ suB (flds bs) = bs)) : decO bs = false := by
  rw [← Bool.not_eq_true]; exact fun h' => h ((decO_iff bs).1 h')
theorem decO_right {bs : List UInt8} (h : decO bs = true) : rightB bs [] = true := by
  rw [← ((decO_iff bs).1 h).2.2]; exact suB_right _
theorem decO_suB {s : Su} (h : suOk s = true) : decO (suB s) = true := by
  have e := flds_suB h
  exact decO_mk (suB_len s) (by rw [e]; exact h) (by rw [e])
theorem decS_suB {s : Su} (h : suOk s = true) : decS (suB s) = s := (decS_yes (decO_suB h)).trans (flds_suB h)
theorem suB_inj {s t : Su} (hs : suOk s = true) (ht : suOk t = true) (h : suB s = suB t) : s = t := by
  rw [← flds_suB hs, h, flds_suB ht]
/-- One byte turned: it is a Super's no more, unless by nothing. -/
theorem dec_turned {s : Su} (h : suOk s = true) (i : Nat) (hi : i < 32) (c : UInt8) : decO ((suB s).set i ((suB s).getD i 0 ^^^ c)) = ((c.toNat : Int) == 0) := by
  have hr := right_set (suB_right s) i hi c
  by_cases hc : c = 0
  · subst hc
    have e : (suB s).set i ((suB s).getD i 0 ^^^ 0) = suB s := by
      rw [UInt8.xor_zero]
      apply List.ext_getElem (by simp)
      intro n h1 h2
      rw [List.getElem_set]
      split
      · subst_vars; simp [List.getD_eq_getElem?_getD, h2]
      · rfl
    rw [e, decO_suB h]; rfl
  · have h0 : ((c.toNat : Int) == 0) = false := by rw [byte_eq0]; exact decide_eq_false hc
    rw [h0] at hr ⊢
    rw [← Bool.not_eq_true]
    intro h'
    rw [decO_right h'] at hr
    cases hr
end Go.Proofs.YtkbhnbkjpnigkaaDoor
end
section
namespace Go.Proofs.YtkbhnbkjpnigkaaDoor

/-- An Item: its disk, its place, its bytes. -/
structure It where
  d : Int
  a : Int
  b : List UInt8
def itZ : It := ⟨0, 0, []⟩
/-- Whole numbers of 64 digits, and bytes that fit in memory. -/
structure It64 (x : It) : Prop where
  d : (-9223372036854775808 ≤ x.d ∧ x.d ≤ 9223372036854775807)
  a : (-9223372036854775808 ≤ x.a ∧ x.a ≤ 9223372036854775807)
theorem It.ext' {x y : It} (h1 : x.d = y.d) (h2 : x.a = y.a) (h3 : x.b = y.b) : x = y := by
  obtain ⟨a1, a2, a3⟩ := x
  obtain ⟨b1, b2, b3⟩ := y
  dsimp only at h1 h2 h3
  subst h1 h2 h3
  rfl
def mayB (x : It) : Bool := decide (0 ≤ x.d ∧ x.d < 8 ∧ 36 ≤ x.a ∧ x.a < 52 ∧ x.b.length = 32)
def meetsB (x y : It) : Bool := decide (x.d = y.d ∧ x.a = y.a)
theorem mayB_iff (x : It) : mayB x = true ↔ (0 ≤ x.d ∧ x.d < 8 ∧ 36 ≤ x.a ∧ x.a < 52 ∧ x.b.length = 32) := by simp [mayB]
theorem meetsB_iff (x y : It) : meetsB x y = true ↔ (x.d = y.d ∧ x.a = y.a) := by simp [meetsB]
def itN (l : List It) (k : Nat) : It := l.getD k itZ
/-- The first n of them may be beside one another. -/
def fineN (l : List It) (n : Nat) : Bool := decide (∀ k, k < n → mayB (itN l k) = true ∧ ∀ j, j < k → meetsB (itN l k) (itN l j) = false)
theorem fineN_iff (l : List It) (n : Nat) : fineN l n = true ↔ ∀ k, k < n → mayB (itN l k) = true ∧ ∀ j, j < k → meetsB (itN l k) (itN l j) = false := by simp [fineN]
def recOk (s : Int) (l : List It) : Bool := decide (1 ≤ s ∧ s ≤ 2147483647 ∧ l.length ≤ 3) && fineN l l.length
theorem recOk_iff (s : Int) (l : List It) : recOk s l = true ↔ (1 ≤ s ∧ s ≤ 2147483647 ∧ l.length ≤ 3) ∧ fineN l l.length = true := by simp [recOk]
def recErr (s : Int) (l : List It) : Int := if recOk s l = true then 0 else 1
theorem recErr_yes {s : Int} {l : List It} (h : recOk s l = true) : recErr s l = 0 := if_pos h
theorem recErr_no {s : Int} {l : List It} (h : recOk s l = false) : recErr s l = 1 := if_neg (by rw [h]; decide)
theorem recOk_no {s : Int} {l : List It} (h : ¬ (1 ≤ s ∧ s ≤ 2147483647 ∧ l.length ≤ 3)) : recOk s l = false := by
  rw [← Bool.not_eq_true]; exact fun h' => h ((recOk_iff s l).1 h').1
theorem recOk_at {s : Int} {l : List It} (k : Nat) (hk : k < l.length) (h : mayB (itN l k) = false) : recOk s l = false := by
  rw [← Bool.not_eq_true]; intro h'
  have := ((fineN_iff _ _).1 ((recOk_iff s l).1 h').2 k hk).1
  rw [h] at this; cases this
theorem recOk_two {s : Int} {l : List It} (k j : Nat) (hk : k < l.length) (hj : j < k) (h : meetsB (itN l k) (itN l j) = true) : recOk s l = false := by
  rw [← Bool.not_eq_true]; intro h'
  have := ((fineN_iff _ _).1 ((recOk_iff s l).1 h').2 k hk).2 j hj
  rw [h] at this; cases this
theorem itN_mem {l : List It} {k : Nat} (hk : k < l.length) : itN l k ∈ l := by
  unfold itN
  rw [List.getD_eq_getElem?_getD, List.getElem?_eq_getElem hk]
  exact List.getElem_mem hk
theorem recOk_may {s : Int} {l : List It} (h : recOk s l = true) (x : It) (hx : x ∈ l) : 0 ≤ x.d ∧ x.d < 8 ∧ 36 ≤ x.a ∧ x.a < 52 ∧ x.b.length = 32 := by
  obtain ⟨k, hk, rfl⟩ := List.getElem_of_mem hx
  have := ((fineN_iff _ _).1 ((recOk_iff s l).1 h).2 k hk).1
  rw [show itN l k = l[k] from by simp [itN, List.getD_eq_getElem?_getD, hk]] at this
  exact (mayB_iff _).1 this
theorem byX_one {n : Int} (h : 0 ≤ n ∧ n ≤ 255) : (((byN n 0).toNat : Nat) : Int) = n := by
  simp only [byN, UInt8.toNat_ofNat']; omega
/-- What the first sector says of the Items. -/
def plcB (l : List It) : List UInt8 := l.flatMap fun x => [byN x.d 0, byN x.a 0]
theorem plcB_len (l : List It) : (plcB l).length = 2 * l.length := by
  induction l with
  | nil => rfl
  | cons x l ih => show (plcB l).length + 2 = _; rw [ih, List.length_cons]; omega
theorem plcB_snoc (l : List It) (x : It) : plcB (l ++ [x]) = plcB l ++ [byN x.d 0, byN x.a 0] := by simp [plcB]
def hdB (s : Int) (l : List It) : List UInt8 := [87, 82, 69, 67, byN s 3, byN s 2, byN s 1, byN s 0, UInt8.ofNat l.length] ++ plcB l
theorem hdB_len (s : Int) (l : List It) : (hdB s l).length = 9 + 2 * l.length := by
  show (plcB l).length + 9 = _; rw [plcB_len]; omega
def z32 : List UInt8 := List.replicate 32 0
/-- The first sector, ahead of its seal. -/
def fullB (s : Int) (l : List It) : List UInt8 := hdB s l ++ List.replicate (32 - (hdB s l).length) 0
theorem fullB_len {s : Int} {l : List It} (h : l.length ≤ 3) : (fullB s l).length = 32 := by
  simp only [fullB, List.length_append, hdB_len, List.length_replicate]; omega
def partsB (l : List It) : List (List UInt8) := l.map (·.b) ++ List.replicate (3 - l.length) z32
theorem partsB_len {l : List It} (h : l.length ≤ 3) : (partsB l).length = 3 := by simp [partsB]; omega
/-- A Record's sectors. -/
def recB (s : Int) (l : List It) : List (List UInt8) := stamped (fullB s l) (partsB l) :: partsB l
theorem recB_len {s : Int} {l : List It} (h : l.length ≤ 3) : (recB s l).length = 4 := by
  show (partsB l).length + 1 = 4; rw [partsB_len h]
/-- What the sectors say. -/
def sqO (rs : List (List UInt8)) : Int := numB [(rs.getD 0 []).getD 4 0, (rs.getD 0 []).getD 5 0, (rs.getD 0 []).getD 6 0, (rs.getD 0 []).getD 7 0]
def cnO (rs : List (List UInt8)) : Nat := ((rs.getD 0 []).getD 8 0).toNat
def itO (rs : List (List UInt8)) (i : Nat) : It := ⟨((rs.getD 0 []).getD (9 + 2 * i) 0).toNat, ((rs.getD 0 []).getD (10 + 2 * i) 0).toNat, rs.getD (1 + i) []⟩
def itsN (rs : List (List UInt8)) (n : Nat) : List It := (List.range n).map (itO rs)
def itsO (rs : List (List UInt8)) : List It := itsN rs (min (cnO rs) 3)
theorem itsN_len (rs : List (List UInt8)) (n : Nat) : (itsN rs n).length = n := by simp [itsN]
theorem itsN_succ (rs : List (List UInt8)) (n : Nat) : itsN rs (n + 1) = itsN rs n ++ [itO rs n] := by simp [itsN, List.range_succ]
theorem itsN_at (rs : List (List UInt8)) (n k : Nat) (hk : k < n) : itN (itsN rs n) k = itO rs k := by
  simp [itN, itsN, List.getD_eq_getElem?_getD, hk]
/-- They are four sectors. -/
def sect (rs : List (List UInt8)) : Bool := decide (rs.length = 4) && rs.all fun x => decide (x.length = 32)
theorem sect_iff (rs : List (List UInt8)) : sect rs = true ↔ rs.length = 4 ∧ ∀ x ∈ rs, x.length = 32 := by simp [sect]
theorem sect_get {rs : List (List UInt8)} (h : sect rs = true) (k : Nat) (hk : k < 4) : (rs.getD k []).length = 32 := by
  obtain ⟨h1, h2⟩ := (sect_iff rs).1 h
  rw [List.getD_eq_getElem?_getD, List.getElem?_eq_getElem (by omega)]
  exact h2 _ (List.getElem_mem _)
def rcO (rs : List (List UInt8)) : Bool := sect rs && recOk (sqO rs) (itsO rs) && decide (recB (sqO rs) (itsO rs) = rs)
theorem rcO_iff (rs : List (List UInt8)) : rcO rs = true ↔ sect rs = true ∧ recOk (sqO rs) (itsO rs) = true ∧ recB (sqO rs) (itsO rs) = rs := by simp [rcO, and_assoc]
theorem rcO_not {rs : List (List UInt8)} (h : ¬ (sect rs = true ∧ recOk (sqO rs) (itsO rs) = true ∧ recB (sqO rs) (itsO rs) = rs)) : rcO rs = false := by
  rw [← Bool.not_eq_true]; exact fun h' => h ((rcO_iff rs).1 h')
def rcS (rs : List (List UInt8)) : Int := if rcO rs = true then sqO rs else 0
def rcL (rs : List (List UInt8)) : List It := if rcO rs = true then itsO rs else []
def rcE (rs : List (List UInt8)) : Int := if rcO rs = true then 0 else 2
/-! The sectors of a Record say it. -/
theorem partsB_get {l : List It} (k : Nat) (hk : k < l.length) : (partsB l).getD k [] = (itN l k).b := by
  simp [partsB, itN, List.getD_eq_getElem?_getD, hk, List.getElem?_append_left]
theorem recB_get0 (s : Int) (l : List It) : (recB s l).getD 0 [] = stamped (fullB s l) (partsB l) := rfl
theorem recB_getS (s : Int) (l : List It) (k : Nat) : (recB s l).getD (1 + k) [] = (partsB l).getD k [] := by
  rw [Nat.add_comm]; simp [recB, List.getD_eq_getElem?_getD]
theorem stamped_get {bs : List UInt8} {rs : List (List UInt8)} (hl : bs.length = 32) (k : Nat) (hk : k < 28) : (stamped bs rs).getD k 0 = bs.getD k 0 := by
  unfold stamped
  rw [List.getD_eq_getElem?_getD, List.getElem?_append_left (by simp; omega), List.getElem?_take, if_pos hk, List.getD_eq_getElem?_getD]
theorem fullB_get {s : Int} {l : List It} (k : Nat) (hk : k < 9 + 2 * l.length) : (fullB s l).getD k 0 = (hdB s l).getD k 0 := by
  unfold fullB
  rw [List.getD_eq_getElem?_getD, List.getElem?_append_left (by rw [hdB_len]; exact hk), List.getD_eq_getElem?_getD]
theorem plcB_get (l : List It) (k : Nat) (hk : k < l.length) : (plcB l).getD (2 * k) 0 = byN (itN l k).d 0 ∧ (plcB l).getD (2 * k + 1) 0 = byN (itN l k).a 0 := by
  induction l generalizing k with
  | nil => simp at hk
  | cons x l ih =>
    match k with
    | 0 => exact ⟨rfl, rfl⟩
    | k + 1 =>
      have := ih k (by simp at hk; omega)
      refine ⟨?_, ?_⟩
      · exact this.1
      · exact this.2
theorem hdB_get9 (s : Int) (l : List It) (j : Nat) : (hdB s l).getD (9 + j) 0 = (plcB l).getD j 0 := by
  unfold hdB
  rw [List.getD_eq_getElem?_getD, List.getElem?_append_right (by simp), List.getD_eq_getElem?_getD]
  congr 2
  simp
theorem recB_by {s : Int} {l : List It} (h : l.length ≤ 3) (k : Nat) (hk : k < 9 + 2 * l.length) : ((recB s l).getD 0 []).getD k 0 = (hdB s l).getD k 0 := by
  rw [recB_get0, stamped_get (fullB_len h) k (by omega), fullB_get k hk]
theorem sqO_recB {s : Int} {l : List It} (h : recOk s l = true) : sqO (recB s l) = s := by
  obtain ⟨⟨h1, h2, h3⟩, _⟩ := (recOk_iff s l).1 h
  unfold sqO
  rw [recB_by h3 4 (by omega), recB_by h3 5 (by omega), recB_by h3 6 (by omega), recB_by h3 7 (by omega)]
  exact byN_four ⟨h1, h2⟩
theorem cnO_recB {s : Int} {l : List It} (h : l.length ≤ 3) : cnO (recB s l) = l.length := by
  unfold cnO
  rw [recB_by h 8 (by omega)]
  show (UInt8.ofNat l.length).toNat = _
  rw [UInt8.toNat_ofNat']; omega
theorem itO_recB {s : Int} {l : List It} (h : recOk s l = true) (k : Nat) (hk : k < l.length) : itO (recB s l) k = itN l k := by
  obtain ⟨⟨h1, h2, h3⟩, _⟩ := (recOk_iff s l).1 h
  have hm := recOk_may h _ (itN_mem hk)
  have e1 : ((recB s l).getD 0 []).getD (9 + 2 * k) 0 = byN (itN l k).d 0 := by
    rw [recB_by h3 _ (by omega), hdB_get9, (plcB_get l k hk).1]
  have e2 : ((recB s l).getD 0 []).getD (10 + 2 * k) 0 = byN (itN l k).a 0 := by
    rw [recB_by h3 _ (by omega), show 10 + 2 * k = 9 + (2 * k + 1) by omega, hdB_get9, (plcB_get l k hk).2]
  have e3 : (recB s l).getD (1 + k) [] = (itN l k).b := by rw [recB_getS, partsB_get k hk]
  apply It.ext'
  · show ((((recB s l).getD 0 []).getD (9 + 2 * k) 0).toNat : Int) = _
    rw [e1]; exact byX_one (by omega)
  · show ((((recB s l).getD 0 []).getD (10 + 2 * k) 0).toNat : Int) = _
    rw [e2]; exact byX_one (by omega)
  · exact e3
theorem itsO_recB {s : Int} {l : List It} (h : recOk s l = true) : itsO (recB s l) = l := by
  obtain ⟨⟨h1, h2, h3⟩, _⟩ := (recOk_iff s l).1 h
  have e : itsO (recB s l) = itsN (recB s l) l.length := by unfold itsO; rw [cnO_recB h3, Nat.min_eq_left h3]
  rw [e]
  apply List.ext_getElem (itsN_len _ _)
  intro k h1' h2'
  have := itO_recB h k h2'
  simp only [itsN, List.getElem_map, List.getElem_range]
  rw [this]
  simp [itN, List.getD_eq_getElem?_getD, h2']
theorem sect_recB {s : Int} {l : List It} (h : recOk s l = true) : sect (recB s l) = true := by
  obtain ⟨⟨h1, h2, h3⟩, _⟩ := (recOk_iff s l).1 h
  refine (sect_iff _).2 ⟨recB_len h3, fun x hx => ?_⟩
  rcases List.mem_cons.1 hx with rfl | hx
  · exact stamped_len _ _ (fullB_len h3)
  · rcases List.mem_append.1 hx with hx | hx
    · obtain ⟨y, hy, rfl⟩ := List.mem_map.1 hx
      exact (recOk_may h y hy).2.2.2.2
    · rw [(List.mem_replicate.1 hx).2]; rfl
theorem rcO_recB {s : Int} {l : List It} (h : recOk s l = true) : rcO (recB s l) = true := by
  refine (rcO_iff _).2 ⟨sect_recB h, ?_, ?_⟩
  · rw [sqO_recB h, itsO_recB h]; exact h
  · rw [sqO_recB h, itsO_recB h]
theorem rcS_recB {s : Int} {l : List It} (h : recOk s l = true) : rcS (recB s l) = s := (if_pos (rcO_recB h)).trans (sqO_recB h)
theorem rcL_recB {s : Int} {l : List It} (h : recOk s l = true) : rcL (recB s l) = l := (if_pos (rcO_recB h)).trans (itsO_recB h)
theorem rcE_recB {s : Int} {l : List It} (h : recOk s l = true) : rcE (recB s l) = 0 := if_pos (rcO_recB h)
theorem recB_inj {s t : Int} {l m : List It} (h : recOk s l = true) (g : recOk t m = true) (e : recB s l = recB t m) : s = t ∧ l = m :=
  ⟨by rw [← sqO_recB h, e, sqO_recB g], by rw [← itsO_recB h, e, itsO_recB g]⟩
theorem recB_right {s : Int} {l : List It} (h : l.length ≤ 3) : rightB (stamped (fullB s l) (partsB l)) (partsB l) = true := right_stamped _ _ (fullB_len h)
/-- What is a Record's is sealed rightly. -/
theorem rcO_right {rs : List (List UInt8)} (h : rcO rs = true) : rightB (rs.getD 0 []) (rs.drop 1) = true := by
  obtain ⟨_, h1, h2⟩ := (rcO_iff rs).1 h
  rw [← h2]
  exact recB_right ((recOk_iff _ _).1 h1).1.2.2
/-- Byte i of sector k turned. -/
def turnB (rs : List (List UInt8)) (k i : Nat) (c : UInt8) : List (List UInt8) := rs.set k ((rs.getD k []).set i ((rs.getD k []).getD i 0 ^^^ c))
theorem set_same (bs : List UInt8) (i : Nat) : bs.set i (bs.getD i 0) = bs := by
  apply List.ext_getElem (by simp)
  intro n h1 h2
  rw [List.getElem_set]
  split
  · subst_vars; simp [List.getD_eq_getElem?_getD, h2]
  · rfl
theorem set_sameR (rs : List (List UInt8)) (k : Nat) : rs.set k (rs.getD k []) = rs := by
  apply List.ext_getElem (by simp)
  intro n h1 h2
  rw [List.getElem_set]
  split
  · subst_vars; simp [List.getD_eq_getElem?_getD, h2]
  · rfl
theorem turnB_zero (rs : List (List UInt8)) (k i : Nat) : turnB rs k i 0 = rs := by
  unfold turnB
  rw [UInt8.xor_zero, set_same, set_sameR]
/-- Three sectors, one byte turned in one of them: as one part. -/
theorem flat_set (ps : List (List UInt8)) (k i : Nat) (d : UInt8) (hk : k < ps.length) (hi : i < (ps.getD k []).length) :
    ∃ j, j < ps.flatten.length ∧ (ps.set k ((ps.getD k []).set i d)).flatten = ps.flatten.set j d ∧ ps.flatten.getD j 0 = (ps.getD k []).getD i 0 := by
  induction ps generalizing k with
  | nil => simp at hk
  | cons p ps ih =>
    match k with
    | 0 =>
      have hi' : i < p.length := hi
      refine ⟨i, by rw [List.flatten_cons, List.length_append]; omega, ?_, ?_⟩
      · show p.set i d ++ ps.flatten = (p ++ ps.flatten).set i d
        rw [List.set_append_left _ _ hi']
      · show (p ++ ps.flatten).getD i 0 = p.getD i 0
        rw [List.getD_eq_getElem?_getD, List.getElem?_append_left hi', List.getD_eq_getElem?_getD]
    | k + 1 =>
      obtain ⟨j, h1, h2, h3⟩ := ih k (by simpa using hk) hi
      refine ⟨p.length + j, by rw [List.flatten_cons, List.length_append]; omega, ?_, ?_⟩
      · show p ++ (ps.set k ((ps.getD k []).set i d)).flatten = (p ++ ps.flatten).set (p.length + j) d
        rw [h2, List.set_append_right _ _ (by omega)]
        congr 2
        omega
      · show (p ++ ps.flatten).getD (p.length + j) 0 = _
        rw [List.getD_eq_getElem?_getD, List.getElem?_append_right (by omega), ← List.getD_eq_getElem?_getD, show p.length + j - p.length = j by omega]
        exact h3
theorem right_turned {b : List UInt8} {ps : List (List UInt8)} (h : rightB b ps = true) (k i : Nat) (c : UInt8) (hk : k < ps.length) (hi : i < (ps.getD k []).length) :
    rightB b (ps.set k ((ps.getD k []).set i ((ps.getD k []).getD i 0 ^^^ c))) = ((c.toNat : Int) == 0) := by
  obtain ⟨j, h1, h2, h3⟩ := flat_set ps k i ((ps.getD k []).getD i 0 ^^^ c) hk hi
  have e1 : rightB b [ps.flatten] = true := right_parts h (by simp)
  have e2 := right_part e1 j h1 c
  rw [h3] at e2
  rw [← e2]
  rw [Bool.eq_iff_iff]
  exact ⟨fun g => right_parts g (by rw [h2]; simp), fun g => right_parts g (by rw [h2]; simp)⟩
/-- One byte turned: they are a Record's no more, unless by nothing. -/
theorem rec_turned {s : Int} {l : List It} (h : recOk s l = true) (k i : Nat) (hk : k < 4) (hi : i < 32) (c : UInt8) : rcO (turnB (recB s l) k i c) = ((c.toNat : Int) == 0) := by
  obtain ⟨⟨_, _, h3⟩, _⟩ := (recOk_iff s l).1 h
  by_cases hc : c = 0
  · subst hc
    rw [turnB_zero, rcO_recB h]; rfl
  · have h0 : ((c.toNat : Int) == 0) = false := by rw [byte_eq0]; exact decide_eq_false hc
    rw [h0, ← Bool.not_eq_true]
    intro h'
    have hr := rcO_right h'
    have hb := recB_right (s := s) h3
    have hsz := sect_get (sect_recB h) k hk
    match k, hk with
    | 0, _ =>
      have := right_set hb i hi c
      rw [h0] at this
      have e : rightB ((turnB (recB s l) 0 i c).getD 0 []) ((turnB (recB s l) 0 i c).drop 1) = false := this
      rw [e] at hr; cases hr
    | k + 1, hk =>
      have hp : k < (partsB l).length := by rw [partsB_len h3]; omega
      have hsz' : i < ((partsB l).getD k []).length := by
        have : (recB s l).getD (k + 1) [] = (partsB l).getD k [] := rfl
        rw [← this, hsz]; exact hi
      have := right_turned hb k i c hp hsz'
      rw [h0] at this
      have e : rightB ((turnB (recB s l) (k + 1) i c).getD 0 []) ((turnB (recB s l) (k + 1) i c).drop 1) = false := this
      rw [e] at hr; cases hr
end Go.Proofs.YtkbhnbkjpnigkaaDoor
end
