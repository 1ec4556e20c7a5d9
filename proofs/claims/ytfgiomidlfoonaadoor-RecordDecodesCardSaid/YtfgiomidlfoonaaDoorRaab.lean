/- Texts put together: SupMath, RecMath, RecBox, OwnIt, RecMay, OpsKit, Str. -/
import Derived.Test.YtfgiomidlfoonaaDoorRaaa
import Derived.Test.YtfgiomidlfoonaaDoorProg
import Derived.Deep.MidRow
import Derived.Laws.AppendOwnNone
import Derived.Maps.AppendAt
import Derived.Laws.BytesArg
import Derived.Laws.BytesString
import Derived.Lib.ConvBytes
section
namespace Go.Proofs.YtfgiomidlfoonaaDoor

/-- A Super's fields: generation, its geometry, the one it goes to, whether it does, window, epoch, what is out. -/
structure Su where
  g : Int
  al : Int
  ad : Int
  ac : Int
  bl : Int
  bd : Int
  bc : Int
  r : Bool
  wi : Int
  ep : Int
  ou : Int
/-- All numbers are whole numbers of 64 digits. -/
structure Su64 (s : Su) : Prop where
  g : (-9223372036854775808 ≤ s.g ∧ s.g ≤ 9223372036854775807)
  al : (-9223372036854775808 ≤ s.al ∧ s.al ≤ 9223372036854775807)
  ad : (-9223372036854775808 ≤ s.ad ∧ s.ad ≤ 9223372036854775807)
  ac : (-9223372036854775808 ≤ s.ac ∧ s.ac ≤ 9223372036854775807)
  bl : (-9223372036854775808 ≤ s.bl ∧ s.bl ≤ 9223372036854775807)
  bd : (-9223372036854775808 ≤ s.bd ∧ s.bd ≤ 9223372036854775807)
  bc : (-9223372036854775808 ≤ s.bc ∧ s.bc ≤ 9223372036854775807)
  wi : (-9223372036854775808 ≤ s.wi ∧ s.wi ≤ 9223372036854775807)
  ep : (-9223372036854775808 ≤ s.ep ∧ s.ep ≤ 9223372036854775807)
  ou : (-9223372036854775808 ≤ s.ou ∧ s.ou ≤ 9223372036854775807)
def suZ : Su := ⟨0, 0, 0, 0, 0, 0, 0, false, 0, 0, 0⟩
def suEq (s t : Su) : Bool := decide (s.g = t.g ∧ s.al = t.al ∧ s.ad = t.ad ∧ s.ac = t.ac ∧ s.bl = t.bl ∧ s.bd = t.bd ∧ s.bc = t.bc ∧ s.r = t.r ∧ s.wi = t.wi ∧ s.ep = t.ep ∧ s.ou = t.ou)
theorem suEq_iff (s t : Su) : suEq s t = true ↔ s = t := by
  obtain ⟨a1, a2, a3, a4, a5, a6, a7, a8, a9, a10, a11⟩ := s
  obtain ⟨b1, b2, b3, b4, b5, b6, b7, b8, b9, b10, b11⟩ := t
  simp [suEq]
theorem suEq_refl (s : Su) : suEq s s = true := (suEq_iff s s).2 rfl
theorem suEq_no {s t : Su} (h : s ≠ t) : suEq s t = false := by
  rw [← Bool.not_eq_true]; exact fun h' => h ((suEq_iff s t).1 h')
def aimB (s : Su) : Bool := if s.r = true then gCan s.al s.ad s.ac s.bl s.bd s.bc && decide (0 ≤ s.wi ∧ s.wi ≤ 16) else decide (s.bl = 0 ∧ s.bd = 0 ∧ s.bc = 0 ∧ s.wi = 0)
def genB (s : Su) : Bool := decide (1 ≤ s.g ∧ s.g ≤ 2147483647)
def epB (s : Su) : Bool := decide (0 ≤ s.ep ∧ s.ep ≤ 65535)
def ouB (s : Su) : Bool := decide (0 ≤ s.ou ∧ s.ou ≤ 255)
def suOk (s : Su) : Bool := genB s && gOk s.al s.ad s.ac && aimB s && epB s && ouB s
def suErr (s : Su) : Int := if suOk s = true then 0 else 1
theorem suErr_yes {s : Su} (h : suOk s = true) : suErr s = 0 := if_pos h
theorem suErr_no {s : Su} (h : suOk s = false) : suErr s = 1 := if_neg (by rw [h]; decide)
theorem suOk_parts {s : Su} (h : suOk s = true) : genB s = true ∧ gOk s.al s.ad s.ac = true ∧ aimB s = true ∧ epB s = true ∧ ouB s = true := by
  simp [suOk] at h
  exact ⟨h.1.1.1.1, h.1.1.1.2, h.1.1.2, h.1.2, h.2⟩
/-- What holds of the fields of a Super that may be. -/
structure SuIn (s : Su) : Prop where
  g : 1 ≤ s.g ∧ s.g ≤ 2147483647
  al : 0 ≤ s.al ∧ s.al ≤ 255
  ad : 0 ≤ s.ad ∧ s.ad ≤ 255
  ac : 0 ≤ s.ac ∧ s.ac ≤ 255
  bl : 0 ≤ s.bl ∧ s.bl ≤ 255
  bd : 0 ≤ s.bd ∧ s.bd ≤ 255
  bc : 0 ≤ s.bc ∧ s.bc ≤ 255
  wi : 0 ≤ s.wi ∧ s.wi ≤ 255
  ep : 0 ≤ s.ep ∧ s.ep ≤ 65535
  ou : 0 ≤ s.ou ∧ s.ou ≤ 255
theorem suIn {s : Su} (h : suOk s = true) : SuIn s := by
  obtain ⟨h1, h2, h3, h4, h5⟩ := suOk_parts h
  have a := gOk_bd h2
  have q1 : 1 ≤ s.g ∧ s.g ≤ 2147483647 := by simpa [genB] using h1
  have q4 : 0 ≤ s.ep ∧ s.ep ≤ 65535 := by simpa [epB] using h4
  have q5 : 0 ≤ s.ou ∧ s.ou ≤ 255 := by simpa [ouB] using h5
  have b : (0 ≤ s.bl ∧ s.bl ≤ 255) ∧ (0 ≤ s.bd ∧ s.bd ≤ 255) ∧ (0 ≤ s.bc ∧ s.bc ≤ 255) ∧ (0 ≤ s.wi ∧ s.wi ≤ 255) := by
    unfold aimB at h3
    split at h3
    · simp only [Bool.and_eq_true, decide_eq_true_eq] at h3
      have := gOk_bd (gCan_parts h3.1).2.1
      omega
    · have := of_decide_eq_true h3
      omega
  exact ⟨q1, by omega, by omega, by omega, b.1, b.2.1, b.2.2.1, b.2.2.2, q4, q5⟩
/-- Byte k of a number, from its low end. -/
def byN (n : Int) (k : Nat) : UInt8 := UInt8.ofNat (n.toNat / 256 ^ k)
def rnB (r : Bool) : UInt8 := if r = true then 1 else 0
def suBody (s : Su) : List UInt8 := [87, 83, 85, 80, byN s.g 3, byN s.g 2, byN s.g 1, byN s.g 0, byN s.al 0, byN s.ad 0, byN s.ac 0, byN s.bl 0, byN s.bd 0, byN s.bc 0, rnB s.r, byN s.wi 0, byN s.ep 1, byN s.ep 0, byN s.ou 0, 0, 0, 0, 0, 0, 0, 0, 0, 0]
def suFull (s : Su) : List UInt8 := suBody s ++ [0, 0, 0, 0]
def suB (s : Su) : List UInt8 := stamped (suFull s) []
theorem suFull_len (s : Su) : (suFull s).length = 32 := rfl
theorem suB_eq (s : Su) : suB s = suBody s ++ be4 (sumR [suBody s]) := rfl
theorem suB_len (s : Su) : (suB s).length = 32 := rfl
theorem suB_right (s : Su) : rightB (suB s) [] = true := right_stamped _ _ (suFull_len s)
/-- The number that bytes tell, the greatest first. -/
def numB (bs : List UInt8) : Nat := bs.foldl (fun n x => n * 256 + x.toNat) 0
def flds (bs : List UInt8) : Su :=
  ⟨numB [bs.getD 4 0, bs.getD 5 0, bs.getD 6 0, bs.getD 7 0], numB [bs.getD 8 0], numB [bs.getD 9 0], numB [bs.getD 10 0], numB [bs.getD 11 0], numB [bs.getD 12 0], numB [bs.getD 13 0],
    (((bs.getD 14 0).toNat : Int) == 1), numB [bs.getD 15 0], numB [bs.getD 16 0, bs.getD 17 0], numB [bs.getD 18 0]⟩
theorem numB_one (a : UInt8) : numB [a] = a.toNat := by simp [numB]
theorem numB_two (a b : UInt8) : numB [a, b] = a.toNat * 256 + b.toNat := by simp [numB]
theorem numB_four (a b c d : UInt8) : numB [a, b, c, d] = ((a.toNat * 256 + b.toNat) * 256 + c.toNat) * 256 + d.toNat := by simp [numB]
theorem byN_one {n : Int} (h : 0 ≤ n ∧ n ≤ 255) : ((numB [byN n 0] : Nat) : Int) = n := by
  rw [numB_one]; simp only [byN, UInt8.toNat_ofNat']; omega
theorem byN_two {n : Int} (h : 0 ≤ n ∧ n ≤ 65535) : ((numB [byN n 1, byN n 0] : Nat) : Int) = n := by
  rw [numB_two]; simp only [byN, UInt8.toNat_ofNat']; omega
theorem byN_four {n : Int} (h : 1 ≤ n ∧ n ≤ 2147483647) : ((numB [byN n 3, byN n 2, byN n 1, byN n 0] : Nat) : Int) = n := by
  rw [numB_four]; simp only [byN, UInt8.toNat_ofNat']; omega
theorem suB_get (s : Su) (k : Nat) (hk : k < 28) : (suB s).getD k 0 = (suBody s).getD k 0 := by
  rw [suB_eq, List.getD_eq_getElem?_getD, List.getElem?_append_left (by show k < 28; exact hk), List.getD_eq_getElem?_getD]
theorem flds_of {bs : List UInt8} {s : Su} (h : ∀ k, k < 28 → bs.getD k 0 = (suBody s).getD k 0) (hi : SuIn s) : flds bs = s := by
  have hr : ((((rnB s.r).toNat : Nat) : Int) == 1) = s.r := by cases s.r <;> rfl
  unfold flds
  rw [h 4 (by omega), h 5 (by omega), h 6 (by omega), h 7 (by omega), h 8 (by omega), h 9 (by omega), h 10 (by omega), h 11 (by omega), h 12 (by omega), h 13 (by omega), h 14 (by omega), h 15 (by omega), h 16 (by omega), h 17 (by omega), h 18 (by omega)]
  have e : (⟨numB [byN s.g 3, byN s.g 2, byN s.g 1, byN s.g 0], numB [byN s.al 0], numB [byN s.ad 0], numB [byN s.ac 0], numB [byN s.bl 0], numB [byN s.bd 0], numB [byN s.bc 0], (((rnB s.r).toNat : Nat) : Int) == 1, numB [byN s.wi 0], numB [byN s.ep 1, byN s.ep 0], numB [byN s.ou 0]⟩ : Su) = s := by
    rw [byN_four hi.g, byN_one hi.al, byN_one hi.ad, byN_one hi.ac, byN_one hi.bl, byN_one hi.bd, byN_one hi.bc, hr, byN_one hi.wi, byN_two hi.ep, byN_one hi.ou]
  exact e
theorem flds_suB {s : Su} (h : suOk s = true) : flds (suB s) = s := flds_of (suB_get s) (suIn h)
/-- A sector is that of a Super. -/
def decO (bs : List UInt8) : Bool := decide (bs.length = 32) && suOk (flds bs) && decide (suB (flds bs) = bs)
def decS (bs : List UInt8) : Su := if decO bs = true then flds bs else suZ
def decE (bs : List UInt8) : Int := if decO bs = true then 0 else 2
theorem decE_yes {bs : List UInt8} (h : decO bs = true) : decE bs = 0 := if_pos h
theorem decE_no {bs : List UInt8} (h : decO bs = false) : decE bs = 2 := if_neg (by rw [h]; decide)
theorem decS_yes {bs : List UInt8} (h : decO bs = true) : decS bs = flds bs := if_pos h
theorem decS_no {bs : List UInt8} (h : decO bs = false) : decS bs = suZ := if_neg (by rw [h]; decide)
theorem decO_iff (bs : List UInt8) : decO bs = true ↔ bs.length = 32 ∧ suOk (flds bs) = true ∧ suB (flds bs) = bs := by
  simp [decO, and_assoc]
theorem decO_mk {bs : List UInt8} (h1 : bs.length = 32) (h2 : suOk (flds bs) = true) (h3 : suB (flds bs) = bs) : decO bs = true := (decO_iff bs).2 ⟨h1, h2, h3⟩
theorem decO_not {bs : List UInt8} (h : ¬ (bs.length = 32 ∧ suOk (flds bs) = true ∧ suB (flds bs) = bs)) : decO bs = false := by
  rw [← Bool.not_eq_true]; exact fun h' => h ((decO_iff bs).1 h')
theorem decO_right {bs : List UInt8} (h : decO bs = true) : rightB bs [] = true := by
  rw [← ((decO_iff bs).1 h).2.2]; exact suB_right _
theorem decO_suB {s : Su} (h : suOk s = true) : decO (suB s) = true := by
  have e := flds_suB h
  exact decO_mk (suB_len s) (by rw [e]; exact h) (by rw [e])
theorem decS_suB {s : Su} (h : suOk s = true) : decS (suB s) = s := (decS_yes (decO_suB h)).trans (flds_suB h)
theorem suB_inj {s t : Su} (hs : suOk s = true) (ht : suOk t = true) (h : suB s = suB t) : s = t := by
  rw [← flds_suB hs, h, flds_suB ht]
/-- One byte turned: it is a Super's no more, unless by nothing. -/
theorem dec_turned {s : Su} (h : suOk s = true) (i : Nat) (hi : i < 32) (c : UInt8) : decO ((suB s).set i ((suB s).getD i 0 ^^^ c)) = ((c.toNat : Int) == 0) := by
  have hr := right_set (suB_right s) i hi c
  by_cases hc : c = 0
  · subst hc
    have e : (suB s).set i ((suB s).getD i 0 ^^^ 0) = suB s := by
      rw [UInt8.xor_zero]
      apply List.ext_getElem (by simp)
      intro n h1 h2
      rw [List.getElem_set]
      split
      · subst_vars; simp [List.getD_eq_getElem?_getD, h2]
      · rfl
    rw [e, decO_suB h]; rfl
  · have h0 : ((c.toNat : Int) == 0) = false := by rw [byte_eq0]; exact decide_eq_false hc
    rw [h0] at hr ⊢
    rw [← Bool.not_eq_true]
    intro h'
    rw [decO_right h'] at hr
    cases hr
end Go.Proofs.YtfgiomidlfoonaaDoor
end
section
namespace Go.Proofs.YtfgiomidlfoonaaDoor

/-- An Item: its disk, its place, its bytes. -/
structure It where
  d : Int
  a : Int
  b : List UInt8
def itZ : It := ⟨0, 0, []⟩
/-- Whole numbers of 64 digits, and bytes that fit in memory. -/
structure It64 (x : It) : Prop where
  d : (-9223372036854775808 ≤ x.d ∧ x.d ≤ 9223372036854775807)
  a : (-9223372036854775808 ≤ x.a ∧ x.a ≤ 9223372036854775807)
theorem It.ext' {x y : It} (h1 : x.d = y.d) (h2 : x.a = y.a) (h3 : x.b = y.b) : x = y := by
  obtain ⟨a1, a2, a3⟩ := x
  obtain ⟨b1, b2, b3⟩ := y
  dsimp only at h1 h2 h3
  subst h1 h2 h3
  rfl
def mayB (x : It) : Bool := decide (0 ≤ x.d ∧ x.d < 8 ∧ 36 ≤ x.a ∧ x.a < 52 ∧ x.b.length = 32)
def meetsB (x y : It) : Bool := decide (x.d = y.d ∧ x.a = y.a)
theorem mayB_iff (x : It) : mayB x = true ↔ (0 ≤ x.d ∧ x.d < 8 ∧ 36 ≤ x.a ∧ x.a < 52 ∧ x.b.length = 32) := by simp [mayB]
theorem meetsB_iff (x y : It) : meetsB x y = true ↔ (x.d = y.d ∧ x.a = y.a) := by simp [meetsB]
def itN (l : List It) (k : Nat) : It := l.getD k itZ
/-- The first n of them may be beside one another. -/
def fineN (l : List It) (n : Nat) : Bool := decide (∀ k, k < n → mayB (itN l k) = true ∧ ∀ j, j < k → meetsB (itN l k) (itN l j) = false)
theorem fineN_iff (l : List It) (n : Nat) : fineN l n = true ↔ ∀ k, k < n → mayB (itN l k) = true ∧ ∀ j, j < k → meetsB (itN l k) (itN l j) = false := by simp [fineN]
def recOk (s : Int) (l : List It) : Bool := decide (1 ≤ s ∧ s ≤ 2147483647 ∧ l.length ≤ 3) && fineN l l.length
theorem recOk_iff (s : Int) (l : List It) : recOk s l = true ↔ (1 ≤ s ∧ s ≤ 2147483647 ∧ l.length ≤ 3) ∧ fineN l l.length = true := by simp [recOk]
def recErr (s : Int) (l : List It) : Int := if recOk s l = true then 0 else 1
theorem recErr_yes {s : Int} {l : List It} (h : recOk s l = true) : recErr s l = 0 := if_pos h
theorem recErr_no {s : Int} {l : List It} (h : recOk s l = false) : recErr s l = 1 := if_neg (by rw [h]; decide)
theorem recOk_no {s : Int} {l : List It} (h : ¬ (1 ≤ s ∧ s ≤ 2147483647 ∧ l.length ≤ 3)) : recOk s l = false := by
  rw [← Bool.not_eq_true]; exact fun h' => h ((recOk_iff s l).1 h').1
theorem recOk_at {s : Int} {l : List It} (k : Nat) (hk : k < l.length) (h : mayB (itN l k) = false) : recOk s l = false := by
  rw [← Bool.not_eq_true]; intro h'
  have := ((fineN_iff _ _).1 ((recOk_iff s l).1 h').2 k hk).1
  rw [h] at this; cases this
theorem recOk_two {s : Int} {l : List It} (k j : Nat) (hk : k < l.length) (hj : j < k) (h : meetsB (itN l k) (itN l j) = true) : recOk s l = false := by
  rw [← Bool.not_eq_true]; intro h'
  have := ((fineN_iff _ _).1 ((recOk_iff s l).1 h').2 k hk).2 j hj
  rw [h] at this; cases this
theorem itN_mem {l : List It} {k : Nat} (hk : k < l.length) : itN l k ∈ l := by
  unfold itN
  rw [List.getD_eq_getElem?_getD, List.getElem?_eq_getElem hk]
  exact List.getElem_mem hk
theorem recOk_may {s : Int} {l : List It} (h : recOk s l = true) (x : It) (hx : x ∈ l) : 0 ≤ x.d ∧ x.d < 8 ∧ 36 ≤ x.a ∧ x.a < 52 ∧ x.b.length = 32 := by
  obtain ⟨k, hk, rfl⟩ := List.getElem_of_mem hx
  have := ((fineN_iff _ _).1 ((recOk_iff s l).1 h).2 k hk).1
  rw [show itN l k = l[k] from by simp [itN, List.getD_eq_getElem?_getD, hk]] at this
  exact (mayB_iff _).1 this
theorem byX_one {n : Int} (h : 0 ≤ n ∧ n ≤ 255) : (((byN n 0).toNat : Nat) : Int) = n := by
  simp only [byN, UInt8.toNat_ofNat']; omega
/-- What the first sector says of the Items. -/
def plcB (l : List It) : List UInt8 := l.flatMap fun x => [byN x.d 0, byN x.a 0]
theorem plcB_len (l : List It) : (plcB l).length = 2 * l.length := by
  induction l with
  | nil => rfl
  | cons x l ih => show (plcB l).length + 2 = _; rw [ih, List.length_cons]; omega
theorem plcB_snoc (l : List It) (x : It) : plcB (l ++ [x]) = plcB l ++ [byN x.d 0, byN x.a 0] := by simp [plcB]
def hdB (s : Int) (l : List It) : List UInt8 := [87, 82, 69, 67, byN s 3, byN s 2, byN s 1, byN s 0, UInt8.ofNat l.length] ++ plcB l
theorem hdB_len (s : Int) (l : List It) : (hdB s l).length = 9 + 2 * l.length := by
  show (plcB l).length + 9 = _; rw [plcB_len]; omega
def z32 : List UInt8 := List.replicate 32 0
/-- The first sector, ahead of its seal. -/
def fullB (s : Int) (l : List It) : List UInt8 := hdB s l ++ List.replicate (32 - (hdB s l).length) 0
theorem fullB_len {s : Int} {l : List It} (h : l.length ≤ 3) : (fullB s l).length = 32 := by
  simp only [fullB, List.length_append, hdB_len, List.length_replicate]; omega
def partsB (l : List It) : List (List UInt8) := l.map (·.b) ++ List.replicate (3 - l.length) z32
theorem partsB_len {l : List It} (h : l.length ≤ 3) : (partsB l).length = 3 := by simp [partsB]; omega
/-- A Record's sectors. -/
def recB (s : Int) (l : List It) : List (List UInt8) := stamped (fullB s l) (partsB l) :: partsB l
theorem recB_len {s : Int} {l : List It} (h : l.length ≤ 3) : (recB s l).length = 4 := by
  show (partsB l).length + 1 = 4; rw [partsB_len h]
/-- What the sectors say. -/
def sqO (rs : List (List UInt8)) : Int := numB [(rs.getD 0 []).getD 4 0, (rs.getD 0 []).getD 5 0, (rs.getD 0 []).getD 6 0, (rs.getD 0 []).getD 7 0]
def cnO (rs : List (List UInt8)) : Nat := ((rs.getD 0 []).getD 8 0).toNat
def itO (rs : List (List UInt8)) (i : Nat) : It := ⟨((rs.getD 0 []).getD (9 + 2 * i) 0).toNat, ((rs.getD 0 []).getD (10 + 2 * i) 0).toNat, rs.getD (1 + i) []⟩
def itsN (rs : List (List UInt8)) (n : Nat) : List It := (List.range n).map (itO rs)
def itsO (rs : List (List UInt8)) : List It := itsN rs (min (cnO rs) 3)
theorem itsN_len (rs : List (List UInt8)) (n : Nat) : (itsN rs n).length = n := by simp [itsN]
theorem itsN_succ (rs : List (List UInt8)) (n : Nat) : itsN rs (n + 1) = itsN rs n ++ [itO rs n] := by simp [itsN, List.range_succ]
theorem itsN_at (rs : List (List UInt8)) (n k : Nat) (hk : k < n) : itN (itsN rs n) k = itO rs k := by
  simp [itN, itsN, List.getD_eq_getElem?_getD, hk]
/-- They are four sectors. -/
def sect (rs : List (List UInt8)) : Bool := decide (rs.length = 4) && rs.all fun x => decide (x.length = 32)
theorem sect_iff (rs : List (List UInt8)) : sect rs = true ↔ rs.length = 4 ∧ ∀ x ∈ rs, x.length = 32 := by simp [sect]
theorem sect_get {rs : List (List UInt8)} (h : sect rs = true) (k : Nat) (hk : k < 4) : (rs.getD k []).length = 32 := by
  obtain ⟨h1, h2⟩ := (sect_iff rs).1 h
  rw [List.getD_eq_getElem?_getD, List.getElem?_eq_getElem (by omega)]
  exact h2 _ (List.getElem_mem _)
def rcO (rs : List (List UInt8)) : Bool := sect rs && recOk (sqO rs) (itsO rs) && decide (recB (sqO rs) (itsO rs) = rs)
theorem rcO_iff (rs : List (List UInt8)) : rcO rs = true ↔ sect rs = true ∧ recOk (sqO rs) (itsO rs) = true ∧ recB (sqO rs) (itsO rs) = rs := by simp [rcO, and_assoc]
theorem rcO_not {rs : List (List UInt8)} (h : ¬ (sect rs = true ∧ recOk (sqO rs) (itsO rs) = true ∧ recB (sqO rs) (itsO rs) = rs)) : rcO rs = false := by
  rw [← Bool.not_eq_true]; exact fun h' => h ((rcO_iff rs).1 h')
def rcS (rs : List (List UInt8)) : Int := if rcO rs = true then sqO rs else 0
def rcL (rs : List (List UInt8)) : List It := if rcO rs = true then itsO rs else []
def rcE (rs : List (List UInt8)) : Int := if rcO rs = true then 0 else 2
/-! The sectors of a Record say it. -/
theorem partsB_get {l : List It} (k : Nat) (hk : k < l.length) : (partsB l).getD k [] = (itN l k).b := by
  simp [partsB, itN, List.getD_eq_getElem?_getD, hk, List.getElem?_append_left]
theorem recB_get0 (s : Int) (l : List It) : (recB s l).getD 0 [] = stamped (fullB s l) (partsB l) := rfl
theorem recB_getS (s : Int) (l : List It) (k : Nat) : (recB s l).getD (1 + k) [] = (partsB l).getD k [] := by
  rw [Nat.add_comm]; simp [recB, List.getD_eq_getElem?_getD]
theorem stamped_get {bs : List UInt8} {rs : List (List UInt8)} (hl : bs.length = 32) (k : Nat) (hk : k < 28) : (stamped bs rs).getD k 0 = bs.getD k 0 := by
  unfold stamped
  rw [List.getD_eq_getElem?_getD, List.getElem?_append_left (by simp; omega), List.getElem?_take, if_pos hk, List.getD_eq_getElem?_getD]
theorem fullB_get {s : Int} {l : List It} (k : Nat) (hk : k < 9 + 2 * l.length) : (fullB s l).getD k 0 = (hdB s l).getD k 0 := by
  unfold fullB
  rw [List.getD_eq_getElem?_getD, List.getElem?_append_left (by rw [hdB_len]; exact hk), List.getD_eq_getElem?_getD]
theorem plcB_get (l : List It) (k : Nat) (hk : k < l.length) : (plcB l).getD (2 * k) 0 = byN (itN l k).d 0 ∧ (plcB l).getD (2 * k + 1) 0 = byN (itN l k).a 0 := by
  induction l generalizing k with
  | nil => simp at hk
  | cons x l ih =>
    match k with
    | 0 => exact ⟨rfl, rfl⟩
    | k + 1 =>
      have := ih k (by simp at hk; omega)
      refine ⟨?_, ?_⟩
      · exact this.1
      · exact this.2
theorem hdB_get9 (s : Int) (l : List It) (j : Nat) : (hdB s l).getD (9 + j) 0 = (plcB l).getD j 0 := by
  unfold hdB
  rw [List.getD_eq_getElem?_getD, List.getElem?_append_right (by simp), List.getD_eq_getElem?_getD]
  congr 2
  simp
theorem recB_by {s : Int} {l : List It} (h : l.length ≤ 3) (k : Nat) (hk : k < 9 + 2 * l.length) : ((recB s l).getD 0 []).getD k 0 = (hdB s l).getD k 0 := by
  rw [recB_get0, stamped_get (fullB_len h) k (by omega), fullB_get k hk]
theorem sqO_recB {s : Int} {l : List It} (h : recOk s l = true) : sqO (recB s l) = s := by
  obtain ⟨⟨h1, h2, h3⟩, _⟩ := (recOk_iff s l).1 h
  unfold sqO
  rw [recB_by h3 4 (by omega), recB_by h3 5 (by omega), recB_by h3 6 (by omega), recB_by h3 7 (by omega)]
  exact byN_four ⟨h1, h2⟩
theorem cnO_recB {s : Int} {l : List It} (h : l.length ≤ 3) : cnO (recB s l) = l.length := by
  unfold cnO
  rw [recB_by h 8 (by omega)]
  show (UInt8.ofNat l.length).toNat = _
  rw [UInt8.toNat_ofNat']; omega
theorem itO_recB {s : Int} {l : List It} (h : recOk s l = true) (k : Nat) (hk : k < l.length) : itO (recB s l) k = itN l k := by
  obtain ⟨⟨h1, h2, h3⟩, _⟩ := (recOk_iff s l).1 h
  have hm := recOk_may h _ (itN_mem hk)
  have e1 : ((recB s l).getD 0 []).getD (9 + 2 * k) 0 = byN (itN l k).d 0 := by
    rw [recB_by h3 _ (by omega), hdB_get9, (plcB_get l k hk).1]
  have e2 : ((recB s l).getD 0 []).getD (10 + 2 * k) 0 = byN (itN l k).a 0 := by
    rw [recB_by h3 _ (by omega), show 10 + 2 * k = 9 + (2 * k + 1) by omega, hdB_get9, (plcB_get l k hk).2]
  have e3 : (recB s l).getD (1 + k) [] = (itN l k).b := by rw [recB_getS, partsB_get k hk]
  apply It.ext'
  · show ((((recB s l).getD 0 []).getD (9 + 2 * k) 0).toNat : Int) = _
    rw [e1]; exact byX_one (by omega)
  · show ((((recB s l).getD 0 []).getD (10 + 2 * k) 0).toNat : Int) = _
    rw [e2]; exact byX_one (by omega)
  · exact e3
theorem itsO_recB {s : Int} {l : List It} (h : recOk s l = true) : itsO (recB s l) = l := by
  obtain ⟨⟨h1, h2, h3⟩, _⟩ := (recOk_iff s l).1 h
  have e : itsO (recB s l) = itsN (recB s l) l.length := by unfold itsO; rw [cnO_recB h3, Nat.min_eq_left h3]
  rw [e]
  apply List.ext_getElem (itsN_len _ _)
  intro k h1' h2'
  have := itO_recB h k h2'
  simp only [itsN, List.getElem_map, List.getElem_range]
  rw [this]
  simp [itN, List.getD_eq_getElem?_getD, h2']
theorem sect_recB {s : Int} {l : List It} (h : recOk s l = true) : sect (recB s l) = true := by
  obtain ⟨⟨h1, h2, h3⟩, _⟩ := (recOk_iff s l).1 h
  refine (sect_iff _).2 ⟨recB_len h3, fun x hx => ?_⟩
  rcases List.mem_cons.1 hx with rfl | hx
  · exact stamped_len _ _ (fullB_len h3)
  · rcases List.mem_append.1 hx with hx | hx
    · obtain ⟨y, hy, rfl⟩ := List.mem_map.1 hx
      exact (recOk_may h y hy).2.2.2.2
    · rw [(List.mem_replicate.1 hx).2]; rfl
theorem rcO_recB {s : Int} {l : List It} (h : recOk s l = true) : rcO (recB s l) = true := by
  refine (rcO_iff _).2 ⟨sect_recB h, ?_, ?_⟩
  · rw [sqO_recB h, itsO_recB h]; exact h
  · rw [sqO_recB h, itsO_recB h]
theorem rcS_recB {s : Int} {l : List It} (h : recOk s l = true) : rcS (recB s l) = s := (if_pos (rcO_recB h)).trans (sqO_recB h)
theorem rcL_recB {s : Int} {l : List It} (h : recOk s l = true) : rcL (recB s l) = l := (if_pos (rcO_recB h)).trans (itsO_recB h)
theorem rcE_recB {s : Int} {l : List It} (h : recOk s l = true) : rcE (recB s l) = 0 := if_pos (rcO_recB h)
theorem recB_inj {s t : Int} {l m : List It} (h : recOk s l = true) (g : recOk t m = true) (e : recB s l = recB t m) : s = t ∧ l = m :=
  ⟨by rw [← sqO_recB h, e, sqO_recB g], by rw [← itsO_recB h, e, itsO_recB g]⟩
theorem recB_right {s : Int} {l : List It} (h : l.length ≤ 3) : rightB (stamped (fullB s l) (partsB l)) (partsB l) = true := right_stamped _ _ (fullB_len h)
/-- What is a Record's is sealed rightly. -/
theorem rcO_right {rs : List (List UInt8)} (h : rcO rs = true) : rightB (rs.getD 0 []) (rs.drop 1) = true := by
  obtain ⟨_, h1, h2⟩ := (rcO_iff rs).1 h
  rw [← h2]
  exact recB_right ((recOk_iff _ _).1 h1).1.2.2
/-- Byte i of sector k turned. -/
def turnB (rs : List (List UInt8)) (k i : Nat) (c : UInt8) : List (List UInt8) := rs.set k ((rs.getD k []).set i ((rs.getD k []).getD i 0 ^^^ c))
theorem set_same (bs : List UInt8) (i : Nat) : bs.set i (bs.getD i 0) = bs := by
  apply List.ext_getElem (by simp)
  intro n h1 h2
  rw [List.getElem_set]
  split
  · subst_vars; simp [List.getD_eq_getElem?_getD, h2]
  · rfl
theorem set_sameR (rs : List (List UInt8)) (k : Nat) : rs.set k (rs.getD k []) = rs := by
  apply List.ext_getElem (by simp)
  intro n h1 h2
  rw [List.getElem_set]
  split
  · subst_vars; simp [List.getD_eq_getElem?_getD, h2]
  · rfl
theorem turnB_zero (rs : List (List UInt8)) (k i : Nat) : turnB rs k i 0 = rs := by
  unfold turnB
  rw [UInt8.xor_zero, set_same, set_sameR]
/-- Three sectors, one byte turned in one of them: as one part. -/
theorem flat_set (ps : List (List UInt8)) (k i : Nat) (d : UInt8) (hk : k < ps.length) (hi : i < (ps.getD k []).length) :
    ∃ j, j < ps.flatten.length ∧ (ps.set k ((ps.getD k []).set i d)).flatten = ps.flatten.set j d ∧ ps.flatten.getD j 0 = (ps.getD k []).getD i 0 := by
  induction ps generalizing k with
  | nil => simp at hk
  | cons p ps ih =>
    match k with
    | 0 =>
      have hi' : i < p.length := hi
      refine ⟨i, by rw [List.flatten_cons, List.length_append]; omega, ?_, ?_⟩
      · show p.set i d ++ ps.flatten = (p ++ ps.flatten).set i d
        rw [List.set_append_left _ _ hi']
      · show (p ++ ps.flatten).getD i 0 = p.getD i 0
        rw [List.getD_eq_getElem?_getD, List.getElem?_append_left hi', List.getD_eq_getElem?_getD]
    | k + 1 =>
      obtain ⟨j, h1, h2, h3⟩ := ih k (by simpa using hk) hi
      refine ⟨p.length + j, by rw [List.flatten_cons, List.length_append]; omega, ?_, ?_⟩
      · show p ++ (ps.set k ((ps.getD k []).set i d)).flatten = (p ++ ps.flatten).set (p.length + j) d
        rw [h2, List.set_append_right _ _ (by omega)]
        congr 2
        omega
      · show (p ++ ps.flatten).getD (p.length + j) 0 = _
        rw [List.getD_eq_getElem?_getD, List.getElem?_append_right (by omega), ← List.getD_eq_getElem?_getD, show p.length + j - p.length = j by omega]
        exact h3
theorem right_turned {b : List UInt8} {ps : List (List UInt8)} (h : rightB b ps = true) (k i : Nat) (c : UInt8) (hk : k < ps.length) (hi : i < (ps.getD k []).length) :
    rightB b (ps.set k ((ps.getD k []).set i ((ps.getD k []).getD i 0 ^^^ c))) = ((c.toNat : Int) == 0) := by
  obtain ⟨j, h1, h2, h3⟩ := flat_set ps k i ((ps.getD k []).getD i 0 ^^^ c) hk hi
  have e1 : rightB b [ps.flatten] = true := right_parts h (by simp)
  have e2 := right_part e1 j h1 c
  rw [h3] at e2
  rw [← e2]
  rw [Bool.eq_iff_iff]
  exact ⟨fun g => right_parts g (by rw [h2]; simp), fun g => right_parts g (by rw [h2]; simp)⟩
/-- One byte turned: they are a Record's no more, unless by nothing. -/
theorem rec_turned {s : Int} {l : List It} (h : recOk s l = true) (k i : Nat) (hk : k < 4) (hi : i < 32) (c : UInt8) : rcO (turnB (recB s l) k i c) = ((c.toNat : Int) == 0) := by
  obtain ⟨⟨_, _, h3⟩, _⟩ := (recOk_iff s l).1 h
  by_cases hc : c = 0
  · subst hc
    rw [turnB_zero, rcO_recB h]; rfl
  · have h0 : ((c.toNat : Int) == 0) = false := by rw [byte_eq0]; exact decide_eq_false hc
    rw [h0, ← Bool.not_eq_true]
    intro h'
    have hr := rcO_right h'
    have hb := recB_right (s := s) h3
    have hsz := sect_get (sect_recB h) k hk
    match k, hk with
    | 0, _ =>
      have := right_set hb i hi c
      rw [h0] at this
      have e : rightB ((turnB (recB s l) 0 i c).getD 0 []) ((turnB (recB s l) 0 i c).drop 1) = false := this
      rw [e] at hr; cases hr
    | k + 1, hk =>
      have hp : k < (partsB l).length := by rw [partsB_len h3]; omega
      have hsz' : i < ((partsB l).getD k []).length := by
        have : (recB s l).getD (k + 1) [] = (partsB l).getD k [] := rfl
        rw [← this, hsz]; exact hi
      have := right_turned hb k i c hp hsz'
      rw [h0] at this
      have e : rightB ((turnB (recB s l) (k + 1) i c).getD 0 []) ((turnB (recB s l) (k + 1) i c).drop 1) = false := this
      rw [e] at hr; cases hr
end Go.Proofs.YtfgiomidlfoonaaDoor
end
section
set_option linter.unusedVariables false
set_option linter.unusedSimpArgs false
namespace Go.Proofs.YtfgiomidlfoonaaDoor
open Go.RowKit

theorem rx_cell_at {w : World} {B g n cap : Nat} {e : TypeId} {size : Nat} {xs : List Value} (h : w.ownsRow B e size (.slice (some ⟨g, 0, none⟩) n cap) n xs) (j : Nat) (hj : j < xs.length) : w.cell? ⟨g, j, none⟩ = xs[j]? := by
  rcases h.2 with ⟨h1, _⟩ | ⟨g', cap', cur, h1, h2, h3, h4, h5, h6, h7⟩
  · cases h1
  · injection h1 with h8 _ h9
    injection h8 with h8
    injection h8 with h8 _ _
    subst h8 h9
    have hx := h.1
    rw [cell_of_row w g j cur e (0, 0) h3, ← h7, List.getElem?_take, if_pos (by omega), Array.getElem?_toList]
theorem rx_form {w : World} {B n : Nat} {e : TypeId} {size : Nat} {v : Value} {xs : List Value} (h : w.ownsRow B e size v n xs) : ∃ A c, v = .slice A n c ∧ n ≤ c ∧ (0 < n → ∃ g, A = some ⟨g, 0, none⟩ ∧ B ≤ g) := by
  rcases h.2 with ⟨rfl, rfl⟩ | ⟨g, cap, cur, rfl, hB, _, hc, _⟩
  · exact ⟨none, 0, rfl, Nat.le_refl _, fun h => by omega⟩
  · exact ⟨_, cap, rfl, hc, fun _ => ⟨g, rfl, hB⟩⟩
theorem rangeAt_keep {w w' : World} {b o : Nat} {cs : List Value} (h : w.rangeAt b o cs) (hk : ∀ k, w'.cell? ⟨b, k, none⟩ = w.cell? ⟨b, k, none⟩) : w'.rangeAt b o cs := fun j v hj => (hk _).trans (h j v hj)
/-- The cells of Items whose Data lie there. -/
def itcs : List It → List Value → List Value
  | x :: l, u :: xs => .int .i64 x.d :: .int .i64 x.a :: u :: itcs l xs
  | _, _ => []
theorem itcs_len : ∀ (l : List It) (xs : List Value), xs.length = l.length → (itcs l xs).length = l.length * 3
  | [], xs, _ => by simp [itcs]
  | x :: l, [], h => by simp at h
  | x :: l, u :: xs, h => by
    have := itcs_len l xs (by simpa using h)
    simp only [itcs, List.length_cons]; omega
theorem itcs_snoc : ∀ (l : List It) (xs : List Value) (x : It) (u : Value), xs.length = l.length → itcs (l ++ [x]) (xs ++ [u]) = itcs l xs ++ [.int .i64 x.d, .int .i64 x.a, u]
  | [], [], _, _, _ => rfl
  | [], _ :: _, _, _, h => by simp at h
  | _ :: _, [], _, _, h => by simp at h
  | y :: l, u :: xs, x, v, h => by
    have := itcs_snoc l xs x v (by simpa using h)
    simp only [List.cons_append, itcs, this]
theorem itcs_get : ∀ (l : List It) (xs : List Value) (k : Nat) (u : Value), xs.length = l.length → xs[k]? = some u → ∀ j, j < 3 → (itcs l xs)[k * 3 + j]? = [.int .i64 (itN l k).d, .int .i64 (itN l k).a, u][j]?
  | [], [], k, u, _, h, _, _ => by simp at h
  | [], _ :: _, _, _, h, _, _, _ => by simp at h
  | _ :: _, [], _, _, h, _, _, _ => by simp at h
  | x :: l, v :: xs, 0, u, _, h, j, hj => by
    obtain rfl : v = u := by simpa using h
    match j, hj with
    | 0, _ => rfl
    | 1, _ => rfl
    | 2, _ => rfl
  | x :: l, v :: xs, k + 1, u, hl, h, j, hj => by
    have := itcs_get l xs k u (by simpa using hl) (by simpa using h) j hj
    rw [show (k + 1) * 3 + j = k * 3 + j + 1 + 1 + 1 by omega]
    exact this
/-- All their numbers are whole numbers of 64 digits. -/
def Its64 (l : List It) : Prop := ∀ k, k < l.length → It64 (itN l k)
/-- The slice of Items reads as these. -/
def RdI (w : World) (B : Nat) (A : Option Addr) (l : List It) : Prop :=
  l.length ≤ 140737488355328 ∧ (0 < l.length → ∃ b, A = some ⟨b, 0, none⟩ ∧ b < B ∧ ∀ k, k < l.length → ∃ D c, w.rangeAt b (k * 3) [.int .i64 (itN l k).d, .int .i64 (itN l k).a, .slice D (itN l k).b.length c] ∧ RdB w B D (itN l k).b)
theorem RdI.keep {w w' : World} {B B' : Nat} {A : Option Addr} {l : List It} (h : RdI w B A l) (hB : B ≤ B') (hk : ∀ p : Addr, p.block < B → w'.cell? p = w.cell? p) : RdI w' B' A l :=
  ⟨h.1, fun hn => by
    obtain ⟨b, e, hb, hc⟩ := h.2 hn
    refine ⟨b, e, by omega, fun k hk' => ?_⟩
    obtain ⟨D, c, h1, h2⟩ := hc k hk'
    exact ⟨D, c, rangeAt_keep h1 fun j => hk ⟨b, j, none⟩ hb, h2.keep hB hk⟩⟩
theorem RdI.below {w w' : World} {B B' : Nat} {A : Option Addr} {l : List It} (h : RdI w B A l) (hb : Below B' w w') (hB : B ≤ B') : RdI w' B A l := h.keep (Nat.le_refl _) fun p hp => hb.cell (by omega)
theorem RdI.more {w : World} {B B' : Nat} {A : Option Addr} {l : List It} (h : RdI w B A l) (hB : B ≤ B') : RdI w B' A l := h.keep hB fun _ _ => rfl
theorem RdI.later {w w' : World} {A : Option Addr} {l : List It} (h : RdI w w.heap.size A l) (hb : Below w.heap.size w w') : RdI w' w'.heap.size A l := (h.below hb (Nat.le_refl _)).more hb.size
theorem RdI.nil (w : World) (B : Nat) (A : Option Addr) : RdI w B A [] := ⟨by simp, fun h => by simp at h⟩
theorem itN_take {l : List It} {i k : Nat} (h : k < i) : itN (l.take i) k = itN l k := by
  simp [itN, List.getD_eq_getElem?_getD, h]
theorem RdI.take {w : World} {B : Nat} {A : Option Addr} {l : List It} (h : RdI w B A l) (i : Nat) : RdI w B A (l.take i) :=
  ⟨by have := h.1; simp; omega, fun hn => by
    have hn' : 0 < l.length := by simp at hn; omega
    obtain ⟨b, e, hb, hc⟩ := h.2 hn'
    refine ⟨b, e, hb, fun k hk => ?_⟩
    have hk' : k < i ∧ k < l.length := by simp at hk; omega
    rw [itN_take hk'.1]
    exact hc k hk'.2⟩
theorem itB_get {l : List It} {k : Nat} (hk : k < l.length) : (l.map (·.b)).getD k [] = (itN l k).b := by
  simp [itN, List.getD_eq_getElem?_getD, hk]
end Go.Proofs.YtfgiomidlfoonaaDoor
end
section
set_option linter.unusedVariables false
set_option linter.unusedSimpArgs false
namespace Go.Proofs.YtfgiomidlfoonaaDoor
open Go.RowKit

/-- Values that read as rows, none of them in block ob, all from lo on. -/
def RowsL (w : World) (lo : Nat) (ob : Option Nat) (xs : List Value) (rs : List (List UInt8)) : Prop :=
  xs.length = rs.length ∧ ∀ k, k < rs.length → ∃ A c, xs[k]? = some (.slice A (rs.getD k []).length c) ∧ (rs.getD k []).length ≤ c ∧ RdB w w.heap.size A (rs.getD k []) ∧ (0 < (rs.getD k []).length → ∀ a, A = some a → some a.block ≠ ob ∧ lo ≤ a.block)
section
variable {w w' : World} {lo : Nat} {ob ob' : Option Nat} {xs ys : List Value} {rs qs : List (List UInt8)}
theorem RowsL.nil (w : World) (lo : Nat) (ob : Option Nat) : RowsL w lo ob [] [] := ⟨rfl, fun k hk => by simp at hk⟩
theorem RowsL.le {lo' : Nat} (h : RowsL w lo ob xs rs) (hl : lo' ≤ lo) : RowsL w lo' ob xs rs :=
  ⟨h.1, fun k hk => by
    obtain ⟨A, c, h1, hc, h2, h3⟩ := h.2 k hk
    exact ⟨A, c, h1, hc, h2, fun h0 a ha => ⟨(h3 h0 a ha).1, Nat.le_trans hl (h3 h0 a ha).2⟩⟩⟩
/-- A row grows, that holds none of them. -/
theorem RowsL.grown {row : Option Nat} (h : RowsL w lo ob xs rs) (hg : w.grownBy w' row) (hr : row = ob ∨ ∃ q, row = some q ∧ q < lo) (ho : ob' = ob ∨ ob' = some w.heap.size) : RowsL w' lo ob' xs rs :=
  ⟨h.1, fun k hk => by
    obtain ⟨A, c, h1, hcap, h2, h3⟩ := h.2 k hk
    refine ⟨A, c, h1, hcap, ⟨h2.1, fun h0 => ?_⟩, fun h0 a ha => ⟨?_, (h3 h0 a ha).2⟩⟩
    · obtain ⟨b, off, e, hb, hc⟩ := h2.2 h0
      have hne := h3 h0 _ e
      have hne2 : some b ≠ row := by
        rcases hr with rfl | ⟨q, rfl, hq⟩
        · exact hne.1
        · intro e; injection e with e; have : lo ≤ b := hne.2; omega
      refine ⟨b, off, e, by have := hg.size; omega, fun j hj => ?_⟩
      rw [← hc j hj]
      exact World.cell?_of_block (w := w) (hg.block b hb hne2)
    · rcases ho with rfl | rfl
      · exact (h3 h0 a ha).1
      · obtain ⟨b, off, e, hb, hc⟩ := h2.2 h0
        rw [ha] at e
        injection e with e
        subst e
        intro e
        injection e with e
        simp at e
        omega⟩
theorem RowsL.below (h : RowsL w lo ob xs rs) (hb : Below w.heap.size w w') : RowsL w' lo ob xs rs :=
  ⟨h.1, fun k hk => by
    obtain ⟨A, c, h1, hcap, h2, h3⟩ := h.2 k hk
    exact ⟨A, c, h1, hcap, (h2.below hb (Nat.le_refl _)).more hb.size, h3⟩⟩
theorem RowsL.app (h : RowsL w lo ob xs rs) (h' : RowsL w lo ob ys qs) : RowsL w lo ob (xs ++ ys) (rs ++ qs) :=
  ⟨by simp [h.1, h'.1], fun k hk => by
    by_cases hk2 : k < rs.length
    · have e : (rs ++ qs).getD k [] = rs.getD k [] := by simp [List.getD_eq_getElem?_getD, List.getElem?_append_left hk2]
      rw [e, List.getElem?_append_left (by rw [h.1]; exact hk2)]
      exact h.2 k hk2
    · have e : (rs ++ qs).getD k [] = qs.getD (k - rs.length) [] := by simp [List.getD_eq_getElem?_getD, List.getElem?_append_right (show rs.length ≤ k by omega)]
      rw [e, List.getElem?_append_right (by rw [h.1]; omega), h.1]
      exact h'.2 _ (by simp at hk; omega)⟩
theorem RowsL.one {A : Option Addr} {c : Nat} {b : List UInt8} (hr : RdB w w.heap.size A b) (hc : b.length ≤ c) (hne : 0 < b.length → ∀ a, A = some a → some a.block ≠ ob ∧ lo ≤ a.block) : RowsL w lo ob [.slice A b.length c] [b] :=
  ⟨rfl, fun k hk => by
    obtain rfl : k = 0 := by simp at hk; omega
    exact ⟨A, c, rfl, hc, hr, hne⟩⟩
end
theorem itcs_app : ∀ (l l2 : List It) (xs xs2 : List Value), xs.length = l.length → itcs (l ++ l2) (xs ++ xs2) = itcs l xs ++ itcs l2 xs2
  | [], _, [], _, _ => rfl
  | [], _, _ :: _, _, h => by simp at h
  | _ :: _, _, [], _, h => by simp at h
  | y :: l, l2, u :: xs, xs2, h => by
    have := itcs_app l l2 xs xs2 (by simpa using h)
    simp only [List.cons_append, itcs, this]
theorem itcs_one : ∀ (l : List It) (xs : List Value), (∀ u ∈ xs, u.oneCell' = true) → ∀ u ∈ itcs l xs, u.oneCell' = true
  | [], _, _, u, hu => by simp [itcs] at hu
  | _ :: _, [], _, u, hu => by simp [itcs] at hu
  | x :: l, v :: xs, h, u, hu => by
    simp only [itcs, List.mem_cons] at hu
    rcases hu with rfl | rfl | rfl | hu
    · rfl
    · rfl
    · exact h _ (List.mem_cons_self ..)
    · exact itcs_one l xs (fun u hu => h u (List.mem_cons_of_mem _ hu)) u hu
theorem RowsL.ones {w : World} {lo : Nat} {ob : Option Nat} {xs : List Value} {rs : List (List UInt8)} (h : RowsL w lo ob xs rs) : ∀ u ∈ xs, u.oneCell' = true := fun u hu => by
  obtain ⟨k, hk, rfl⟩ := List.getElem_of_mem hu
  obtain ⟨A, c, h1, _⟩ := h.2 k (by rw [← h.1]; exact hk)
  rw [List.getElem?_eq_getElem hk] at h1
  injection h1 with h1
  rw [h1]; rfl
/-- Items of one's own: their row lies from B on; their Data from lo on, and not in that row. -/
def OwIt (e : TypeId) (w : World) (B lo : Nat) (v : Value) (l : List It) : Prop :=
  ∃ xs, w.ownsRow B e 3 v l.length (itcs l xs) ∧ RowsL w lo v.ownBlock xs (l.map (·.b)) ∧ l.length ≤ 1000000
section
variable {e : TypeId} {w w' : World} {B lo : Nat} {v : Value} {l : List It}
theorem OwIt.nil (e : TypeId) (w : World) (B lo : Nat) : OwIt e w B lo (.slice none 0 0) [] := ⟨[], World.ownsRow_nil _ _ _ _, RowsL.nil _ _ _, by simp⟩
theorem OwIt.rd (h : OwIt e w B lo v l) : ∃ A c, v = .slice A l.length c ∧ l.length ≤ c ∧ RdI w w.heap.size A l := by
  obtain ⟨xs, h1, h2, h3⟩ := h
  obtain ⟨A, c, rfl, hc, hg⟩ := rx_form h1
  refine ⟨A, c, rfl, hc, by omega, fun hn => ?_⟩
  obtain ⟨g, rfl, hB⟩ := hg hn
  refine ⟨g, rfl, (h1.lt g rfl).2, fun k hk => ?_⟩
  obtain ⟨D, c', hx, _, hr, _⟩ := h2.2 k (by simpa using hk)
  rw [itB_get hk] at hx hr
  have hxl : xs.length = l.length := by have := h2.1; simpa using this
  refine ⟨D, c', fun j u hj => ?_, hr⟩
  have hj3 : j < 3 := (List.getElem?_eq_some_iff.1 hj).1
  rw [rx_cell_at h1 _ (by rw [itcs_len _ _ hxl]; omega), itcs_get l xs k _ hxl hx j hj3]
  exact hj
theorem OwIt.lt (h : OwIt e w B lo v l) : ∀ k, v.ownBlock = some k → B ≤ k ∧ k < w.heap.size := by
  obtain ⟨xs, h1, _⟩ := h; exact h1.lt
theorem OwIt.below (h : OwIt e w B lo v l) (hb : Below w.heap.size w w') : OwIt e w' B lo v l := by
  obtain ⟨xs, h1, h2, h3⟩ := h
  exact ⟨xs, h1.kept (grown_none hb) (Classical.em _), h2.below hb, h3⟩
/-- A block is written that is none of these. -/
theorem OwIt.far {q : Nat} (h : OwIt e w B lo v l) (hg : w.grownBy w' (some q)) (hB : q < B) (hl : q < lo) : OwIt e w' B lo v l := by
  obtain ⟨xs, h1, h2, h3⟩ := h
  refine ⟨xs, h1.kept hg (.inr fun e => ?_), h2.grown hg (.inr ⟨q, rfl, hl⟩) (.inl rfl), h3⟩
  have := (h1.lt q e).1; omega
theorem OwIt.le {B' lo' : Nat} (h : OwIt e w B lo v l) (hB : B' ≤ B) (hl : lo' ≤ lo) : OwIt e w B' lo' v l := by
  obtain ⟨xs, h1, h2, h3⟩ := h
  refine ⟨xs, ⟨h1.1, ?_⟩, h2.le hl, h3⟩
  rcases h1.2 with h1 | ⟨g, cap, cur, h1, h2, r⟩
  · exact .inl h1
  · exact .inr ⟨g, cap, cur, h1, by omega, r⟩
end
/-- What is appended: Items that lie there. -/
def SrcI (w : World) (lo : Nat) (ob : Option Nat) (A : Option Addr) (l : List It) : Prop :=
  (A = none ∧ l = []) ∨ ∃ ad xs, A = some ad ∧ RowsL w lo ob xs (l.map (·.b)) ∧ ∀ j u, (itcs l xs)[j]? = some u → w.cell? (ad.add j) = some u
section
variable {P : Program} (w : World)
theorem run_append_I (base lo : Nat) (t ty e : TypeId) (ht : P.underlying t = some (.slice e)) (hinfo : (P.info? e).map (fun i => (i.zero, i.size, i.bytes)) = some (some (.agg #[.int .i64 0, .int .i64 0, .slice none 0 0]), 3, 40))
    (v : Value) (l : List It) (hown : OwIt e w base lo v l) (A : Option Addr) (m c : Nat) (l2 : List It) (hm : m = l2.length) (hs : SrcI w lo v.ownBlock A l2) (hn : l.length + l2.length ≤ 1000000) (hbase : base ≤ w.heap.size) :
    ∃ v' w', (Builtin.append_ #[t, t] ty #[v, .slice A m c]).run P w = .ok v' w' ∧ OwIt e w' base lo v' (l ++ l2) ∧ w.grownBy w' v.ownBlock ∧ (v'.ownBlock = v.ownBlock ∨ v'.ownBlock = some w.heap.size) := by
  subst hm
  obtain ⟨i, hi, hzz⟩ := Option.map_eq_some_iff.1 hinfo
  simp only [Prod.mk.injEq] at hzz
  obtain ⟨hz, hs', hb⟩ := hzz
  obtain ⟨xs, h1, h2, h3⟩ := hown
  rcases hs with ⟨rfl, rfl⟩ | ⟨ad, xs2, rfl, g2, g3⟩
  · refine ⟨v, w, ?_, by rw [List.append_nil]; exact ⟨xs, h1, h2, h3⟩, World.grownBy.refl w _, .inl rfl⟩
    rcases h1.2 with ⟨rfl, _⟩ | ⟨g, cap, cur, rfl, _, _, hnc, _⟩
    · simp [Builtin.append_, run_underlying ht, sizeOf, typeInfo, hi, Builtin.lenOf, Builtin.firstCells]
    · simp [Builtin.append_, run_underlying ht, sizeOf, typeInfo, hi, Builtin.lenOf, Builtin.firstCells, hnc, storeCells]
  · have hx2 : xs2.length = l2.length := by have := g2.1; simpa using this
    have hx1 : xs.length = l.length := by have := h2.1; simpa using this
    obtain ⟨v', w', hrun, k2, k3, _, k5⟩ := run_append_own_at (P := P) w base t ty e i _ 3 40 ht hi hz hs' hb rfl (by omega) v l.length (itcs l xs) h1 ad l2.length c (itcs l2 xs2) (itcs_len _ _ hx2) g3 (itcs_one _ _ g2.ones) (by unfold maxLen; omega) (by omega) hbase
    refine ⟨v', w', hrun, ⟨xs ++ xs2, ?_, ?_, by simp; omega⟩, k3, k5⟩
    · rw [itcs_app _ _ _ _ hx1, List.length_append]; exact k2
    · rw [List.map_append]
      exact (h2.grown k3 (.inl rfl) k5).app (g2.grown k3 (.inl rfl) k5)
theorem wpList_append_I {ops : Array Oper} {rest : List Oper} {o : Oper} {a : Act} {Q : Exit → Act → World → Prop} (hw : Region.wanted o (yielded ops a.tmps) = true) (s x : Operand) (t : TypeId)
    (ho : o.op = .call { callee := .builtin .append, args := #[s, x], argTypes := #[t, t] })
    (base lo : Nat) (e : TypeId) (ht : P.underlying t = some (.slice e)) (hinfo : (P.info? e).map (fun i => (i.zero, i.size, i.bytes)) = some (some (.agg #[.int .i64 0, .int .i64 0, .slice none 0 0]), 3, 40))
    (v : Value) (l : List It) (hsv : a.eval s = v) (hown : OwIt e w base lo v l) (A : Option Addr) (m c : Nat) (l2 : List It) (hx : a.eval x = .slice A m c) (hm : m = l2.length) (hs : SrcI w lo v.ownBlock A l2) (hn : l.length + l2.length ≤ 1000000) (hbase : base ≤ w.heap.size)
    (h : ∀ v' w', OwIt e w' base lo v' (l ++ l2) → w.grownBy w' v.ownBlock → (v'.ownBlock = v.ownBlock ∨ v'.ownBlock = some w.heap.size) → wpList P ops Q rest (a.put o.dst v') w') : wpList P ops Q (o :: rest) a w := by
  refine BigFrame.wpList_want hw fun K hK => ?_
  obtain ⟨v', w', hrun, h2, h3, h4⟩ := run_append_I (P := P) w base lo t o.type e ht hinfo v l hown A m c l2 hm hs hn hbase
  unfold Oper.wp execOp
  simp only [ho, resolve, invoke, builtin, Sem.run_bind, Sem.run_pure, Result.andThen_ok, List.map_toArray, List.map_cons, List.map_nil, hsv, hx, hrun]
  exact hK _ _ (h v' w' h2 h3 h4)
end
/-- One Item, in a new block of its own. -/
theorem src_one {w : World} {lo g : Nat} {ob : Option Nat} {x : It} {D : Option Addr} {c : Nat} {t : TypeId} {f : Nat × Nat} (hg : w.heap[g]? = some (.cells (List.toArray [.int .i64 x.d, .int .i64 x.a, .slice D x.b.length c]) t f)) (hr : RdB w w.heap.size D x.b) (hc : x.b.length ≤ c) (hne : 0 < x.b.length → ∀ a, D = some a → some a.block ≠ ob ∧ lo ≤ a.block) : SrcI w lo ob (some ⟨g, 0, none⟩) [x] :=
  .inr ⟨⟨g, 0, none⟩, [.slice D x.b.length c], rfl, RowsL.one hr hc hne, fun j u hu => by
    have e1 : ((⟨g, 0, none⟩ : Addr).add j) = ⟨g, j, none⟩ := by unfold Addr.add; by_cases hk0 : j = 0 <;> simp [hk0]
    rw [e1, cell_of_row w g j _ t f hg]
    simpa [itcs] using hu⟩
/-- One's own Items once more. -/
theorem OwIt.src {e : TypeId} {w : World} {B lo : Nat} {A : Option Addr} {n c : Nat} {l : List It} (h : OwIt e w B lo (.slice A n c) l) : SrcI w lo (Value.slice A n c).ownBlock A l := by
  obtain ⟨xs, h1, h2, h3⟩ := h
  obtain ⟨A', c', hv, hc, hg⟩ := rx_form h1
  injection hv with e1 e2 e3
  subst e1 e2 e3
  by_cases h0 : l = []
  · subst h0
    rcases h1.2 with ⟨h4, _⟩ | ⟨g, cap, cur, h4, _⟩
    · injection h4 with h4; exact .inl ⟨h4, rfl⟩
    · injection h4 with h4
      exact .inr ⟨⟨g, 0, none⟩, xs, h4, h2, fun j u hu => by simp [itcs] at hu⟩
  · obtain ⟨g, rfl, _⟩ := hg (List.length_pos_iff.2 h0)
    refine .inr ⟨⟨g, 0, none⟩, xs, rfl, h2, fun j u hu => ?_⟩
    have e1 : ((⟨g, 0, none⟩ : Addr).add j) = ⟨g, j, none⟩ := by unfold Addr.add; by_cases hk0 : j = 0 <;> simp [hk0]
    rw [e1, rx_cell_at h1 j (List.getElem?_eq_some_iff.1 hu).1]
    exact hu
end Go.Proofs.YtfgiomidlfoonaaDoor
end
section
set_option linter.unusedVariables false
set_option linter.unusedSimpArgs false
namespace Go.Proofs.YtfgiomidlfoonaaDoor
open Go.RowKit

theorem unlike_any (A : Option Addr) (n c : Nat) (w : World) (r : Bool) (hr : ((n : Int) != 32) = r) :
    Calls Tryd.prog 27 #[.slice A n c] w fun e w' => e = .returned (.bool r) ∧ w' = w := by
  subst hr
  go_enter Tryd.func27, Tryd.ntmps27
  go_wp2
  go_ret
  exact ⟨rfl, rfl⟩
theorem may_any (x : It) (A : Option Addr) (n c : Nat) (w : World) (hn : x.b.length = n) (h : It64 x) :
    Calls Tryd.prog 23 #[.agg #[.int .i64 x.d, .int .i64 x.a, .slice A n c]] w fun e w' => e = .returned (.bool (mayB x)) ∧ Below w.heap.size w w' := by
  have HM := Lib.hid (mayB_iff x)
  obtain ⟨hd, ha⟩ := h
  rw [hn] at HM
  obtain ⟨d, a, b⟩ := x
  dsimp only at *
  have hn' := Lib.hid hn
  clear hn
  generalize mayB ⟨d, a, b⟩ = m at HM
  have B1 := Lib.hid (below1 w (.cells #[.int .i64 d, .int .i64 a, .slice A n c] 29))
  have HY : Hid ((0 ≤ d ∧ d < 8 ∧ 36 ≤ a ∧ a < 52 ∧ n = 32) → m = true) := fun q => HM.out.2 q
  have HN : Hid (¬ (0 ≤ d ∧ d < 8 ∧ 36 ≤ a ∧ a < 52 ∧ n = 32) → m = false) := fun q => by
    rw [← Bool.not_eq_true]; exact fun e => q (HM.out.1 e)
  clear HM
  by_cases h1 : 0 ≤ d
  · by_cases h2 : d < 8
    · by_cases h3 : 36 ≤ a
      · by_cases h4 : a < 52
        · by_cases h5 : n = 32
          · have R := Lib.hid (HY.out ⟨h1, h2, h3, h4, h5⟩)
            have CU := Lib.hid fun W => unlike_any A n c W false (by rw [h5]; rfl)
            clear h5
            go_enter Tryd.func23, Tryd.ntmps23
            go_wp2_with (go_at_call 27; refine (CU.out _).mono ?_; rintro e w' ⟨rfl, rfl⟩)
            go_ret
            exact ⟨by rw [R.out]; rfl, B1.out⟩
          · have R := Lib.hid (HN.out (by omega))
            have CU := Lib.hid fun W => unlike_any A n c W true (by rw [bne_iff_ne]; omega)
            clear h5
            go_enter Tryd.func23, Tryd.ntmps23
            go_wp2_with (go_at_call 27; refine (CU.out _).mono ?_; rintro e w' ⟨rfl, rfl⟩)
            go_ret
            exact ⟨by rw [R.out]; rfl, B1.out⟩
        · have R := Lib.hid (HN.out (by omega))
          go_enter Tryd.func23, Tryd.ntmps23
          go_wp2
          go_ret
          exact ⟨by rw [R.out]; rfl, B1.out⟩
      · have R := Lib.hid (HN.out (by omega))
        go_enter Tryd.func23, Tryd.ntmps23
        go_wp2
        go_ret
        exact ⟨by rw [R.out]; rfl, B1.out⟩
    · have R := Lib.hid (HN.out (by omega))
      go_enter Tryd.func23, Tryd.ntmps23
      go_wp2
      go_ret
      exact ⟨by rw [R.out]; rfl, B1.out⟩
  · have R := Lib.hid (HN.out (by omega))
    go_enter Tryd.func23, Tryd.ntmps23
    go_wp2
    go_ret
    exact ⟨by rw [R.out]; rfl, B1.out⟩
theorem meets_any (x y : It) (A A' : Option Addr) (n c n' c' : Nat) (w : World) :
    Calls Tryd.prog 25 #[.agg #[.int .i64 x.d, .int .i64 x.a, .slice A n c], .agg #[.int .i64 y.d, .int .i64 y.a, .slice A' n' c']] w fun e w' => e = .returned (.bool (meetsB x y)) ∧ Below w.heap.size w w' := by
  have HM := Lib.hid (meetsB_iff x y)
  obtain ⟨d, a, b⟩ := x
  obtain ⟨d', a', b'⟩ := y
  dsimp only at *
  generalize meetsB ⟨d, a, b⟩ ⟨d', a', b'⟩ = m at HM
  have B1 := Lib.hid (below2 w (.cells #[.int .i64 d, .int .i64 a, .slice A n c] 29) (.cells #[.int .i64 d', .int .i64 a', .slice A' n' c'] 29))
  have HN : Hid (¬ (d = d' ∧ a = a') → m = false) := fun q => by
    rw [← Bool.not_eq_true]; exact fun e => q (HM.out.1 e)
  by_cases h1 : d = d'
  · by_cases h2 : a = a'
    · have R := Lib.hid (HM.out.2 ⟨h1, h2⟩)
      have e1 : (d == d') = true := by rw [h1]; exact beq_self_eq_true _
      have e2 : (a == a') = true := by rw [h2]; exact beq_self_eq_true _
      clear h1 h2
      go_enter Tryd.func25, Tryd.ntmps25
      go_wp2
      go_ret
      exact ⟨by rw [R.out]; rfl, B1.out⟩
    · have R := Lib.hid (HN.out (fun q => h2 q.2))
      have e1 : (d == d') = true := by rw [h1]; exact beq_self_eq_true _
      have e2 : (a == a') = false := beq_eq_false_iff_ne.2 h2
      clear h1 h2
      go_enter Tryd.func25, Tryd.ntmps25
      go_wp2
      go_ret
      exact ⟨by rw [R.out]; rfl, B1.out⟩
  · have R := Lib.hid (HN.out (fun q => h1 q.1))
    have e1 : (d == d') = false := beq_eq_false_iff_ne.2 h1
    clear h1
    go_enter Tryd.func25, Tryd.ntmps25
    go_wp2
    go_ret
    exact ⟨by rw [R.out]; rfl, B1.out⟩
end Go.Proofs.YtfgiomidlfoonaaDoor
end
section
namespace Go.Proofs.YtfgiomidlfoonaaDoor
open Go.RowKit

theorem conv_const (w : World) (B : Nat) (C : Array Value) (n c : Nat) (hB : B = w.heap.size) :
    (convert 22 22 (.slice (some ⟨B, 0, none⟩) n c)).run Tryd.prog (w.alloc (.cells C 5)) = .ok (.slice (some ⟨B, 0, none⟩) n c) (w.alloc (.cells C 5 (C.size, C.size + 1))) := by
  subst hB; exact Lib.run_convert_bytes_const (P := Tryd.prog) w 22 5 C n c Tryd.underlying22 Tryd.underlying5
theorem info_u8 : (Tryd.prog.info? 5).map (fun i => (i.zero, i.size, i.bytes)) = some (some (.int .u8 0), 1, 1) := by kernel_rfl
theorem make_bytes (n : Nat) (hn : n ≤ 140737488355328) (w : World) :
    (Instr.makeSlice 22 (.int .i64 (n : Int)) (.int .i64 (n : Int))).run Tryd.prog w = .ok (.slice (some ⟨w.heap.size, 0, none⟩) n n) (w.alloc (.cells (zcells n) 5)) :=
  run_make_row' _ _ _ 1 Tryd.underlying22 info_u8 rfl _ _ n (by omega) (by omega) w
end Go.Proofs.YtfgiomidlfoonaaDoor
end
section
namespace Go.Proofs.YtfgiomidlfoonaaDoor
open Go.RowKit

/-- Bytes as a text. -/
def str (bs : List UInt8) : Value := .string ⟨bs.toArray⟩
theorem conv_str (A : Option Addr) (bs : List UInt8) (n c B : Nat) (w : World) (hn : n = bs.length) (hr : RdB w B A bs) : (convert 22 9 (.slice A n c)).run Tryd.prog w = .ok (str bs) w := by
  subst hn
  rcases Nat.eq_zero_or_pos bs.length with h0 | hp
  · have : bs = [] := List.eq_nil_of_length_eq_zero h0
    subst this
    rcases A with _ | a
    · exact run_convert_bytes_nil w _ _ Tryd.underlying22 Tryd.underlying5 _ _ _ Tryd.underlying9
    · have h := run_convert_bytes_string (P := Tryd.prog) w _ _ _ (some a) 0 c Tryd.underlying22 Tryd.underlying5 Tryd.underlying9
      have h2 := run_bytesToString (P := Tryd.prog) w a 0 c [] (by simp [loadCells, loadCellsFrom])
      exact h.trans h2
  · obtain ⟨b, off, rfl, _, hc⟩ := hr.2 hp
    have h := run_convert_bytes_arg (P := Tryd.prog) w _ _ Tryd.underlying22 Tryd.underlying5 b off bs.length c (bs.map fun x => (x.toNat : Int)) (by simp) (fun i hi => by
      rw [hc i hi]; simp [hi]) _ Tryd.underlying9
    have e : (bs.map fun x => (x.toNat : Int)).map (fun n => UInt8.ofNat n.toNat) = bs := by
      rw [List.map_map]
      exact (List.map_congr_left (g := id) fun x _ => by simp).trans (List.map_id bs)
    rw [h]
    unfold str strOfNums
    rw [e]
theorem str_eql (t : TypeId) (a b : List UInt8) (w : World) : (binOp .eql t (str a) (str b)).run Tryd.prog w = .ok (.bool (a == b)) w := by unfold str; rw [binOp_string_eql]; simp
theorem str_neq (t : TypeId) (a b : List UInt8) (w : World) : (binOp .neq t (str a) (str b)).run Tryd.prog w = .ok (.bool (!(a == b))) w := by unfold str; rw [binOp_string_neq]; simp
end Go.Proofs.YtfgiomidlfoonaaDoor
end
