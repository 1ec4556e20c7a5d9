/- Texts put together: SupMath, SupBox, Str, Laid. -/
import Derived.Test.YtiipdhmfdgbmiaaDoorTbaa
import Derived.Test.YtiipdhmfdgbmiaaDoorProg
import Derived.Laws.BytesArg
import Derived.Laws.BytesString
import Derived.Lib.ConvBytes
import Derived.Test.YtiipdhmfdgbmiaaDoorCards
import Derived.Test.YtiipdhmfdgbmiaaDoorTie
section
namespace Go.Proofs.YtiipdhmfdgbmiaaDoor

/-- A Super's fields: generation, its geometry, the one it goes to, whether it does, window, epoch, what is out. -/
structure Su where
  g : Int
  al : Int
  ad : Int
  ac : Int
  bl : Int
  bd : Int
  bc : Int
  r : Bool
  wi : Int
  ep : Int
  ou : Int
/-- All numbers are whole numbers of 64 digits. -/
structure Su64 (s : Su) : Prop where
  g : (-9223372036854775808 ≤ s.g ∧ s.g ≤ 9223372036854775807)
  al : (-9223372036854775808 ≤ s.al ∧ s.al ≤ 9223372036854775807)
  ad : (-9223372036854775808 ≤ s.ad ∧ s.ad ≤ 9223372036854775807)
  ac : (-9223372036854775808 ≤ s.ac ∧ s.ac ≤ 9223372036854775807)
  bl : (-9223372036854775808 ≤ s.bl ∧ s.bl ≤ 9223372036854775807)
  bd : (-9223372036854775808 ≤ s.bd ∧ s.bd ≤ 9223372036854775807)
  bc : (-9223372036854775808 ≤ s.bc ∧ s.bc ≤ 9223372036854775807)
  wi : (-9223372036854775808 ≤ s.wi ∧ s.wi ≤ 9223372036854775807)
  ep : (-9223372036854775808 ≤ s.ep ∧ s.ep ≤ 9223372036854775807)
  ou : (-9223372036854775808 ≤ s.ou ∧ s.ou ≤ 9223372036854775807)
def suZ : Su := ⟨0, 0, 0, 0, 0, 0, 0, false, 0, 0, 0⟩
def suEq (s t : Su) : Bool := decide (s.g = t.g ∧ s.al = t.al ∧ s.ad = t.ad ∧ s.ac = t.ac ∧ s.bl = t.bl ∧ s.bd = t.bd ∧ s.bc = t.bc ∧ s.r = t.r ∧ s.wi = t.wi ∧ s.ep = t.ep ∧ s.ou = t.ou)
theorem suEq_iff (s t : Su) : suEq s t = true ↔ s = t := by
  obtain ⟨a1, a2, a3, a4, a5, a6, a7, a8, a9, a10, a11⟩ := s
  obtain ⟨b1, b2, b3, b4, b5, b6, b7, b8, b9, b10, b11⟩ := t
  simp [suEq]
theorem suEq_refl (s : Su) : suEq s s = true := (suEq_iff s s).2 rfl
theorem suEq_no {s t : Su} (h : s ≠ t) : suEq s t = false := by
  rw [← Bool.not_eq_true]; exact fun h' => h ((suEq_iff s t).1 h')
def aimB (s : Su) : Bool := if s.r = true then gCan s.al s.ad s.ac s.bl s.bd s.bc && decide (0 ≤ s.wi ∧ s.wi ≤ 16) else decide (s.bl = 0 ∧ s.bd = 0 ∧ s.bc = 0 ∧ s.wi = 0)
def genB (s : Su) : Bool := decide (1 ≤ s.g ∧ s.g ≤ 2147483647)
def epB (s : Su) : Bool := decide (0 ≤ s.ep ∧ s.ep ≤ 65535)
def ouB (s : Su) : Bool := decide (0 ≤ s.ou ∧ s.ou ≤ 255)
def suOk (s : Su) : Bool := genB s && gOk s.al s.ad s.ac && aimB s && epB s && ouB s
def suErr (s : Su) : Int := if suOk s = true then 0 else 1
theorem suErr_yes {s : Su} (h : suOk s = true) : suErr s = 0 := if_pos h
theorem suErr_no {s : Su} (h : suOk s = false) : suErr s = 1 := if_neg (by rw [h]; decide)
theorem suOk_parts {s : Su} (h : suOk s = true) : genB s = true ∧ gOk s.al s.ad s.ac = true ∧ aimB s = true ∧ epB s = true ∧ ouB s = true := by
  simp [suOk] at h
  exact ⟨h.1.1.1.1, h.1.1.1.2, h.1.1.2, h.1.2, h.2⟩
/-- What holds of the fields of a Super that may be. -/
structure SuIn (s : Su) : Prop where
  g : 1 ≤ s.g ∧ s.g ≤ 2147483647
  al : 0 ≤ s.al ∧ s.al ≤ 255
  ad : 0 ≤ s.ad ∧ s.ad ≤ 255
  ac : 0 ≤ s.ac ∧ s.ac ≤ 255
  bl : 0 ≤ s.bl ∧ s.bl ≤ 255
  bd : 0 ≤ s.bd ∧ s.bd ≤ 255
  bc : 0 ≤ s.bc ∧ s.bc ≤ 255
  wi : 0 ≤ s.wi ∧ s.wi ≤ 255
  ep : 0 ≤ s.ep ∧ s.ep ≤ 65535
  ou : 0 ≤ s.ou ∧ s.ou ≤ 255
theorem suIn {s : Su} (h : suOk s = true) : SuIn s := by
  obtain ⟨h1, h2, h3, h4, h5⟩ := suOk_parts h
  have a := gOk_bd h2
  have q1 : 1 ≤ s.g ∧ s.g ≤ 2147483647 := by simpa [genB] using h1
  have q4 : 0 ≤ s.ep ∧ s.ep ≤ 65535 := by simpa [epB] using h4
  have q5 : 0 ≤ s.ou ∧ s.ou ≤ 255 := by simpa [ouB] using h5
  have b : (0 ≤ s.bl ∧ s.bl ≤ 255) ∧ (0 ≤ s.bd ∧ s.bd ≤ 255) ∧ (0 ≤ s.bc ∧ s.bc ≤ 255) ∧ (0 ≤ s.wi ∧ s.wi ≤ 255) := by
    unfold aimB at h3
    split at h3
    · simp only [Bool.and_eq_true, decide_eq_true_eq] at h3
      have := gOk_bd (gCan_parts h3.1).2.1
      omega
    · have := of_decide_eq_true h3
      omega
  exact ⟨q1, by omega, by omega, by omega, b.1, b.2.1, b.2.2.1, b.2.2.2, q4, q5⟩
/-- Byte k of a number, from its low end. -/
def byN (n : Int) (k : Nat) : UInt8 := UInt8.ofNat (n.toNat / 256 ^ k)
def rnB (r : Bool) : UInt8 := if r = true then 1 else 0
def suBody (s : Su) : List UInt8 := [87, 83, 85, 80, byN s.g 3, byN s.g 2, byN s.g 1, byN s.g 0, byN s.al 0, byN s.ad 0, byN s.ac 0, byN s.bl 0, byN s.bd 0, byN s.bc 0, rnB s.r, byN s.wi 0, byN s.ep 1, byN s.ep 0, byN s.ou 0, 0, 0, 0, 0, 0, 0, 0, 0, 0]
def suFull (s : Su) : List UInt8 := suBody s ++ [0, 0, 0, 0]
def suB (s : Su) : List UInt8 := stamped (suFull s) []
theorem suFull_len (s : Su) : (suFull s).length = 32 := rfl
theorem suB_eq (s : Su) : suB s = suBody s ++ be4 (sumR [suBody s]) := rfl
theorem suB_len (s : Su) : (suB s).length = 32 := rfl
theorem suB_right (s : Su) : rightB (suB s) [] = true := right_stamped _ _ (suFull_len s)
/-- The number that bytes tell, the greatest first. -/
def numB (bs : List UInt8) : Nat := bs.foldl (fun n x => n * 256 + x.toNat) 0
def flds (bs : List UInt8) : Su :=
  ⟨numB [bs.getD 4 0, bs.getD 5 0, bs.getD 6 0, bs.getD 7 0], numB [bs.getD 8 0], numB [bs.getD 9 0], numB [bs.getD 10 0], numB [bs.getD 11 0], numB [bs.getD 12 0], numB [bs.getD 13 0],
    (((bs.getD 14 0).toNat : Int) == 1), numB [bs.getD 15 0], numB [bs.getD 16 0, bs.getD 17 0], numB [bs.getD 18 0]⟩
theorem numB_one (a : UInt8) : numB [a] = a.toNat := by simp [numB]
theorem numB_two (a b : UInt8) : numB [a, b] = a.toNat * 256 + b.toNat := by simp [numB]
theorem numB_four (a b c d : UInt8) : numB [a, b, c, d] = ((a.toNat * 256 + b.toNat) * 256 + c.toNat) * 256 + d.toNat := by simp [numB]
theorem byN_one {n : Int} (h : 0 ≤ n ∧ n ≤ 255) : ((numB [byN n 0] : Nat) : Int) = n := by
  rw [numB_one]; simp only [byN, UInt8.toNat_ofNat']; omega
theorem byN_two {n : Int} (h : 0 ≤ n ∧ n ≤ 65535) : ((numB [byN n 1, byN n 0] : Nat) : Int) = n := by
  rw [numB_two]; simp only [byN, UInt8.toNat_ofNat']; omega
theorem byN_four {n : Int} (h : 1 ≤ n ∧ n ≤ 2147483647) : ((numB [byN n 3, byN n 2, byN n 1, byN n 0] : Nat) : Int) = n := by
  rw [numB_four]; simp only [byN, UInt8.toNat_ofNat']; omega
theorem suB_get (s : Su) (k : Nat) (hk : k < 28) : (suB s).getD k 0 = (suBody s).getD k 0 := by
  rw [suB_eq, List.getD_eq_getElem?_getD, List.getElem?_append_left (by show k < 28; exact hk), List.getD_eq_getElem?_getD]
theorem flds_of {bs : List UInt8} {s : Su} (h : ∀ k, k < 28 → bs.getD k 0 = (suBody s).getD k 0) (hi : SuIn s) : flds bs = s := by
  have hr : ((((rnB s.r).toNat : Nat) : Int) == 1) = s.r := by cases s.r <;> rfl
  unfold flds
  rw [h 4 (by omega), h 5 (by omega), h 6 (by omega), h 7 (by omega), h 8 (by omega), h 9 (by omega), h 10 (by omega), h 11 (by omega), h 12 (by omega), h 13 (by omega), h 14 (by omega), h 15 (by omega), h 16 (by omega), h 17 (by omega), h 18 (by omega)]
  have e : (⟨numB [byN s.g 3, byN s.g 2, byN s.g 1, byN s.g 0], numB [byN s.al 0], numB [byN s.ad 0], numB [byN s.ac 0], numB [byN s.bl 0], numB [byN s.bd 0], numB [byN s.bc 0], (((rnB s.r).toNat : Nat) : Int) == 1, numB [byN s.wi 0], numB [byN s.ep 1, byN s.ep 0], numB [byN s.ou 0]⟩ : Su) = s := by
    rw [byN_four hi.g, byN_one hi.al, byN_one hi.ad, byN_one hi.ac, byN_one hi.bl, byN_one hi.bd, byN_one hi.bc, hr, byN_one hi.wi, byN_two hi.ep, byN_one hi.ou]
  exact e
theorem flds_suB {s : Su} (h : suOk s = true) : flds (suB s) = s := flds_of (suB_get s) (suIn h)
/-- A sector is that of a Super. -/
def decO (bs : List UInt8) : Bool := decide (bs.length = 32) && suOk (flds bs) && decide (suB (flds bs) = bs)
def decS (bs : List UInt8) : Su := if decO bs = true then flds bs else suZ
def decE (bs : List UInt8) : Int := if decO bs = true then 0 else 2
theorem decE_yes {bs : List UInt8} (h : decO bs = true) : decE bs = 0 := if_pos h
theorem decE_no {bs : List UInt8} (h : decO bs = false) : decE bs = 2 := if_neg (by rw [h]; decide)
theorem decS_yes {bs : List UInt8} (h : decO bs = true) : decS bs = flds bs := if_pos h
theorem decS_no {bs : List UInt8} (h : decO bs = false) : decS bs = suZ := if_neg (by rw [h]; decide)
theorem decO_iff (bs : List UInt8) : decO bs = true ↔ bs.length = 32 ∧ suOk (flds bs) = true ∧ suB (flds bs) = bs := by
  simp [decO, and_assoc]
theorem decO_mk {bs : List UInt8} (h1 : bs.length = 32) (h2 : suOk (flds bs) = true) (h3 : suB (flds bs) = bs) : decO bs = true := (decO_iff bs).2 ⟨h1, h2, h3⟩
theorem decO_not {bs : List UInt8} (h : ¬ (bs.length = 32 ∧ suOk (flds bs) = true ∧ suB (flds bs) = bs)) : decO bs = false := by
  rw [← Bool.not_eq_true]; exact fun h' => h ((decO_iff bs).1 h')
theorem decO_right {bs : List UInt8} (h : decO bs = true) : rightB bs [] = true := by
  rw [← ((decO_iff bs).1 h).2.2]; exact suB_right _
theorem decO_suB {s : Su} (h : suOk s = true) : decO (suB s) = true := by
  have e := flds_suB h
  exact decO_mk (suB_len s) (by rw [e]; exact h) (by rw [e])
theorem decS_suB {s : Su} (h : suOk s = true) : decS (suB s) = s := (decS_yes (decO_suB h)).trans (flds_suB h)
theorem suB_inj {s t : Su} (hs : suOk s = true) (ht : suOk t = true) (h : suB s = suB t) : s = t := by
  rw [← flds_suB hs, h, flds_suB ht]
/-- One byte turned: it is a Super's no more, unless by nothing. -/
theorem dec_turned {s : Su} (h : suOk s = true) (i : Nat) (hi : i < 32) (c : UInt8) : decO ((suB s).set i ((suB s).getD i 0 ^^^ c)) = ((c.toNat : Int) == 0) := by
  have hr := right_set (suB_right s) i hi c
  by_cases hc : c = 0
  · subst hc
    have e : (suB s).set i ((suB s).getD i 0 ^^^ 0) = suB s := by
      rw [UInt8.xor_zero]
      apply List.ext_getElem (by simp)
      intro n h1 h2
      rw [List.getElem_set]
      split
      · subst_vars; simp [List.getD_eq_getElem?_getD, h2]
      · rfl
    rw [e, decO_suB h]; rfl
  · have h0 : ((c.toNat : Int) == 0) = false := by rw [byte_eq0]; exact decide_eq_false hc
    rw [h0] at hr ⊢
    rw [← Bool.not_eq_true]
    intro h'
    rw [decO_right h'] at hr
    cases hr
end Go.Proofs.YtiipdhmfdgbmiaaDoor
end
section
set_option linter.unusedVariables false
set_option linter.unusedSimpArgs false
namespace Go.Proofs.YtiipdhmfdgbmiaaDoor
open Go.RowKit

/-- The block holds this Super. -/
abbrev SAt (w : World) (b : Nat) (s : Su) : Prop :=
  w.cell? ⟨b, 0, none⟩ = some (.int .i64 s.g) ∧ w.cell? ⟨b, 1, none⟩ = some (.int .i64 s.al) ∧ w.cell? ⟨b, 2, none⟩ = some (.int .i64 s.ad) ∧ w.cell? ⟨b, 3, none⟩ = some (.int .i64 s.ac)
  ∧ w.cell? ⟨b, 4, none⟩ = some (.int .i64 s.bl) ∧ w.cell? ⟨b, 5, none⟩ = some (.int .i64 s.bd) ∧ w.cell? ⟨b, 6, none⟩ = some (.int .i64 s.bc) ∧ w.cell? ⟨b, 7, none⟩ = some (.bool s.r)
  ∧ w.cell? ⟨b, 8, none⟩ = some (.int .i64 s.wi) ∧ w.cell? ⟨b, 9, none⟩ = some (.int .i64 s.ep) ∧ w.cell? ⟨b, 10, none⟩ = some (.int .i64 s.ou)
theorem sat_block {w : World} {b : Nat} {s : Su} {t : TypeId} {f : Nat × Nat} (h : w.heap[b]? = some (.cells #[.int .i64 s.g, .int .i64 s.al, .int .i64 s.ad, .int .i64 s.ac, .int .i64 s.bl, .int .i64 s.bd, .int .i64 s.bc, .bool s.r, .int .i64 s.wi, .int .i64 s.ep, .int .i64 s.ou] t f)) : SAt w b s :=
  ⟨cell_of_row _ _ 0 _ _ _ h, cell_of_row _ _ 1 _ _ _ h, cell_of_row _ _ 2 _ _ _ h, cell_of_row _ _ 3 _ _ _ h, cell_of_row _ _ 4 _ _ _ h, cell_of_row _ _ 5 _ _ _ h, cell_of_row _ _ 6 _ _ _ h, cell_of_row _ _ 7 _ _ _ h, cell_of_row _ _ 8 _ _ _ h, cell_of_row _ _ 9 _ _ _ h, cell_of_row _ _ 10 _ _ _ h⟩
theorem sat_new (w : World) (s : Su) (t : TypeId) (f : Nat × Nat) : SAt (w.alloc (.cells #[.int .i64 s.g, .int .i64 s.al, .int .i64 s.ad, .int .i64 s.ac, .int .i64 s.bl, .int .i64 s.bd, .int .i64 s.bc, .bool s.r, .int .i64 s.wi, .int .i64 s.ep, .int .i64 s.ou] t f)) w.heap.size s := sat_block (heap_alloc_new w _)
theorem SAt.keep {w w' : World} {b : Nat} {s : Su} (h : SAt w b s) (hk : ∀ k, w'.cell? ⟨b, k, none⟩ = w.cell? ⟨b, k, none⟩) : SAt w' b s := by
  obtain ⟨h0, h1, h2, h3, h4, h5, h6, h7, h8, h9, h10⟩ := h
  exact ⟨(hk 0).trans h0, (hk 1).trans h1, (hk 2).trans h2, (hk 3).trans h3, (hk 4).trans h4, (hk 5).trans h5, (hk 6).trans h6, (hk 7).trans h7, (hk 8).trans h8, (hk 9).trans h9, (hk 10).trans h10⟩
theorem SAt.below {w w' : World} {b B : Nat} {s : Su} (h : SAt w b s) (hb : Below B w w') (hB : b < B) : SAt w' b s := h.keep fun k => hb.cell (p := ⟨b, k, none⟩) hB
theorem SAt.lt {w : World} {b : Nat} {s : Su} (h : SAt w b s) : b < w.heap.size := World.block_lt_of_cell? _ _ h.1
/-- What stays while callees make memory. -/
def SS (w0 : World) (B b : Nat) (s : Su) (W : World) : Prop := SAt W b s ∧ Below B w0 W ∧ b < W.heap.size
theorem SS.later {w0 W W' : World} {B b : Nat} {s : Su} (h : SS w0 B b s W) (hb : Below W.heap.size W W') (hB : B ≤ w0.heap.size := by exact Nat.le_refl _) : SS w0 B b s W' :=
  ⟨h.1.below hb h.2.2, h.2.1.trans (hb.mono (Nat.le_trans hB h.2.1.size)), Nat.lt_of_lt_of_le h.2.2 hb.size⟩
theorem SS.drew {w0 W : World} {B b : Nat} {s : Su} (h : SS w0 B b s W) : SS w0 B b s W.drew := ⟨h.1, h.2.1.drew, h.2.2⟩
theorem ss_new (w : World) (s : Su) (t : TypeId) (f : Nat × Nat) : SS w w.heap.size w.heap.size s (w.alloc (.cells #[.int .i64 s.g, .int .i64 s.al, .int .i64 s.ad, .int .i64 s.ac, .int .i64 s.bl, .int .i64 s.bd, .int .i64 s.bc, .bool s.r, .int .i64 s.wi, .int .i64 s.ep, .int .i64 s.ou] t f)) := ⟨sat_new w s t f, below1 w _, by simp⟩
end Go.Proofs.YtiipdhmfdgbmiaaDoor
end
section
namespace Go.Proofs.YtiipdhmfdgbmiaaDoor
open Go.RowKit

/-- Bytes as a text. -/
def str (bs : List UInt8) : Value := .string ⟨bs.toArray⟩
theorem conv_str (A : Option Addr) (bs : List UInt8) (n c B : Nat) (w : World) (hn : n = bs.length) (hr : RdB w B A bs) : (convert 38 9 (.slice A n c)).run Tryd.prog w = .ok (str bs) w := by
  subst hn
  rcases Nat.eq_zero_or_pos bs.length with h0 | hp
  · have : bs = [] := List.eq_nil_of_length_eq_zero h0
    subst this
    rcases A with _ | a
    · exact run_convert_bytes_nil w _ _ Tryd.underlying38 Tryd.underlying5 _ _ _ Tryd.underlying9
    · have h := run_convert_bytes_string (P := Tryd.prog) w _ _ _ (some a) 0 c Tryd.underlying38 Tryd.underlying5 Tryd.underlying9
      have h2 := run_bytesToString (P := Tryd.prog) w a 0 c [] (by simp [loadCells, loadCellsFrom])
      exact h.trans h2
  · obtain ⟨b, off, rfl, _, hc⟩ := hr.2 hp
    have h := run_convert_bytes_arg (P := Tryd.prog) w _ _ Tryd.underlying38 Tryd.underlying5 b off bs.length c (bs.map fun x => (x.toNat : Int)) (by simp) (fun i hi => by
      rw [hc i hi]; simp [hi]) _ Tryd.underlying9
    have e : (bs.map fun x => (x.toNat : Int)).map (fun n => UInt8.ofNat n.toNat) = bs := by
      rw [List.map_map]
      exact (List.map_congr_left (g := id) fun x _ => by simp).trans (List.map_id bs)
    rw [h]
    unfold str strOfNums
    rw [e]
theorem str_eql (t : TypeId) (a b : List UInt8) (w : World) : (binOp .eql t (str a) (str b)).run Tryd.prog w = .ok (.bool (a == b)) w := by unfold str; rw [binOp_string_eql]; simp
theorem str_neq (t : TypeId) (a b : List UInt8) (w : World) : (binOp .neq t (str a) (str b)).run Tryd.prog w = .ok (.bool (!(a == b))) w := by unfold str; rw [binOp_string_neq]; simp
end Go.Proofs.YtiipdhmfdgbmiaaDoor
end
section
namespace Go.Proofs.YtiipdhmfdgbmiaaDoor
open Go.ChangeShapes Go.WideShapes Go.ChangeAt Go.RowKit

theorem laidOut : laidOutB Tryd.prog = true := by kernel_rfl
theorem own : ownKnob Tryd.prog.godebug = none := by kernel_rfl
theorem gTab : Tryd.prog.globalNamed "wattle/crc.nibbles" = some 0 := by kernel_rfl
theorem gTabType : (Tryd.prog.globals[0]?).map (·.type) = some 125 := by kernel_rfl
theorem cellsTab : Tryd.prog.cellsOf 125 = 16 := by kernel_rfl
theorem cellsU32 : Tryd.prog.cellsOf 114 = 1 := by kernel_rfl
def laidAll : List (String × DataW Unit) := [("wattle/crc.nibbles", Rows.laid_wattle_crc_nibbles)]
theorem table {W : World} (h : laidMetH Tryd.prog laidAll W) : Lib.TabIs Tryd.prog W "wattle/crc.nibbles" .u32 (nibs.map fun n : Nat => (n : Int)) :=
  Lib.tabIs_of_head (rest := []) gTab gTabType Tryd.underlying125 Tryd.underlying114 cellsU32 cellsTab h
theorem tabOk {W : World} (h : laidMetH Tryd.prog laidAll W) : TabOk W := fun i hi => by
  have h1 := (table h).cell gTab i (by simpa [nibs] using hi)
  rw [h1, (show ∀ i, i < 16 → (nibs.map fun n : Nat => (n : Int)).getD i 0 = ((nibs.getD i 0 : Nat) : Int) by decide) i hi]
/-- A world for the witness: the settled one, the table (block 0) holding what its initialiser lays. -/
noncomputable def laidWorld (os : Os) : World :=
  { World.holding Tryd.prog os ⟨#[], #[], []⟩ with heap := (World.holding Tryd.prog os ⟨#[], #[], []⟩).heap.modify 0 fun
      | .cells _ t frozen => .cells #[.int .u32 0, .int .u32 274646895, .int .u32 549293790, .int .u32 820201905, .int .u32 1098587580, .int .u32 1361435347, .int .u32 1640403810, .int .u32 1905808397, .int .u32 2197175160, .int .u32 2460548119, .int .u32 2722870694, .int .u32 2987750089, .int .u32 3280807620, .int .u32 3553878443, .int .u32 3811616794, .int .u32 4084100981] t frozen
      | o => o }
end Go.Proofs.YtiipdhmfdgbmiaaDoor
end
