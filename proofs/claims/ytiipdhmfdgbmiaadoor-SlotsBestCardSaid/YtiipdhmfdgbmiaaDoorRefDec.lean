/- What the document says of a sector: a Super, or none. -/
import Derived.Test.YtiipdhmfdgbmiaaDoorRefRight
import Derived.Test.YtiipdhmfdgbmiaaDoorRefNum
import Derived.Test.YtiipdhmfdgbmiaaDoorRefEnc
import Derived.Test.YtiipdhmfdgbmiaaDoorTbai
import Derived.Test.YtiipdhmfdgbmiaaDoorTbaf
set_option linter.unusedVariables false
set_option linter.unusedSimpArgs false
namespace Go.Proofs.YtiipdhmfdgbmiaaDoor
open Go.RowKit

theorem refDecode_short (A : Option Addr) (n c : Nat) (bs : List UInt8) (w : World) (hn : n = bs.length) (h32 : n ≠ 32) :
    Calls Tryd.prog 26 #[.slice A n c] w fun e w' => ∃ s, s = decS bs ∧ e = .returned (.tuple #[.agg #[.int .i64 s.g, .int .i64 s.al, .int .i64 s.ad, .int .i64 s.ac, .int .i64 s.bl, .int .i64 s.bd, .int .i64 s.bc, .bool s.r, .int .i64 s.wi, .int .i64 s.ep, .int .i64 s.ou], .bool (decO bs)]) ∧ Below w.heap.size w w' := by
  have hd : decO bs = false := decO_not fun h => h32 (hn.trans h.1)
  have h1 : ((n : Int) != 32) = true := by rw [bne_iff_ne]; omega
  have H : Calls Tryd.prog 26 #[.slice A n c] w fun e w' => e = .returned (.tuple #[.agg #[.int .i64 suZ.g, .int .i64 suZ.al, .int .i64 suZ.ad, .int .i64 suZ.ac, .int .i64 suZ.bl, .int .i64 suZ.bd, .int .i64 suZ.bc, .bool suZ.r, .int .i64 suZ.wi, .int .i64 suZ.ep, .int .i64 suZ.ou], .bool false]) ∧ Below w.heap.size w w' := by
    clear hd hn
    go_enter Tryd.func26, Tryd.ntmps26
    go_wp2
    refine bodyPost_ret (v := .tuple #[.agg #[.int .i64 suZ.g, .int .i64 suZ.al, .int .i64 suZ.ad, .int .i64 suZ.ac, .int .i64 suZ.bl, .int .i64 suZ.bd, .int .i64 suZ.bc, .bool suZ.r, .int .i64 suZ.wi, .int .i64 suZ.ep, .int .i64 suZ.ou], .bool false]) (by simp [results, Tryd.results26, go_sem, suZ]) rfl ⟨rfl, ?_⟩
    exact below1 _ _
  refine H.mono ?_
  rintro e w' ⟨h2, h3⟩
  exact ⟨suZ, (decS_no hd).symm, by rw [hd]; exact h2, h3⟩
theorem flds_plain (bs : List UInt8) : flds bs = ⟨((numB [bs.getD 4 0, bs.getD 5 0, bs.getD 6 0, bs.getD 7 0] : Nat) : Int), ((bs.getD 8 0).toNat : Int), ((bs.getD 9 0).toNat : Int), ((bs.getD 10 0).toNat : Int), ((bs.getD 11 0).toNat : Int), ((bs.getD 12 0).toNat : Int), ((bs.getD 13 0).toNat : Int),
    (((bs.getD 14 0).toNat : Int) == 1), ((bs.getD 15 0).toNat : Int), (((bs.getD 16 0).toNat * 256 + (bs.getD 17 0).toNat : Nat) : Int), ((bs.getD 18 0).toNat : Int)⟩ := by
  unfold flds
  simp only [numB_one, numB_two]
theorem str_neG (x y : Operand) (a b : List UInt8) : (eqGuard .neq 9 x y (str a) (str b)) = pure () := by unfold str; rw [eqGuard_at_string]
/-- The bytes that a sector's fields stand in, read from block b. -/
abbrev RS (w0 : World) (b off : Nat) (x8 x9 x10 x11 x12 x13 x14 x15 x16 x17 x18 : UInt8) (W : World) : Prop :=
  (W.cell? ⟨b, off + 8, none⟩ = some (.int .u8 (x8.toNat : Int)) ∧ W.cell? ⟨b, off + 9, none⟩ = some (.int .u8 (x9.toNat : Int)) ∧ W.cell? ⟨b, off + 10, none⟩ = some (.int .u8 (x10.toNat : Int)) ∧ W.cell? ⟨b, off + 11, none⟩ = some (.int .u8 (x11.toNat : Int))
  ∧ W.cell? ⟨b, off + 12, none⟩ = some (.int .u8 (x12.toNat : Int)) ∧ W.cell? ⟨b, off + 13, none⟩ = some (.int .u8 (x13.toNat : Int)) ∧ W.cell? ⟨b, off + 14, none⟩ = some (.int .u8 (x14.toNat : Int)) ∧ W.cell? ⟨b, off + 15, none⟩ = some (.int .u8 (x15.toNat : Int))
  ∧ W.cell? ⟨b, off + 16, none⟩ = some (.int .u8 (x16.toNat : Int)) ∧ W.cell? ⟨b, off + 17, none⟩ = some (.int .u8 (x17.toNat : Int)) ∧ W.cell? ⟨b, off + 18, none⟩ = some (.int .u8 (x18.toNat : Int))) ∧ Below w0.heap.size w0 W
theorem RS.later {w0 W W' : World} {b off : Nat} {x8 x9 x10 x11 x12 x13 x14 x15 x16 x17 x18 : UInt8} (h : RS w0 b off x8 x9 x10 x11 x12 x13 x14 x15 x16 x17 x18 W) (hb : Below W.heap.size W W') : RS w0 b off x8 x9 x10 x11 x12 x13 x14 x15 x16 x17 x18 W' := by
  obtain ⟨⟨h8, h9, h10, h11, h12, h13, h14, h15, h16, h17, h18⟩, F⟩ := h
  have hl := World.block_lt_of_cell? _ _ h8
  have k : ∀ o, W'.cell? ⟨b, o, none⟩ = W.cell? ⟨b, o, none⟩ := fun o => hb.cell (p := ⟨b, o, none⟩) hl
  exact ⟨⟨(k _).trans h8, (k _).trans h9, (k _).trans h10, (k _).trans h11, (k _).trans h12, (k _).trans h13, (k _).trans h14, (k _).trans h15, (k _).trans h16, (k _).trans h17, (k _).trans h18⟩, F.trans (hb.mono F.size)⟩
theorem RS.drew {w0 W : World} {b off : Nat} {x8 x9 x10 x11 x12 x13 x14 x15 x16 x17 x18 : UInt8} (h : RS w0 b off x8 x9 x10 x11 x12 x13 x14 x15 x16 x17 x18 W) : RS w0 b off x8 x9 x10 x11 x12 x13 x14 x15 x16 x17 x18 W.drew := h.later (Below.refl _ _).drew
theorem dn_set (V : World) (m : Nat) (p : Addr) (v : Value) : (V.drewN m).setCell p v = (V.setCell p v).drewN m := by
  unfold World.setCell
  first | rfl | (split <;> rfl)
theorem alloc_dn (V : World) (o : Obj) (m : Nat) : (V.alloc o).drewN m = (V.drewN m).alloc o := rfl
theorem RS.dn {w0 W : World} {b off : Nat} {x8 x9 x10 x11 x12 x13 x14 x15 x16 x17 x18 : UInt8} (m : Nat) (h : RS w0 b off x8 x9 x10 x11 x12 x13 x14 x15 x16 x17 x18 W) : RS w0 b off x8 x9 x10 x11 x12 x13 x14 x15 x16 x17 x18 (W.drewN m) := h.later (belowN _ _ _)
theorem RS.al {w0 W : World} {b off : Nat} {x8 x9 x10 x11 x12 x13 x14 x15 x16 x17 x18 : UInt8} (o : Obj) (h : RS w0 b off x8 x9 x10 x11 x12 x13 x14 x15 x16 x17 x18 W) : RS w0 b off x8 x9 x10 x11 x12 x13 x14 x15 x16 x17 x18 (W.alloc o) := h.later (below1 _ _)
set_option maxHeartbeats 8000000 in
theorem refDecode_32 (b off c : Nat) (bs : List UInt8) (w : World) (hbs : bs.length = 32) (hc : 32 ≤ c) (hb : b < w.heap.size) (hk : ∀ k, k < 32 → w.cell? ⟨b, off + k, none⟩ = some (.int .u8 ((bs.getD k 0).toNat : Int))) :
    Calls Tryd.prog 26 #[.slice (some ⟨b, off, none⟩) 32 c] w fun e w' => ∃ s, s = decS bs ∧ e = .returned (.tuple #[.agg #[.int .i64 s.g, .int .i64 s.al, .int .i64 s.ad, .int .i64 s.ac, .int .i64 s.bl, .int .i64 s.bd, .int .i64 s.bc, .bool s.r, .int .i64 s.wi, .int .i64 s.ep, .int .i64 s.ou], .bool (decO bs)]) ∧ Below w.heap.size w w' := by
  have hRd : ∀ W, Below w.heap.size w W → RdB W W.heap.size (some ⟨b, off, none⟩) bs := fun W hW => ⟨by omega, fun _ => ⟨b, off, rfl, Nat.lt_of_lt_of_le hb hW.size, fun k h => (hW.cell (p := ⟨b, off + k, none⟩) hb).trans (hk k (by omega))⟩⟩
  have CR := Lib.hid fun W (hW : Below w.heap.size w W) => refRight_n (some ⟨b, off, none⟩) none 32 c 0 bs [] 0 W rfl rfl (by omega) hbs (hRd W hW) ⟨by simp, fun h => by simp at h⟩
  have Nu := Lib.hid fun W (hW : Below w.heap.size w W) => refNumber_any b (off + 4) 28 (c - 4) (bs.getD 4 0) (bs.getD 5 0) (bs.getD 6 0) (bs.getD 7 0) W (by omega) ((hW.cell (p := ⟨b, off + 4, none⟩) hb).trans (hk 4 (by omega)))
    ((hW.cell (p := ⟨b, off + 4 + 1, none⟩) hb).trans (hk 5 (by omega))) ((hW.cell (p := ⟨b, off + 4 + 2, none⟩) hb).trans (hk 6 (by omega))) ((hW.cell (p := ⟨b, off + 4 + 3, none⟩) hb).trans (hk 7 (by omega)))
  have RSw : RS w b off (bs.getD 8 0) (bs.getD 9 0) (bs.getD 10 0) (bs.getD 11 0) (bs.getD 12 0) (bs.getD 13 0) (bs.getD 14 0) (bs.getD 15 0) (bs.getD 16 0) (bs.getD 17 0) (bs.getD 18 0) w :=
    ⟨⟨hk 8 (by omega), hk 9 (by omega), hk 10 (by omega), hk 11 (by omega), hk 12 (by omega), hk 13 (by omega), hk 14 (by omega), hk 15 (by omega), hk 16 (by omega), hk 17 (by omega), hk 18 (by omega)⟩, Below.refl _ _⟩
  have HFl := Lib.hid (flds_plain bs)
  have HOr := or_byte (bs.getD 16 0).toNat (bs.getD 17 0) (by have := (bs.getD 16 0).toNat_lt; omega)
  have s64 : Su64 (flds bs) := by
    have b8 : ∀ x : UInt8, (-9223372036854775808 ≤ (x.toNat : Int) ∧ (x.toNat : Int) ≤ 9223372036854775807) := fun x => by have := x.toNat_lt; omega
    have bn : (-9223372036854775808 ≤ ((numB [bs.getD 4 0, bs.getD 5 0, bs.getD 6 0, bs.getD 7 0] : Nat) : Int) ∧ ((numB [bs.getD 4 0, bs.getD 5 0, bs.getD 6 0, bs.getD 7 0] : Nat) : Int) ≤ 9223372036854775807) := by
      have := (numB_lt [bs.getD 4 0, bs.getD 5 0, bs.getD 6 0, bs.getD 7 0] 4 (Nat.le_refl _) (Nat.le_refl _)).1
      rw [List.take_of_length_le (by simp)] at this
      omega
    have be : (-9223372036854775808 ≤ (((bs.getD 16 0).toNat * 256 + (bs.getD 17 0).toNat : Nat) : Int) ∧ (((bs.getD 16 0).toNat * 256 + (bs.getD 17 0).toNat : Nat) : Int) ≤ 9223372036854775807) := by have := (bs.getD 16 0).toNat_lt; have := (bs.getD 17 0).toNat_lt; omega
    rw [HFl.out]
    exact ⟨bn, b8 _, b8 _, b8 _, b8 _, b8 _, b8 _, b8 _, be, b8 _⟩
  have CN := Lib.hid fun W (q : suOk (flds bs) = false) => refEncode_no (flds bs) W s64 (Lib.hid q)
  have CY := Lib.hid fun W (q : suOk (flds bs) = true) => refEncode_yes (flds bs) W s64 (Lib.hid q)
  have HQ := Lib.hid fun (A : Option Addr) (cp : Nat) (W : World) (B : Nat) (ho : OwB 5 W B (.slice A 32 cp) (suB (flds bs))) =>
    conv_str A (suB (flds bs)) 32 cp W.heap.size W rfl ho.rdS.1
  have HQ2 := Lib.hid fun W (hW : Below w.heap.size w W) => conv_str (some ⟨b, off, none⟩) bs 32 c W.heap.size W hbs.symm (hRd W hW)
  have HNq := Lib.hid fun W => str_neq 9 (suB (flds bs)) bs W
  have HNg := str_neG
  have Hr := Lib.hid (show rightB bs [] = false → decO bs = false from fun q => by
    rw [← Bool.not_eq_true]; intro q2; rw [decO_right q2] at q; cases q)
  have Hno := Lib.hid (show suOk (flds bs) = false → decO bs = false from fun q => decO_not fun h => by have h2 := h.2.1; rw [q] at h2; cases h2)
  have Hyes := Lib.hid (show suOk (flds bs) = true → decO bs = (suB (flds bs) == bs) from fun q => by rw [Bool.eq_iff_iff]; simp [decO, hbs, q])
  have R := Lib.hid (show decO bs = true → decS bs = flds bs from fun q => decS_yes q)
  have R' := Lib.hid (show decO bs = false → decS bs = suZ from fun q => decS_no q)
  have Hl := Lib.hid (suB_len (flds bs))
  generalize decO bs = dec at Hr Hno Hyes R R'
  generalize decS bs = ds at R R'
  generalize rightB bs [] = rt at CR Hr
  generalize (suB (flds bs) == bs) = eqb at HNq Hyes
  generalize suB (flds bs) = fb at CY HQ HNq Hl
  generalize suOk (flds bs) = ok at CN CY Hno Hyes
  generalize flds bs = s at CN CY R HFl s64
  generalize numB [bs.getD 4 0, bs.getD 5 0, bs.getD 6 0, bs.getD 7 0] = y0 at Nu HFl
  generalize ((bs.getD 16 0).toNat * 256 + (bs.getD 17 0).toNat : Nat) = y9 at HOr HFl
  generalize bs.getD 8 0 = x8 at RSw HFl
  generalize bs.getD 9 0 = x9 at RSw HFl
  generalize bs.getD 10 0 = x10 at RSw HFl
  generalize bs.getD 11 0 = x11 at RSw HFl
  generalize bs.getD 12 0 = x12 at RSw HFl
  generalize bs.getD 13 0 = x13 at RSw HFl
  generalize bs.getD 14 0 = x14 at RSw HFl
  generalize bs.getD 15 0 = x15 at RSw HFl
  generalize bs.getD 16 0 = x16 at RSw HOr
  generalize bs.getD 17 0 = x17 at RSw HOr
  generalize bs.getD 18 0 = x18 at RSw HFl
  have F0 : Below w.heap.size w (w.alloc (.cells #[.int .i64 suZ.g, .int .i64 suZ.al, .int .i64 suZ.ad, .int .i64 suZ.ac, .int .i64 suZ.bl, .int .i64 suZ.bd, .int .i64 suZ.bc, .bool suZ.r, .int .i64 suZ.wi, .int .i64 suZ.ep, .int .i64 suZ.ou] 54)) := below1 w _
  have h0 : (w.alloc (.cells #[.int .i64 suZ.g, .int .i64 suZ.al, .int .i64 suZ.ad, .int .i64 suZ.ac, .int .i64 suZ.bl, .int .i64 suZ.bd, .int .i64 suZ.bc, .bool suZ.r, .int .i64 suZ.wi, .int .i64 suZ.ep, .int .i64 suZ.ou] 54)).heap[w.heap.size]? = some (.cells #[.int .i64 suZ.g, .int .i64 suZ.al, .int .i64 suZ.ad, .int .i64 suZ.ac, .int .i64 suZ.bl, .int .i64 suZ.bd, .int .i64 suZ.bc, .bool suZ.r, .int .i64 suZ.wi, .int .i64 suZ.ep, .int .i64 suZ.ou] 54 (0, 0)) := hp_new _ _ _ rfl
  generalize hW0 : w.alloc (.cells #[.int .i64 suZ.g, .int .i64 suZ.al, .int .i64 suZ.ad, .int .i64 suZ.ac, .int .i64 suZ.bl, .int .i64 suZ.bd, .int .i64 suZ.bc, .bool suZ.r, .int .i64 suZ.wi, .int .i64 suZ.ep, .int .i64 suZ.ou] 54) = W0 at F0 h0
  have hW0' : w.alloc (.cells #[.int .i64 0, .int .i64 0, .int .i64 0, .int .i64 0, .int .i64 0, .int .i64 0, .int .i64 0, .bool false, .int .i64 0, .int .i64 0, .int .i64 0] 54) = W0 := hW0
  have hz : w.heap.size < W0.heap.size := by rw [← hW0']; simp
  have HB := Lib.hid (show ∀ W, Below W0.heap.size W0 W → W.heap[w.heap.size]? = some (.cells #[.int .i64 suZ.g, .int .i64 suZ.al, .int .i64 suZ.ad, .int .i64 suZ.ac, .int .i64 suZ.bl, .int .i64 suZ.bd, .int .i64 suZ.bc, .bool suZ.r, .int .i64 suZ.wi, .int .i64 suZ.ep, .int .i64 suZ.ou] 54 (0, 0)) from fun W hW => (hW.block _ hz).trans h0)
  have Z := Lib.hid (fun W w' (hW : Below W0.heap.size W0 W) (v : Su) (h3 : w'.heap[w.heap.size]? = some (.cells #[.int .i64 v.g, .int .i64 v.al, .int .i64 v.ad, .int .i64 v.ac, .int .i64 v.bl, .int .i64 v.bd, .int .i64 v.bc, .bool v.r, .int .i64 v.wi, .int .i64 v.ep, .int .i64 v.ou] 54 (0, 0))) (g3 : W.grownBy w' (some w.heap.size)) =>
    (show SAt w' w.heap.size v ∧ Below w.heap.size w w' from ⟨sat_block h3, (F0.trans (hW.mono (Nat.le_of_lt hz))).grown g3 (F0.trans (hW.mono (Nat.le_of_lt hz))).size (fun j e => by injection e with e; omega)⟩))
  have HRS := Lib.hid RSw
  clear hW0 h0 hk hbs hRd RSw
  go_enter Tryd.func26, Tryd.ntmps26
  go_wp2_with fail
  (with_reducible refine (CR.out _ F0).mono ?_); rintro e w1 ⟨rfl, hb1⟩
  cases rt
  · have hd := Hr.out rfl
    obtain rfl := R'.out hd
    subst hd
    have B3 := HB.out _ hb1
    clear CR Nu HFl HOr s64 CN CY HQ HQ2 HNq HNg Hno Hyes R R' Hl HB Hr HRS
    go_wp2_with (refine wpList_store_blk rfl 54 _ _ (by rfl) w.heap.size 0 (.agg (suL suZ).toArray) (by rfl) (by rfl) (suL suZ) 54 B3 (suL suZ) rfl 11 rfl (by kernel_rfl) (by decide) (suL_one suZ) (suL suZ) (by rfl) ?_; intro w3 h3 g3; obtain ⟨⟨z0, z1, z2, z3, z4, z5, z6, z7, z8, z9, z10⟩, F4⟩ := Z.out _ _ hb1 suZ h3 g3)
    refine bodyPost_ret (v := .tuple #[.agg #[.int .i64 suZ.g, .int .i64 suZ.al, .int .i64 suZ.ad, .int .i64 suZ.ac, .int .i64 suZ.bl, .int .i64 suZ.bd, .int .i64 suZ.bc, .bool suZ.r, .int .i64 suZ.wi, .int .i64 suZ.ep, .int .i64 suZ.ou], .bool false]) (by simp [results, Tryd.results26, go_sem, z0, z1, z2, z3, z4, z5, z6, z7, z8, z9, z10]) rfl ⟨_, rfl, rfl, F4⟩
  · have F1 := F0.trans (hb1.mono (Nat.le_of_lt hz))
    have S1 := (HRS.out.later (F1.mono (Nat.le_refl _)))
    clear CR Hr HRS
    go_upto_region 3 with fail
    have i4 : ¬ c = 4 := by omega
    have j4 : (4 : Int) ≤ (c : Int) := by omega
    go_cut [4] (fun v W => ∃ sb : Nat, v = .pointer (some ⟨sb, 0, none⟩) ∧ w1.heap.size ≤ sb ∧ W.heap[sb]? = some (.cells #[.int .i64 s.g, .int .i64 s.al, .int .i64 s.ad, .int .i64 s.ac, .int .i64 s.bl, .int .i64 s.bd, .int .i64 s.bc, .bool s.r, .int .i64 s.wi, .int .i64 s.ep, .int .i64 s.ou] 54 (0, 0)) ∧ Below w1.heap.size w1 W)
    case first =>
      clear HQ2 HNg R' HQ HNq Hl Hno Hyes CN CY R s64 HB Z
      have dn1 : ∀ (V : World) (m : Nat) (o : Obj), (V.drewN m).alloc o = (V.alloc o).drewN m := fun _ _ _ => rfl
      have dn2 : ∀ (V : World) (m : Nat) (p : Addr) (v : Value), (V.drewN m).setCell p v = (V.setCell p v).drewN m := dn_set
      have dn3 : ∀ (V : World) (m : Nat) (p : Addr), (V.drewN m).cell? p = V.cell? p := fun _ _ _ => rfl
      have dn4 : ∀ (V : World) (m : Nat) (p : Addr), (V.drewN m).frozen? p = V.frozen? p := fun _ _ _ => rfl
      have hwr : ∀ x : UInt8, IntKind.i64.wrap (x.toNat : Int) = (x.toNat : Int) := fun x => IntWalk.i64_in _ (by have := x.toNat_lt; omega)
      have hw16 : IntKind.i64.wrap ((x16.toNat : Int) * 256) = (x16.toNat : Int) * 256 := IntWalk.i64_in _ (by have := x16.toNat_lt; omega)
      have dn5 : ∀ (V : World) (m : Nat), (V.drewN m).heap.size = V.heap.size := fun _ _ => rfl
      go_region_held3 (RS w b off x8 x9 x10 x11 x12 x13 x14 x15 x16 x17 x18)
        (repeat' (first | exact S1 | exact RS.drew S1 | apply RS.dn | apply RS.al | apply RS.drew))
        (first
          | (go_at_call 57
             (with_reducible refine (Nu.out _ ?_).mono ?_)
             exact (show RS w b off x8 x9 x10 x11 x12 x13 x14 x15 x16 x17 x18 _ by (repeat' (first | exact S1 | exact RS.drew S1 | apply RS.dn | apply RS.al | apply RS.drew))).2
             rintro e wN ⟨rfl, mN, rfl⟩
             try dsimp only))
      all_goals
        clear dn1 dn2 dn3 dn4 dn5 hwr hw16 Nu HOr
        try simp only [Exit.then]
        refine ‹∀ (a' : Act) (w' : World), Met _ a' w' → _› _ _ ?_
        go_meet
        exact ⟨w1.heap.size, rfl, Nat.le_refl _, by rw [HFl.out]; exact hp_new w1 _ _ rfl, (below1 w1 _).trans (belowN _ _ _)⟩
    case rest =>
      obtain ⟨sb, rfl, hsb, hblk, hb2⟩ := hcut
      have F2 : Below W0.heap.size W0 wc := hb1.trans (hb2.mono hb1.size)
      have T1 : SAt wc sb s := sat_block hblk
      have hsz : sb < wc.heap.size := T1.lt
      have HT1 := Lib.hid T1
      obtain ⟨t0, t1, t2, t3, t4, t5, t6, t7, t8, t9, t10⟩ := T1
      clear hblk hb2 hb1 HFl HOr Nu S1
      cases ok
      · have hd := Hno.out rfl
        obtain rfl := R'.out hd
        subst hd
        have CN2 := Lib.hid fun W => CN.out W rfl
        clear CN CY
        go_wp2_with fail
        (with_reducible refine (CN2.out _).mono ?_); rintro e w3 ⟨rfl, hb3⟩
        have F3 := F2.trans (hb3.mono F2.size)
        have B3 := HB.out _ F3
        clear CN2 HQ HQ2 HNq HNg Hno Hyes R R' Hl HB t0 t1 t2 t3 t4 t5 t6 t7 t8 t9 t10 HT1 F2
        go_wp2_with (refine wpList_store_blk rfl 54 _ _ (by rfl) w.heap.size 0 (.agg (suL suZ).toArray) (by rfl) (by rfl) (suL suZ) 54 B3 (suL suZ) rfl 11 rfl (by kernel_rfl) (by decide) (suL_one suZ) (suL suZ) (by rfl) ?_; intro w4 h3 g3; obtain ⟨⟨z0, z1, z2, z3, z4, z5, z6, z7, z8, z9, z10⟩, F4⟩ := Z.out _ _ F3 suZ h3 g3)
        refine bodyPost_ret (v := .tuple #[.agg #[.int .i64 suZ.g, .int .i64 suZ.al, .int .i64 suZ.ad, .int .i64 suZ.ac, .int .i64 suZ.bl, .int .i64 suZ.bd, .int .i64 suZ.bc, .bool suZ.r, .int .i64 suZ.wi, .int .i64 suZ.ep, .int .i64 suZ.ou], .bool false]) (by simp [results, Tryd.results26, go_sem, z0, z1, z2, z3, z4, z5, z6, z7, z8, z9, z10]) rfl ⟨_, rfl, rfl, F4⟩
      · have hdec := Hyes.out rfl
        have CY2 := Lib.hid fun W => CY.out W rfl
        clear CN CY
        go_wp2_with fail
        (with_reducible refine (CY2.out _).mono ?_); rintro e w3 ⟨v, rfl, O, hb3⟩
        have F3 := F2.trans (hb3.mono F2.size)
        have T3 := HT1.out.below hb3 hsz
        have B3 := HB.out _ F3
        obtain ⟨A, cp, rfl, hcp, hrd⟩ := O.rd
        rw [Hl.out] at O
        rw [Hl.out]
        have e1 := HQ.out A cp w3 _ O
        have e2 := HQ2.out w3 (F0.trans (F3.mono (Nat.le_of_lt hz)))
        have e3 := HNq.out w3
        have e4 := fun x y => HNg x y fb bs
        clear CY2 HQ HQ2 HNq HNg Hno Hyes Hl HB t0 t1 t2 t3 t4 t5 t6 t7 t8 t9 t10 HT1 F2 O hrd hcp
        generalize str fb = s1 at e1 e3 e4
        generalize str bs = s2 at e2 e3 e4
        cases eqb
        · obtain rfl := R'.out hdec
          subst hdec
          clear R R'
          go_wp2_with (refine wpList_store_blk rfl 54 _ _ (by rfl) w.heap.size 0 (.agg (suL suZ).toArray) (by rfl) (by rfl) (suL suZ) 54 B3 (suL suZ) rfl 11 rfl (by kernel_rfl) (by decide) (suL_one suZ) (suL suZ) (by rfl) ?_; intro w4 h3 g3; obtain ⟨⟨z0, z1, z2, z3, z4, z5, z6, z7, z8, z9, z10⟩, F4⟩ := Z.out _ _ F3 suZ h3 g3)
          refine bodyPost_ret (v := .tuple #[.agg #[.int .i64 suZ.g, .int .i64 suZ.al, .int .i64 suZ.ad, .int .i64 suZ.ac, .int .i64 suZ.bl, .int .i64 suZ.bd, .int .i64 suZ.bc, .bool suZ.r, .int .i64 suZ.wi, .int .i64 suZ.ep, .int .i64 suZ.ou], .bool false]) (by simp [results, Tryd.results26, go_sem, z0, z1, z2, z3, z4, z5, z6, z7, z8, z9, z10]) rfl ⟨_, rfl, rfl, F4⟩
        · obtain rfl := R.out hdec
          subst hdec
          clear R R'
          obtain ⟨t0, t1, t2, t3, t4, t5, t6, t7, t8, t9, t10⟩ := T3
          go_wp2_with (refine wpList_store_blk rfl 54 _ _ (by rfl) w.heap.size 0 (.agg (suL ds).toArray) (by rfl) (by rfl) (suL suZ) 54 B3 (suL ds) rfl 11 rfl (by kernel_rfl) (by decide) (suL_one ds) (suL ds) (by rfl) ?_; intro w4 h3 g3; obtain ⟨⟨z0, z1, z2, z3, z4, z5, z6, z7, z8, z9, z10⟩, F4⟩ := Z.out _ _ F3 ds h3 g3)
          refine bodyPost_ret (v := .tuple #[.agg #[.int .i64 ds.g, .int .i64 ds.al, .int .i64 ds.ad, .int .i64 ds.ac, .int .i64 ds.bl, .int .i64 ds.bd, .int .i64 ds.bc, .bool ds.r, .int .i64 ds.wi, .int .i64 ds.ep, .int .i64 ds.ou], .bool true]) (by simp [results, Tryd.results26, go_sem, z0, z1, z2, z3, z4, z5, z6, z7, z8, z9, z10]) rfl ⟨_, rfl, rfl, F4⟩
theorem refDecode_any (A : Option Addr) (n c : Nat) (bs : List UInt8) (w : World) (hn : n = bs.length) (hc : n ≤ c) (hr : RdB w w.heap.size A bs) :
    Calls Tryd.prog 26 #[.slice A n c] w fun e w' => ∃ s, s = decS bs ∧ e = .returned (.tuple #[.agg #[.int .i64 s.g, .int .i64 s.al, .int .i64 s.ad, .int .i64 s.ac, .int .i64 s.bl, .int .i64 s.bd, .int .i64 s.bc, .bool s.r, .int .i64 s.wi, .int .i64 s.ep, .int .i64 s.ou], .bool (decO bs)]) ∧ Below w.heap.size w w' := by
  by_cases h32 : n = 32
  · subst h32
    obtain ⟨b, off, rfl, hb, hk⟩ := hr.2 (by omega)
    exact refDecode_32 b off c bs w hn.symm hc hb (fun k h => hk k (by omega))
  · exact refDecode_short A n c bs w hn h32
end Go.Proofs.YtiipdhmfdgbmiaaDoor
