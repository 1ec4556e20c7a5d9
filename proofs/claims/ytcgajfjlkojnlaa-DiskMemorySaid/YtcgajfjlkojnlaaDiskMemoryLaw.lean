/- DiskMemory: what is written may change behind that, what is read as well. -/
import Derived.Test.YtcgajfjlkojnlaaOff
import Derived.Test.YtcgajfjlkojnlaaDskClone
namespace Go.Proofs.Ytcgajfjlkojnlaa
open Go.RowKit

def sl (g : Nat) : Value := .slice (some ⟨g, 0, none⟩) 32 32
/-- What stays while DiskMemory runs: a disk, the sector handed in, its copy. -/
structure MS (W w : World) (b : Nat) (pv : Value) (D : Dsk) (gx : Nat) (xs : List UInt8) (vw : Value) (ws : List UInt8) : Prop where
  d : DskAt w W.heap.size b pv D
  x : OwB 5 w W.heap.size (sl gx) xs
  v : OwB 5 w W.heap.size vw ws
  ox : Off (sl gx) b pv
  ov : Off vw b pv
  xv : vw.ownBlock ≠ some gx
  hb : Below W.heap.size W w
section
variable {W w w' : World} {b gx : Nat} {pv vw : Value} {D : Dsk} {xs ws : List UInt8}
theorem MS.below (h : MS W w b pv D gx xs vw ws) (hb : Below w.heap.size w w') : MS W w' b pv D gx xs vw ws :=
  ⟨h.d.below hb, h.x.below hb, h.v.below hb, h.ox, h.ov, h.xv, h.hb.trans (hb.mono h.hb.size)⟩
theorem MS.disk {pv' : Value} {D' : Dsk} (h : MS W w b pv D gx xs vw ws) (hd : DskAt w' W.heap.size b pv' D') (hc : Chg (DF b pv) w w') (hn : NewOr w pv pv') : MS W w' b pv' D' gx xs vw ws :=
  ⟨hd, h.x.off h.ox hc, h.v.off h.ov hc, h.ox.step h.x hn, h.ov.step h.v hn, h.xv, h.hb.trans (hc.below (B := W.heap.size) (fun _ hj => DF.le h.d hj) h.hb.size)⟩
theorem MS.set (h : MS W w b pv D gx xs vw ws) (hl : xs.length = 32) (j : Nat) (c : UInt8) : MS W (w.setCell ⟨gx, j, none⟩ (.int .u8 (c.toNat : Int))) b pv D gx (xs.set j c) vw ws := by
  obtain ⟨h1, h2⟩ := h.x.set hl j c
  have hgx := h.x.lt gx rfl
  exact ⟨h.d.stay h.ox rfl h2, h1, h.v.grown h2 (.inr h.xv), h.ox, h.ov, h.xv, h.hb.setCell (p := ⟨gx, j, none⟩) hgx.1 _⟩
/-- A cell of other new memory is set. -/
theorem MS.other (h : MS W w b pv D gx xs vw ws) {g B0 : Nat} {ys : List UInt8} {v : Value} {w0 : World} (hy : OwB 5 w B0 v ys) (hv : v.ownBlock = some g) (hB : w0.heap.size ≤ B0) (h0 : MS W w0 b pv D gx xs vw ws) (j : Nat) (u : Value) (hg : w.grownBy (w.setCell ⟨g, j, none⟩ u) (some g)) : MS W (w.setCell ⟨g, j, none⟩ u) b pv D gx xs vw ws := by
  have hgl := hy.lt g hv
  have o := off_new h0.d hy hB
  have hx0 := h0.x.lt gx rfl
  refine ⟨h.d.stay o hv hg, h.x.grown hg (.inr (by show some gx ≠ some g; intro e; injection e with e; omega)), h.v.grown hg (.inr (fun e => by have := (h0.v.lt g e).2; omega)), h.ox, h.ov, h.xv, h.hb.setCell (p := ⟨g, j, none⟩) ?_ _⟩
  have := h0.hb.size
  show W.heap.size ≤ g
  omega
end
theorem or_u8 (a b : UInt8) : bits .or .u8 (a.toNat : Int) (b.toNat : Int) = (((a ||| b).toNat : Nat) : Int) := by
  rw [u8_or_nat _ _ a.toNat_lt b.toNat_lt, UInt8.toNat_or]
set_option maxHeartbeats 1600000 in
theorem disk_memory (at1 n k1 : Int) (c : UInt8) (W : World) (hat : -9223372036854775808 ≤ at1 ∧ at1 ≤ 9223372036854775807) (hn : -9223372036854775808 ≤ n ∧ n ≤ 9223372036854775807) (hk1 : -9223372036854775808 ≤ k1 ∧ k1 ≤ 9223372036854775807) :
    Calls Try.prog 4 #[.int .i64 at1, .int .i64 n, .int .i64 k1, .int .u8 (c.toNat : Int)] W fun e w' => e = .returned (.bool true) ∧ Below W.heap.size W w' := by
  have CN := Lib.hid (dsk_new_any W)
  have CW1 := Lib.hid (fun V => within_any at1 52 V hat (by omega))
  have CW2 := Lib.hid (fun V => within_any k1 32 V hk1 (by omega))
  obtain ⟨h1, h2⟩ := withinI_bd at1 52 (by omega)
  obtain ⟨h3, h4⟩ := withinI_bd k1 32 (by omega)
  obtain ⟨k, hk⟩ : ∃ k : Nat, withinI at1 52 = (k : Int) := ⟨(withinI at1 52).toNat, by omega⟩
  obtain ⟨j, hj⟩ : ∃ j : Nat, withinI k1 32 = (j : Int) := ⟨(withinI k1 32).toNat, by omega⟩
  rw [hk] at CW1 h1 h2
  rw [hj] at CW2 h3 h4
  clear hk hj hk1 hat
  have hor : bits .or .u8 (c.toNat : Int) 1 = (((c ||| 1).toNat : Nat) : Int) := or_u8 c 1
  generalize c ||| 1 = c1 at hor
  go_enter Try.func4, Try.ntmps4
  go_wp2_with fail
  refine CN.out.mono ?_
  rintro e w1 ⟨rfl, hd, hb1⟩
  have hpn : ∀ V : World, (binOp .eql 22 (.pointer (some ⟨W.heap.size, 0, none⟩)) (.pointer none)).run Try.prog V = .ok (.bool false) V := fun _ => rfl
  have hs1 := hb1.size
  go_wp2_with fail
  refine (CW1.out _).mono ?_
  rintro e w' ⟨rfl, rfl⟩
  go_wp2_with fail
  refine (CW2.out _).mono ?_
  rintro e w1 ⟨rfl, rfl⟩
  go_wp2_with fail
  refine (sector_any n w1 hn).mono ?_
  rintro e w2 ⟨gx, rfl, hox, hb2⟩
  have hl := sectorB_len n
  generalize sectorB n = x at hox hl
  go_wp2_with fail
  refine (copy_any _ 32 32 w2.heap.size x w2 hl.symm hox.rdS.1).mono ?_
  rintro e w3 ⟨v3, rfl, hov, hb3⟩
  have hs2 := hb2.size
  have M3 : MS W w3 W.heap.size (.slice none 0 0) Dsk.new gx x v3 x :=
    ⟨(hd.below hb2).below hb3, (hox.below hb3).le hs1, hov.le (by omega), off_new hd hox (Nat.le_refl _), off_new (hd.below hb2) hov (Nat.le_refl _), fun e => by have := (hov.lt gx e).1; have := (hox.lt gx rfl).2; omega, (hb1.trans (hb2.mono hs1)).trans (hb3.mono (by omega))⟩
  obtain ⟨Aw, cw, rfl, _, _⟩ := hov.rd
  rw [hl] at hov M3 ⊢
  clear hox hov hb3 hb2 hb1 hd hs1 hs2 CN CW1 CW2 hn
  obtain ⟨e1, e2⟩ := wrE (D := Dsk.new) (x := x) (k := k) rfl (by omega) hl
  have CWr := Lib.hid (dsk_write_any _ _ _ _ w3 M3.d (k : Int) x _ 32 32 hl.symm (by omega) M3.x.rdS.1 (by decide))
  rw [e1, e2] at CWr
  go_wp2_with fail
  refine CWr.out.mono ?_
  rintro e w4 ⟨pv4, rfl, hd4, hc4, hn4⟩
  have M4 := M3.disk hd4 hc4 hn4
  clear hd4 hc4 hn4 M3 CWr e1 e2
  obtain ⟨hxc, hxf⟩ := M4.x.cell hl j (by omega)
  have hx1 := xor_u8 (x.getD j 0) c1
  have M5 := Lib.hid (M4.set hl j (x.getD j 0 ^^^ c1))
  generalize x.getD j 0 ^^^ c1 = d1 at hx1 M5
  generalize x.getD j 0 = q at hxc hx1
  have Hl := Lib.hid hl
  have hj1 : (j : Int) < 32 := by omega
  obtain ⟨e1, e2⟩ := rdE (D := Dsk.new.write k x) (k := k) rfl (by omega)
  have CRd := Lib.hid (dsk_read_any _ _ _ _ _ M5.out.d (k : Int) (by omega))
  rw [e1, e2, write_sec Dsk.new_ok (by omega) hl] at CRd
  clear M4 e1 e2
  go_wp2_with fail
  generalize w4.setCell ⟨gx, j, none⟩ (.int .u8 (d1.toNat : Int)) = w5 at M5 CRd ⊢
  refine CRd.out.mono ?_
  rintro e w6 ⟨v6, rfl, hoy, hb6⟩
  obtain ⟨gy, cy, rfl, hgy, hgy2, _, _, hry⟩ := hoy.pos (by omega)
  rw [hl] at hoy ⊢
  have M6 := M5.out.below hb6
  have hs5 := hb6.size
  clear hxc hxf hx1
  have CSm := Lib.hid (same_eq _ Aw 32 cy cw w6.heap.size x w6 hl.symm hry M6.v.rdS.1)
  have Hoy := Lib.hid hoy
  clear hry hoy hb6
  go_wp2_with fail
  refine CSm.out.mono ?_
  rintro e w7 ⟨rfl, hb7⟩
  have M7 := M6.below hb7
  have hoy7 := Hoy.out.below hb7
  obtain ⟨hyc, hyf⟩ := hoy7.cell hl j (by omega)
  have hy1 := xor_u8 (x.getD j 0) c1
  have hset := (hoy7.set hl j (x.getD j 0 ^^^ c1)).2
  have M8 := Lib.hid (M7.other hoy7 rfl (Nat.le_refl _) M5.out j _ hset)
  generalize x.getD j 0 ^^^ c1 = d2 at hy1 M8 hset
  generalize x.getD j 0 = q2 at hyc hy1
  obtain ⟨e1, e2⟩ := rdE (D := Dsk.new.write k x) (k := k) rfl (by omega)
  have CRz := Lib.hid (dsk_read_any _ _ _ _ _ M8.out.d (k : Int) (by omega))
  rw [e1, e2, write_sec Dsk.new_ok (by omega) hl] at CRz
  clear hset M7 M6 hoy7 e1 e2 hb7 CSm CRd
  go_wp2_with fail
  generalize w7.setCell ⟨gy, j, none⟩ (.int .u8 (d2.toNat : Int)) = w8 at M8 CRz ⊢
  refine CRz.out.mono ?_
  rintro e w9 ⟨v9, rfl, hoz, hb9⟩
  have M9 := M8.out.below hb9
  obtain ⟨Az, cz, rfl, _, _⟩ := hoz.rd
  rw [hl] at hoz ⊢
  obtain ⟨e3, e4⟩ := flE (D := Dsk.new.write k x) rfl
  have CF := Lib.hid (dsk_flush_any _ _ _ _ w9 M9.d)
  rw [e3, e4] at CF
  have oz := off_new M8.out.d hoz (Nat.le_refl _)
  clear hyc hyf hy1 e3 e4
  go_wp2_with fail
  refine CF.out.mono ?_
  rintro e w10 ⟨pv10, rfl, hd10, hc10, hn10⟩
  have M10 := M9.disk hd10 hc10 hn10
  have hz10 := hoz.off oz hc10
  have CC := Lib.hid (dsk_clone_any _ _ _ _ w10 M10.d (Nat.zero_le 1000000))
  clear hd10 hc10 hn10 hoz oz M9 CF CRz
  go_wp2_with fail
  refine CC.out.mono ?_
  rintro e w11 ⟨b2, pv11, rfl, hc2, hb11⟩
  have hp2 : ∀ V : World, (binOp .eql 22 (.pointer (some ⟨b2, 0, none⟩)) (.pointer none)).run Try.prog V = .ok (.bool false) V := fun _ => rfl
  have M11 := M10.below hb11
  have hz11 := hz10.below hb11
  have CS2 := Lib.hid (same_eq Az Aw 32 cz cw w11.heap.size x w11 hl.symm hz11.rdS.1 M11.v.rdS.1)
  have HM10 := Lib.hid M10
  clear M10 hz10 hz11
  go_wp2_with fail
  refine CS2.out.mono ?_
  rintro e w12 ⟨rfl, hb12⟩
  have hB12 : Below w10.heap.size w10 w12 := hb11.trans (hb12.mono hb11.size)
  have hd12 := hc2.below hb12
  have M12 := HM10.out.below hB12
  have hl1 : (x.set j d1).length = 32 := by rw [List.length_set]; exact hl
  obtain ⟨e5, e6⟩ := wrE (D := (Dsk.new.write k x).flush) (x := x.set j d1) (k := k) rfl (by omega) hl1
  have CW3 := Lib.hid (dsk_write_any _ _ _ _ w12 hd12 (k : Int) (x.set j d1) _ 32 32 hl1.symm (by omega) M12.x.rdS.1 (Nat.zero_le 1000000))
  rw [e5, e6] at CW3
  clear M11 hc2 hb11 hb12 CS2 CC e5 e6
  go_wp2_with fail
  refine CW3.out.mono ?_
  rintro e w13 ⟨pv13, rfl, hd13, hc13, hn13⟩
  have hB13 : Below w10.heap.size w10 w13 := hB12.trans (hc13.below (B := w10.heap.size) (fun _ h => DF.le hd12 h) hB12.size)
  have M13 := HM10.out.below hB13
  obtain ⟨e1, e2⟩ := rdE (D := (Dsk.new.write k x).flush) (k := k) rfl (by omega)
  have CR3 := Lib.hid (dsk_read_any _ _ _ _ w13 M13.d (k : Int) (by omega))
  rw [e1, e2, Dsk.flush_now, write_sec Dsk.new_ok (by omega) hl] at CR3
  clear hB12 hd12 M12 hc13 hn13 hB13 e1 e2 CW3
  go_wp2_with fail
  refine CR3.out.mono ?_
  rintro e w14 ⟨v14, rfl, ho14, hb14⟩
  obtain ⟨A14, c14, rfl, _, _⟩ := ho14.rd
  rw [hl] at ho14 ⊢
  have M14 := M13.below hb14
  have hd14 := hd13.below hb14
  obtain ⟨e1, e2⟩ := rdE (D := (Dsk.new.write k x).flush.write k (x.set j d1)) (k := k) rfl (by omega)
  have CR4 := Lib.hid (dsk_read_any _ _ _ _ w14 hd14 (k : Int) (by omega))
  rw [e1, e2, write_sec (Dsk.new_ok.write (by omega) hl).flush (by omega) hl1] at CR4
  clear M13 hd13 hb14 e1 e2 CR3
  go_wp2_with fail
  refine CR4.out.mono ?_
  rintro e w15 ⟨v15, rfl, ho15, hb15⟩
  obtain ⟨A15, c15, rfl, _, hr15⟩ := ho15.rd
  rw [hl1] at ho15 ⊢
  have M15 := M14.below hb15
  have hd15 := hd14.below hb15
  have ho14b := ho14.below hb15
  have CS5 := Lib.hid (same_eq A14 Aw 32 c14 cw w15.heap.size x w15 hl.symm ho14b.rdS.1 M15.v.rdS.1)
  have HM15 := Lib.hid M15
  have Hd15 := Lib.hid hd15
  have Ho15 := Lib.hid ho15
  have Hl1 := Lib.hid hl1
  clear M14 hd14 hb15 CR4 M15 hd15 ho14b ho14 ho15 hr15 HM10 hl1
  go_wp2_with (first
    | (go_at_call 22; refine CS5.out.mono ?_; rintro e w16 ⟨rfl, hb16⟩
       have M16 := Lib.hid (HM15.out.below hb16)
       have Hd16 := Lib.hid (Hd15.out.below hb16)
       have CS6 := Lib.hid (same_eq A15 (some ⟨gx, 0, none⟩) 32 c15 32 w16.heap.size (x.set j d1) w16 Hl1.out.symm (Ho15.out.below hb16).rdS.1 M16.out.x.rdS.1)
       clear hb16 CS5)
    | (go_at_call 22; refine CS6.out.mono ?_; rintro e w17 ⟨rfl, hb17⟩
       have M17 := Lib.hid (M16.out.below hb17)
       have Hd17 := Lib.hid (Hd16.out.below hb17)
       clear hb17)
    | (go_at_call 19; refine (dsk_pending_any _ _ _ _ w17 M17.out.d).mono ?_; rintro e w18 ⟨rfl, rfl⟩)
    | (go_at_call 19; refine (dsk_pending_any _ _ _ _ _ Hd17.out).mono ?_; rintro e w18 ⟨rfl, rfl⟩)
    | (go_at_call 20; refine (dwakes_any _).mono ?_; rintro e w19 ⟨rfl, hb19⟩; have HB19 := Lib.hid (M17.out.hb.trans (hb19.mono M17.out.hb.size)); clear hb19))
  go_ret
  exact ⟨rfl, HB19.out⟩
end Go.Proofs.Ytcgajfjlkojnlaa
