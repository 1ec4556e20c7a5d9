/- DiskCrash: of writes to one sector the last one that is kept stays. -/
import Derived.Test.YtcgajfjlkojnlaaDskLeft
namespace Go.Proofs.Ytcgajfjlkojnlaa
open Go.RowKit

theorem write_sec {D : Dsk} (h : D.Ok) {k : Nat} {x : List UInt8} (hk : k < 52) (hx : x.length = 32) : secAt (D.write k x).now k = x := by
  rw [Dsk.write_now]; exact sec_put_same h.now hk hx
theorem wrE {D : Dsk} {k : Nat} {x : List UInt8} (hf : D.f = false) (hk : k < 52) (hx : x.length = 32) : takeE D.f (k : Int) 32 = 0 ∧ D.writeE (k : Int) x = D.write k x := by
  have h := takeE_ok (k := (k : Int)) (by omega) (by omega)
  rw [← hf] at h
  refine ⟨h, ?_⟩
  unfold Dsk.writeE
  rw [hx, if_pos h]
  rfl
theorem rdE {D : Dsk} {k : Nat} (hf : D.f = false) (hk : k < 52) : reachE D.f (k : Int) = 0 ∧ D.readE (k : Int) = secAt D.now k := by
  have h := reachE_ok (k := (k : Int)) (by omega) (by omega)
  rw [← hf] at h
  refine ⟨h, ?_⟩
  unfold Dsk.readE
  rw [if_pos h]
  rfl
theorem slice_ob {A : Option Addr} {n c g : Nat} (h : A = some ⟨g, 0, none⟩) : (Value.slice A n c).ownBlock = some g := by subst h; rfl
/-- What stays while DiskCrash's loop runs. -/
structure KS (W wr : World) (b : Nat) (k : Nat) (keep : List Bool) (i : Nat) (pv : Value) (D : Dsk) (gw : Nat) (wb : List UInt8) : Prop where
  d : DskAt wr W.heap.size b pv D
  f : D.f = false
  l : D.ps.length = i
  left : D.left keep k = wb
  o : OwB 5 wr W.heap.size (.slice (some ⟨gw, 0, none⟩) 32 32) wb
  wl : wb.length = 32
  nb : ¬ DF b pv gw
  hb : Below W.heap.size W wr
theorem KS.step {W wr w6 w7 w9 : World} {b k i gw gx : Nat} {keep : List Bool} {pv pv7 : Value} {D : Dsk} {wb x : List UInt8} (h : KS W wr b k keep i pv D gw wb) (hb6 : Below wr.heap.size wr w6) (hox : OwB 5 w6 wr.heap.size (.slice (some ⟨gx, 0, none⟩) 32 32) x)
    (hd7 : DskAt w7 W.heap.size b pv7 (D.write k x)) (hc : Chg (DF b pv) w6 w7) (hn : NewOr w6 pv pv7) (hb9 : Below w7.heap.size w7 w9) (hk : k < 52) (hx : x.length = 32) :
    (keep.getD i false = true → KS W w9 b k keep (i + 1) pv7 (D.write k x) gx x) ∧ (keep.getD i false = false → KS W w9 b k keep (i + 1) pv7 (D.write k x) gw wb) := by
  have hgx := hox.lt gx rfl
  have hgw := h.o.lt gw rfl
  have hbl := h.d.lt
  have hs6 := hb6.size
  have hs7 := hc.size
  have hle := h.hb.size
  have hl : (D.write k x).left keep k = if keep.getD i false = true then x else wb := by rw [left_write h.d.ok hk hx, h.l, h.left]
  have hB : Below W.heap.size W w9 := (h.hb.trans (hb6.mono hle)).trans ((hc.below (B := W.heap.size) (fun j hj => DF.le (h.d.below hb6) hj) (by omega)).trans (hb9.mono (by omega)))
  have hlen : (D.write k x).ps.length = i + 1 := by simp [Dsk.write, h.l]
  have nx : ¬ DF b pv gx := fun hF => by
    rcases hF with e | e
    · omega
    · have := (h.d.plt gx e).2; omega
  have nx7 : ¬ DF b pv7 gx := fun hF => by
    rcases hF with e | e
    · omega
    · rcases hn gx e with e1 | e1
      · exact nx (.inr e1)
      · omega
  have nw7 : ¬ DF b pv7 gw := fun hF => by
    rcases hF with e | e
    · exact h.nb (.inl e)
    · rcases hn gw e with e1 | e1
      · exact h.nb (.inr e1)
      · omega
  have ox : OwB 5 w9 W.heap.size (.slice (some ⟨gx, 0, none⟩) 32 32) x := ((hox.chg hc fun y hy hF => by
    have hy' : gx = y := by injection hy
    subst hy'; exact nx hF).below hb9).le (by omega)
  have ow : OwB 5 w9 W.heap.size (.slice (some ⟨gw, 0, none⟩) 32 32) wb := (((h.o.below hb6).chg hc fun y hy hF => by
    have hy' : gw = y := by injection hy
    subst hy'; exact h.nb hF).below hb9)
  exact ⟨fun e => ⟨hd7.below hb9, h.f, hlen, by rw [hl, if_pos e], ox, hx, nx7, hB⟩, fun e => ⟨hd7.below hb9, h.f, hlen, by rw [hl, if_neg (by rw [e]; simp)], ow, h.wl, nw7, hB⟩⟩
set_option maxHeartbeats 1600000 in
theorem disk_crash (n flushed : Int) (A : Option Addr) (keep : List Bool) (c : Nat) (at1 : Int) (W : World) (hn : -9223372036854775808 ≤ n ∧ n ≤ 9223372036854775807) (hfl : -9223372036854775808 ≤ flushed ∧ flushed ≤ 9223372036854775807)
    (_ : keep.length ≤ c) (hr : RdO W W.heap.size A keep) (hat : -9223372036854775808 ≤ at1 ∧ at1 ≤ 9223372036854775807) :
    Calls Try.prog 7 #[.int .i64 n, .int .i64 flushed, .slice A keep.length c, .int .i64 at1] W fun e w' => e = .returned (.bool true) ∧ Below W.heap.size W w' := by
  have CN := Lib.hid (dsk_new_any W)
  have CW1 := Lib.hid (fun V => within_any at1 52 V hat (by omega))
  have CW2 := Lib.hid (fun V => within_any n 9 V hn (by omega))
  obtain ⟨h1, h2⟩ := withinI_bd at1 52 (by omega)
  obtain ⟨h3, h4⟩ := withinI_bd n 9 (by omega)
  obtain ⟨k, hk⟩ : ∃ k : Nat, withinI at1 52 = (k : Int) := ⟨(withinI at1 52).toNat, by omega⟩
  obtain ⟨N, hN⟩ : ∃ N : Nat, withinI n 9 = (N : Int) := ⟨(withinI n 9).toNat, by omega⟩
  rw [hk] at CW1 h1 h2
  rw [hN] at CW2 h3 h4
  clear hk hN hn hat
  have Hr := Lib.hid hr
  go_enter Try.func7, Try.ntmps7
  go_wp2_with fail
  refine CN.out.mono ?_
  rintro e w1 ⟨rfl, hd, hb1⟩
  have hpn : ∀ V : World, (binOp .eql 22 (.pointer (some ⟨W.heap.size, 0, none⟩)) (.pointer none)).run Try.prog V = .ok (.bool false) V := fun _ => rfl
  have hs1 := hb1.size
  have hblt := hd.lt
  go_wp2_with fail
  refine (CW1.out _).mono ?_
  rintro e w' ⟨rfl, rfl⟩
  go_wp2_with fail
  refine (CW2.out _).mono ?_
  rintro e w2 ⟨rfl, rfl⟩
  go_wp2_with fail
  refine (sector_any flushed w2 hfl).mono ?_
  rintro e w3 ⟨g0, rfl, ho0, hb3⟩
  have hd3 := hd.below hb3
  have hr0 := ho0.rdS.1
  have hg0 := ho0.lt g0 rfl
  have hl0 := sectorB_len flushed
  obtain ⟨e1, e2⟩ := wrE (D := Dsk.new) (x := sectorB flushed) (k := k) rfl (by omega) hl0
  have CWr := Lib.hid (dsk_write_any _ _ _ _ w3 hd3 (k : Int) (sectorB flushed) _ 32 32 hl0.symm (by omega) hr0 (by decide))
  rw [e1, e2] at CWr
  go_wp2_with fail
  refine CWr.out.mono ?_
  rintro e w4 ⟨pv4, rfl, hd4, hc4, hn4⟩
  have ho4 := ho0.chg hc4 (fun x hx hF => by
    have hx' : g0 = x := by injection hx
    subst hx'
    rcases hF with h | h
    · omega
    · simp [Value.ownBlock] at h)
  obtain ⟨e3, e4⟩ : ((Dsk.new.write k (sectorB flushed)).f = true) = False ∧ (Dsk.new.write k (sectorB flushed)).flushE = (Dsk.new.write k (sectorB flushed)).flush := ⟨by simp [Dsk.write, Dsk.new], rfl⟩
  have CF := Lib.hid (dsk_flush_any _ _ _ _ w4 hd4)
  rw [e4] at CF
  simp only [e3, if_false] at CF
  go_wp2_with fail
  refine CF.out.mono ?_
  rintro e w5 ⟨pv5, rfl, hd5, hc5, hn5⟩
  have hs3 := hb3.size
  have hc4s := hc4.size
  have hnb4 : ¬ DF W.heap.size pv4 g0 := fun hF => by
    rcases hF with h | h
    · omega
    · rcases hn4 g0 h with h5 | h5
      · simp [Value.ownBlock] at h5
      · omega
  have ho5 := ho4.chg hc5 (fun x hx hF => by
    have hx' : g0 = x := by injection hx
    subst hx'
    exact hnb4 hF)
  have hnb5 : ¬ DF W.heap.size pv5 g0 := fun hF => by
    rcases hF with h | h
    · omega
    · rcases hn5 g0 h with h5 | h5
      · exact hnb4 (.inr h5)
      · omega
  have hbW : Below W.heap.size W w5 := (hb1.trans (hb3.mono hs1)).trans (((hc4.below (B := W.heap.size) (fun j hj => DF.le hd3 hj) (by omega))).trans ((hc5.below (B := W.heap.size) (fun j hj => DF.le hd4 hj) (by omega))))
  have HK := Lib.hid (show KS W w5 W.heap.size k keep 0 pv5 ((Dsk.new.write k (sectorB flushed)).flush) g0 (sectorB flushed) from
    ⟨hd5, rfl, rfl, left_first k _ (by omega) hl0 keep, ho5.le (by omega), hl0, hnb5, hbW⟩)
  clear hd hb1 hs1 hblt hb3 hd3 hr0 hg0 hl0 e1 e2 CWr hd4 hc4 hn4 ho4 e3 e4 CF hd5 hc5 hn5 hs3 hc4s hnb4 ho5 hnb5 hbW ho0 CN CW1 CW2
  go_wp2
  go_loopw [11, 12] (fun want si wr => ∃ (i : Nat) (pv : Value) (D : Dsk) (gw : Nat) (wb : List UInt8), i ≤ N ∧ si = .int .i64 i ∧ want = .slice (some ⟨gw, 0, none⟩) 32 32 ∧ KS W wr W.heap.size k keep i pv D gw wb) (fun _ si _ => N - (intOf si).toNat)
  case atStart => exact ⟨0, _, _, _, _, by omega, rfl, rfl, HK.out⟩
  case round =>
    obtain ⟨i, pv, D, gw, wb, hi, rfl, rfl, hK⟩ := hrel
    clear HK
    have HK := Lib.hid hK
    clear hK
    by_cases hlt : i < N
    · have i1 : (i : Int) < (N : Int) := by omega
      have hwb1 := wrap_bd (wrap64 (flushed + (i : Int)) + 1)
      have CS1 := Lib.hid (fun V => sector_any (wrap64 (wrap64 (flushed + (i : Int)) + 1)) V hwb1)
      have hl1 := sectorB_len (wrap64 (wrap64 (flushed + (i : Int)) + 1))
      generalize hX : sectorB (wrap64 (wrap64 (flushed + (i : Int)) + 1)) = x at CS1 hl1
      clear hX hwb1
      have hm : IntKind.i64.wrap ((i : Int) + 1) = (i : Int) + 1 := by rw [IntKind.wrap_i64]; omega
      go_wp2_with fail
      refine (CS1.out _).mono ?_
      rintro e w6 ⟨gx, rfl, hox, hb6⟩
      have hd6 := HK.out.d.below hb6
      have hr6 := hox.rdS.1
      obtain ⟨e1, e2⟩ := wrE (D := D) (x := x) (k := k) HK.out.f (by omega) hl1
      have CWr := Lib.hid (dsk_write_any _ _ _ _ w6 hd6 (k : Int) x _ 32 32 hl1.symm (by omega) hr6 (by have := HK.out.l; omega))
      rw [e1, e2] at CWr
      go_wp2_with fail
      refine CWr.out.mono ?_
      rintro e w7 ⟨pv7, rfl, hd7, hc7, hn7⟩
      obtain ⟨e3, e4⟩ := rdE (D := D.write k x) (k := k) HK.out.f (by omega)
      have CRd := Lib.hid (dsk_read_any _ _ _ _ w7 hd7 (k : Int) (by omega))
      rw [e3, e4, write_sec HK.out.d.ok (by omega) hl1] at CRd
      go_wp2_with fail
      refine CRd.out.mono ?_
      rintro e w8 ⟨v8, rfl, ho8, hb8⟩
      obtain ⟨A8, c8, rfl, _, hr8⟩ := ho8.rd
      rw [hl1] at ho8 ⊢
      have hgx := hox.lt gx rfl
      have hs6 := hb6.size
      have hs7 := hc7.size
      have hbl := HK.out.d.lt
      have hox7 : OwB 5 w7 wr.heap.size (.slice (some ⟨gx, 0, none⟩) 32 32) x := hox.chg hc7 fun y hy hF => by
        have hy' : gx = y := by injection hy
        subst hy'
        rcases hF with e | e
        · omega
        · have := (HK.out.d.plt gx e).2; omega
      have hr7 := (hox7.below hb8).rdS.1
      have CSm := Lib.hid (same_eq A8 (some ⟨gx, 0, none⟩) 32 c8 32 w8.heap.size x w8 hl1.symm hr8 hr7)
      go_wp2_with fail
      refine CSm.out.mono ?_
      rintro e w9 ⟨rfl, hb9⟩
      obtain ⟨st1, st2⟩ := HK.out.step hb6 hox hd7 hc7 hn7 (hb8.trans (hb9.mono hb8.size)) (by omega) hl1
      clear hox hd7 hc7 hn7 hb8 hb9 hr8 hr7 hox7 ho8 hd6 hr6 e1 e2 e3 e4 CWr CRd CSm hgx hs6 hs7 hbl hb6 CS1 hr
      by_cases hik : i < keep.length
      · obtain ⟨kb, off, rfl, hkb, hkc⟩ := Hr.out.2 (by omega)
        have hkd := hkc i hik
        have ik0 : (0 : Int) ≤ (i : Int) := by omega
        have ik1 : (i : Int) < (keep.length : Int) := by omega
        clear hkc
        have HSt1 := Lib.hid st1
        have HSt2 := Lib.hid st2
        clear st1 st2
        cases hkv : keep.getD i false
        · have hK9 := Lib.hid (HSt2.out hkv)
          rw [hkv, ← hK9.out.hb.cell (p := ⟨kb, off + i, none⟩) hkb] at hkd
          clear hkv
          go_wp2
          go_roundw
          case rel => exact ⟨i + 1, _, _, _, _, by omega, by go_num, rfl, hK9.out⟩
          case measure => simp [intOf]; omega
        · have hK9 := Lib.hid (HSt1.out hkv)
          rw [hkv, ← hK9.out.hb.cell (p := ⟨kb, off + i, none⟩) hkb] at hkd
          clear hkv
          go_wp2
          go_roundw
          case rel => exact ⟨i + 1, _, _, _, _, by omega, by go_num, rfl, hK9.out⟩
          case measure => simp [intOf]; omega
      · have hK9 := Lib.hid (st2 (by simp [List.getElem?_eq_none (Nat.le_of_not_lt hik)]))
        have ik1 : (keep.length : Int) ≤ (i : Int) := by omega
        clear st1 st2
        go_wp2
        go_roundw
        case rel => exact ⟨i + 1, _, _, _, _, by omega, by go_num, rfl, hK9.out⟩
        case measure => simp [intOf]; omega
    · obtain rfl : i = N := by omega
      have CP := Lib.hid (dsk_pending_any _ _ _ _ wr HK.out.d)
      rw [HK.out.l] at CP
      have hnn : ((i : Int) != (i : Int)) = false := by simp
      have hrk := Hr.out.below HK.out.hb (Nat.le_refl _)
      have hbl := HK.out.d.lt
      have hle := HK.out.hb.size
      have CC := Lib.hid (dsk_crash_any _ _ _ _ A keep _ c wr HK.out.d rfl ⟨hrk.1, fun hp => by obtain ⟨b, off, e, hb, hc⟩ := hrk.2 hp; exact ⟨b, off, e, by omega, hc⟩⟩ (fun a hp ha => by
        obtain ⟨b, off, e, hb, hc⟩ := hrk.2 hp
        rw [ha] at e
        injection e with e
        subst e
        show b ≠ W.heap.size
        omega) (by have := HK.out.l; omega))
      clear hrk hr
      go_wp2_with fail
      refine CP.out.mono ?_
      rintro e w6 ⟨rfl, rfl⟩
      go_wp2_with fail
      refine CC.out.mono ?_
      rintro e w7 ⟨rfl, hd7, hc7⟩
      obtain ⟨e3, e4⟩ := rdE (D := D.crash keep) (k := k) HK.out.f (by omega)
      have CRd := Lib.hid (dsk_read_any _ _ _ _ w7 hd7 (k : Int) (by omega))
      rw [e3, e4, Dsk.crash_now, show secAt (D.crash keep).S k = wb from HK.out.left] at CRd
      have ow7 := HK.out.o.chg hc7 fun y hy hF => by
        have hy' : gw = y := by injection hy
        subst hy'; exact HK.out.nb hF
      have hB7 := HK.out.hb.trans (hc7.below (B := W.heap.size) (fun j hj => DF.le HK.out.d hj) (by omega))
      have hwl := HK.out.wl
      have hs7 := hB7.size
      clear hc7
      go_wp2_with fail
      refine CRd.out.mono ?_
      rintro e w8 ⟨v8, rfl, ho8, hb8⟩
      obtain ⟨A8, c8, rfl, _, hr8⟩ := ho8.rd
      rw [hwl] at ho8 ⊢
      have hr7 := (ow7.below hb8).rdS.1
      have CSm := Lib.hid (same_eq A8 (some ⟨gw, 0, none⟩) 32 c8 32 w8.heap.size wb w8 hwl.symm hr8 hr7)
      have hd8 := hd7.below hb8
      have hB8 := hB7.trans (hb8.mono hs7)
      have hs8 := hB8.size
      clear hr8 hr7 ho8 ow7 hd7 hb8 hB7
      go_wp2_with (first
        | (go_at_call 22; refine CSm.out.mono ?_; rintro e w9 ⟨rfl, hb9⟩; have Hd9 := Lib.hid (hd8.below hb9); have HB9 := Lib.hid (hB8.trans (hb9.mono hs8)); have Hs9 := Lib.hid (Nat.le_trans hs8 hb9.size); clear hb9)
        | (go_at_call 19; refine (dsk_pending_any _ _ _ _ w9 Hd9.out).mono ?_; rintro e w10 ⟨rfl, rfl⟩)
        | (go_at_call 20; refine (dwakes_any _).mono ?_; rintro e w11 ⟨rfl, hb11⟩; have HB11 := Lib.hid (HB9.out.trans (hb11.mono Hs9.out)); clear hb11))
      go_ret
      exact ⟨rfl, HB11.out⟩
end Go.Proofs.Ytcgajfjlkojnlaa
