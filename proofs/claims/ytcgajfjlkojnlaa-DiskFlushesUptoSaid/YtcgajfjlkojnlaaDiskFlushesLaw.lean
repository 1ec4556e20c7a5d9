/- DiskFlushes: behind a flush nothing is pending. -/
import Derived.Test.YtcgajfjlkojnlaaOff
import Derived.Test.YtcgajfjlkojnlaaDskClone
namespace Go.Proofs.Ytcgajfjlkojnlaa
open Go.RowKit

theorem RdZ.drop {w : World} {B : Nat} {A : Option Addr} {zs : List Int} (h : RdZ w B A zs) (k cap : Nat) (hc : zs.length ≤ cap) : RdZ w B (if cap = k then A else A.map (·.add k)) (zs.drop k) :=
  ⟨by have := h.1; simp; omega, fun z hz => h.2.1 z (List.mem_of_mem_drop hz), fun hn => by
    have hn' : k < zs.length := by simp at hn; omega
    obtain ⟨b, off, rfl, hb, hc⟩ := h.2.2 (by omega)
    rw [if_neg (by omega)]
    refine ⟨b, off + k, ?_, hb, fun j hj => ?_⟩
    · unfold Addr.add; by_cases hk0 : k = 0 <;> simp [hk0]
    · have hj' : k + j < zs.length := by simp at hj; omega
      rw [Nat.add_assoc, hc (k + j) hj']
      simp⟩
/-- One disk, while the first writes are done. -/
structure F1 (W w : World) (b i : Nat) (S : List UInt8) (pv : Value) (D : Dsk) : Prop where
  d : DskAt w W.heap.size b pv D
  f : D.f = false
  l : D.ps.length = i
  S : D.S = S
  hb : Below W.heap.size W w
/-- Two disks. -/
structure F2 (W w : World) (b b2 i : Nat) (D0 : Dsk) (pv pv2 : Value) (D : Dsk) : Prop where
  one : F1 W w b i D0.S pv D
  two : DskAt w W.heap.size b2 pv2 D0
  ap : Apart b2 pv2 b pv
section
variable {W w w' : World} {b b2 i : Nat} {S : List UInt8} {pv pv2 : Value} {D D0 : Dsk}
theorem F1.below (h : F1 W w b i S pv D) (hb : Below w.heap.size w w') : F1 W w' b i S pv D := ⟨h.d.below hb, h.f, h.l, h.S, h.hb.trans (hb.mono h.hb.size)⟩
theorem F2.below (h : F2 W w b b2 i D0 pv pv2 D) (hb : Below w.heap.size w w') : F2 W w' b b2 i D0 pv pv2 D := ⟨h.one.below hb, h.two.below hb, h.ap⟩
theorem F1.disk {pv' : Value} {D' : Dsk} {i' : Nat} {S' : List UInt8} (h : F1 W w b i S pv D) (hd : DskAt w' W.heap.size b pv' D') (hf : D'.f = false) (hl : D'.ps.length = i') (hS : D'.S = S') (hc : Chg (DF b pv) w w') : F1 W w' b i' S' pv' D' :=
  ⟨hd, hf, hl, hS, h.hb.trans (hc.below (B := W.heap.size) (fun _ hj => DF.le h.d hj) h.hb.size)⟩
theorem f1_write (h : F1 W w b i S pv D) (hi : i ≤ 2000000) (k : Nat) (hk : k < 52) (x : List UInt8) (A : Option Addr) (c : Nat) (hx : x.length = 32) (hr : RdB w w.heap.size A x) :
    Calls Try.prog 12 #[.pointer (some ⟨b, 0, none⟩), .int .i64 (k : Int), .slice A 32 c] w fun e w' => e = .returned (.int .i64 0) ∧ ∃ pv' D', F1 W w' b (i + 1) S pv' D' ∧ Chg (DF b pv) w w' ∧ NewOr w pv pv' := by
  obtain ⟨e1, e2⟩ := wrE (D := D) (x := x) (k := k) h.f hk hx
  have e := dsk_write_any _ _ _ _ w h.d (k : Int) x A 32 c hx.symm (by omega) hr (by have := h.l; omega)
  rw [e1, e2] at e
  refine e.mono ?_
  rintro e w' ⟨pv', rfl, hd, hc, hn'⟩
  exact ⟨rfl, pv', _, h.disk hd h.f (by simp [Dsk.write, h.l]) h.S hc, hc, hn'⟩
theorem f2_write (h : F2 W w b b2 i D0 pv pv2 D) (hi : i ≤ 2000000) (k : Nat) (hk : k < 52) (x : List UInt8) (A : Option Addr) (c : Nat) (hx : x.length = 32) (hr : RdB w w.heap.size A x) :
    Calls Try.prog 12 #[.pointer (some ⟨b, 0, none⟩), .int .i64 (k : Int), .slice A 32 c] w fun e w' => e = .returned (.int .i64 0) ∧ ∃ pv' D', F2 W w' b b2 (i + 1) D0 pv' pv2 D' := by
  refine (f1_write h.one hi k hk x A c hx hr).mono ?_
  rintro e w' ⟨rfl, pv', D', h1, hc, hn⟩
  exact ⟨rfl, pv', D', h1, h.two.apart h.ap hc, h.ap.step h.two hn⟩
end
theorem flush_crash (D : Dsk) (ks : List Bool) : D.flush.crash ks = D.flush := rfl
theorem crash_none {D : Dsk} (h : D.f = false) {S : List UInt8} (hS : D.S = S) : D.crash [] = ⟨S, [], false⟩ := by
  unfold Dsk.crash
  rw [keptOf_nil, h, hS]
  rfl
set_option maxRecDepth 100000 in
set_option maxHeartbeats 3200000 in
theorem disk_flushes (A : Option Addr) (ats : List Int) (c : Nat) (cut1 : Int) (A' : Option Addr) (keep : List Bool) (c' : Nat) (W : World) (hac : ats.length ≤ c) (hr : RdZ W W.heap.size A ats) (hcut : -9223372036854775808 ≤ cut1 ∧ cut1 ≤ 9223372036854775807)
    (_ : keep.length ≤ c') (hk : RdO W W.heap.size A' keep) (hbig : ats.length ≤ 1048576) (hcm : c ≤ 9223372036854775807) :
    Calls Try.prog 8 #[.slice A ats.length c, .int .i64 cut1, .slice A' keep.length c'] W fun e w' => e = .returned (.bool true) ∧ Below W.heap.size W w' := by
  have CN := Lib.hid (dsk_new_any W)
  have CW1 := Lib.hid (fun V => within_any cut1 ((ats.length : Int) + 1) V hcut (by omega))
  obtain ⟨h1, h2⟩ := withinI_bd cut1 ((ats.length : Int) + 1) (by omega)
  obtain ⟨m, hm⟩ : ∃ m : Nat, withinI cut1 ((ats.length : Int) + 1) = (m : Int) := ⟨(withinI cut1 ((ats.length : Int) + 1)).toNat, by omega⟩
  rw [hm] at CW1 h1 h2
  have hmn : m ≤ ats.length := by omega
  clear hm hcut
  have Hr := Lib.hid hr
  have Hk := Lib.hid hk
  have hn1 : IntKind.i64.wrap ((ats.length : Int) + 1) = (ats.length : Int) + 1 := by rw [IntKind.wrap_i64]; omega
  have m0 : (0 : Int) ≤ (m : Int) := by omega
  have m1 : (m : Int) ≤ (c : Int) := by omega
  have m2 : (m : Int) ≤ (ats.length : Int) := by omega
  clear hr hk
  go_enter Try.func8, Try.ntmps8
  go_wp2_with fail
  refine CN.out.mono ?_
  rintro e w1 ⟨rfl, hd, hb1⟩
  have hpn : ∀ V : World, (binOp .eql 22 (.pointer (some ⟨W.heap.size, 0, none⟩)) (.pointer none)).run Try.prog V = .ok (.bool false) V := fun _ => rfl
  have H1 := Lib.hid (show F1 W w1 W.heap.size 0 zeroS (.slice none 0 0) Dsk.new from ⟨hd, rfl, rfl, rfl, hb1⟩)
  clear hd hb1
  go_wp2_with fail
  refine (CW1.out _).mono ?_
  rintro e w' ⟨rfl, rfl⟩
  go_wp2
  go_loopw [35] (fun si wr => ∃ (i : Nat) (pv : Value) (D : Dsk), i ≤ m ∧ si = .int .i64 i ∧ F1 W wr W.heap.size i zeroS pv D) (fun si _ => m - (intOf si).toNat)
  case atStart => exact ⟨0, _, _, by omega, rfl, H1.out⟩
  case round =>
    obtain ⟨i, pv, D, hi, rfl, hF⟩ := hrel
    have HF := Lib.hid hF
    clear hF H1 CN CW1
    by_cases hlt : i < m
    · obtain ⟨ab, off, rfl, hab, hac2⟩ := Hr.out.2.2 (by omega)
      have hai := hac2 i (by omega)
      rw [← HF.out.hb.cell (p := ⟨ab, off + i, none⟩) hab] at hai
      have hbd := Hr.out.bd i
      generalize ats.getD i 0 = a at hai hbd
      have CW := Lib.hid (fun V => within_any a 52 V hbd (by omega))
      obtain ⟨h5, h6⟩ := withinI_bd a 52 (by omega)
      obtain ⟨k, hk⟩ : ∃ k : Nat, withinI a 52 = (k : Int) := ⟨(withinI a 52).toNat, by omega⟩
      rw [hk] at CW h5 h6
      have i0 : (0 : Int) ≤ (i : Int) := by omega
      have i1 : (i : Int) < (m : Int) := by omega
      have i2 : (i : Int) < (ats.length : Int) := by omega
      have hw1 : IntKind.i64.wrap ((i : Int) + 1) = (i : Int) + 1 := by rw [IntKind.wrap_i64]; omega
      clear hac2 hk hn1
      go_wp2_with fail
      refine (CW.out _).mono ?_
      rintro e w2 ⟨rfl, rfl⟩
      go_wp2_with fail
      refine (sector_any ((i : Int) + 1) w2 (by omega)).mono ?_
      rintro e w3 ⟨gx, rfl, hox, hb3⟩
      have F3 := HF.out.below hb3
      have hrx := hox.rdS.1
      have hl := sectorB_len ((i : Int) + 1)
      generalize sectorB ((i : Int) + 1) = x at hrx hl
      go_wp2_with fail
      refine (f1_write F3 (by omega) k (by omega) x _ 32 hl hrx).mono ?_
      rintro e w4 ⟨rfl, pv4, D4, h4, _, _⟩
      have H4 := Lib.hid h4
      clear h4 F3 hrx hox hb3 hl
      go_wp2
      go_roundw
      case rel => exact ⟨i + 1, _, _, by omega, by go_num, H4.out⟩
      case measure => simp [intOf]; omega
    · obtain rfl : i = m := by omega
      have CP := dsk_pending_any _ _ _ _ wr HF.out.d
      rw [HF.out.l] at CP
      have HCP := Lib.hid CP
      obtain ⟨e3, e4⟩ := flE HF.out.f
      have CF := dsk_flush_any _ _ _ _ wr HF.out.d
      rw [e3, e4] at CF
      have HCF := Lib.hid CF
      have hnn : ((i : Int) != (i : Int)) = false := by simp
      clear CP CF e3 e4 hn1
      go_wp2_with fail
      refine HCP.out.mono ?_
      rintro e w2 ⟨rfl, rfl⟩
      go_wp2_with fail
      refine HCF.out.mono ?_
      rintro e w3 ⟨pv3, rfl, hd3, hc3, hn3⟩
      have F3 : F1 W w3 W.heap.size 0 D.flush.S pv3 D.flush := HF.out.disk hd3 HF.out.f rfl rfl hc3
      have HCP3 := Lib.hid (dsk_pending_any _ _ _ _ w3 F3.d)
      have HCC := Lib.hid (dsk_clone_any _ _ _ _ w3 F3.d (Nat.zero_le 2000000))
      clear hd3 hc3 hn3 HCF HCP hnn
      go_wp2_with fail
      refine HCP3.out.mono ?_
      rintro e w4 ⟨rfl, rfl⟩
      go_wp2_with fail
      refine HCC.out.mono ?_
      rintro e w5 ⟨b2, pv5, rfl, hd5, hb5⟩
      have hp2 : ∀ V : World, (binOp .eql 22 (.pointer (some ⟨b2, 0, none⟩)) (.pointer none)).run Try.prog V = .ok (.bool false) V := fun _ => rfl
      have F5 : F2 W w5 W.heap.size b2 0 D.flush pv3 pv5 D.flush := ⟨F3.below hb5, hd5.mono F3.hb.size, (apart_new F3.d hd5).symm⟩
      have hkr := Hk.out.below F5.one.hb (Nat.le_refl _)
      have hblt := F5.one.d.lt
      have hWs := F5.one.hb.size
      have HCr := Lib.hid (dsk_crash_any _ _ _ _ A' keep _ c' w5 F5.one.d rfl ⟨hkr.1, fun hp => by obtain ⟨b, off, e, hb, hc⟩ := hkr.2 hp; exact ⟨b, off, e, by omega, hc⟩⟩ (fun a hp ha => by
        obtain ⟨b, off, e, hb, hc⟩ := hkr.2 hp
        rw [ha] at e
        injection e with e
        subst e
        show b ≠ W.heap.size
        omega) (Nat.zero_le 2000000))
      clear F3 hd5 hb5 hkr HCP3 HCC
      go_wp2_with fail
      refine HCr.out.mono ?_
      rintro e w6 ⟨rfl, hd6, hc6⟩
      rw [flush_crash] at hd6
      have H6 := Lib.hid (show F2 W w6 W.heap.size b2 0 D.flush (.slice none 0 0) pv5 D.flush from ⟨F5.one.disk hd6 HF.out.f rfl rfl hc6, F5.two.apart F5.ap hc6, F5.ap.step F5.two (NewOr.none _ _)⟩)
      have Hok := Lib.hid (show D.flush.Ok ∧ D.flush.f = false ∧ (⟨D.flush.S, [], false⟩ : Dsk) = D.flush from ⟨HF.out.d.ok.flush, HF.out.f, by unfold Dsk.flush; rw [HF.out.f]⟩)
      generalize D.flush = D0 at H6 Hok
      clear hd6 hc6 F5 hblt hWs HCr HF
      go_wp2
      go_loopw [11] (fun si wr => ∃ (j : Nat), j ≤ 52 ∧ si = .int .i64 j ∧ F2 W wr W.heap.size b2 0 D0 (.slice none 0 0) pv5 D0) (fun si _ => 52 - (intOf si).toNat)
      case atStart => exact ⟨0, by omega, rfl, H6.out⟩
      case round =>
        obtain ⟨j, hj, rfl, hF⟩ := hrel
        have HG := Lib.hid hF
        clear hF H6
        by_cases hlt : j < 52
        · have j0 : (0 : Int) ≤ (j : Int) := by omega
          have j1 : (j : Int) < 52 := by omega
          obtain ⟨e1, e2⟩ := rdE (D := D0) (k := j) Hok.out.2.1 hlt
          have C1 := dsk_read_any _ _ _ _ _ HG.out.one.d (j : Int) (by omega)
          rw [e1, e2] at C1
          have HC1 := Lib.hid C1
          have Hl := Lib.hid (show (secAt D0.now j).length = 32 from secAt_len (by rw [Hok.out.1.now]; omega))
          clear C1
          go_wp2_with fail
          refine HC1.out.mono ?_
          rintro e w7 ⟨v7, rfl, ho7, hb7⟩
          have G7 := HG.out.below hb7
          have C2 := dsk_read_any _ _ _ _ w7 G7.two (j : Int) (by omega)
          rw [e1, e2] at C2
          have HC2 := Lib.hid C2
          clear C2 e1 e2 hb7
          go_wp2_with fail
          refine HC2.out.mono ?_
          rintro e w8 ⟨v8, rfl, ho8, hb8⟩
          have G8 := G7.below hb8
          have ho7b := ho7.below hb8
          generalize secAt D0.now j = x at ho7b ho8 Hl
          obtain ⟨A7, c7, rfl, _, hr7⟩ := ho7b.rd
          obtain ⟨A8, c8, rfl, _, hr8⟩ := ho8.rd
          have HCS := Lib.hid (same_eq A7 A8 x.length c7 c8 w8.heap.size x w8 rfl hr7 hr8)
          clear G7 ho7 ho7b ho8 hb8 hr7 hr8 HC1 HC2
          go_wp2_with fail
          refine HCS.out.mono ?_
          rintro e w9 ⟨rfl, hb9⟩
          have HG9 := Lib.hid (G8.below hb9)
          clear G8 hb9 HCS
          go_wp2
          go_roundw
          case rel => exact ⟨j + 1, by omega, by go_num, HG9.out⟩
          case measure => simp [intOf]; omega
        · have j52 : (52 : Int) ≤ (j : Int) := by omega
          clear hlt hj
          have hdrop := Hr.out.drop i c hac
          obtain ⟨L, hLe⟩ : ∃ L : Nat, ats.length - i = L := ⟨_, rfl⟩
          have hzl : (ats.drop i).length = L := by rw [List.length_drop]; omega
          have hL : L ≤ 1048576 := by omega
          generalize ats.drop i = zs at hdrop hzl
          by_cases hci : c = i
          · rw [if_pos hci] at hdrop
            have Hrd := Lib.hid hdrop
            subst hci
            clear hdrop
            go_wp2
            go_loopw [94] (fun si wr => ∃ (j : Nat) (pv : Value) (D : Dsk), j ≤ L ∧ si = .int .i64 j ∧ F2 W wr W.heap.size b2 j D0 pv pv5 D) (fun si _ => L - (intOf si).toNat)
            case atStart => exact ⟨0, _, _, Nat.zero_le _, rfl, HG.out⟩
            case round =>
              obtain ⟨j, pv, D, hj, rfl, hF⟩ := hrel
              have HJ := Lib.hid hF
              clear hF HG
              by_cases hlt : j < L
              · obtain ⟨ab, off, rfl, hab, hac2⟩ := Hrd.out.2.2 (by omega)
                have hai := hac2 j (by omega)
                rw [← HJ.out.one.hb.cell (p := ⟨ab, off + j, none⟩) hab] at hai
                have hbd := Hrd.out.bd j
                generalize zs.getD j 0 = a at hai hbd
                have CW := Lib.hid (fun V => within_any a 52 V hbd (by omega))
                obtain ⟨h5, h6⟩ := withinI_bd a 52 (by omega)
                obtain ⟨k, hk⟩ : ∃ k : Nat, withinI a 52 = (k : Int) := ⟨(withinI a 52).toNat, by omega⟩
                rw [hk] at CW h5 h6
                have i0 : (0 : Int) ≤ (j : Int) := by omega
                have i1 : (j : Int) < (L : Int) := by omega
                have hw1 : IntKind.i64.wrap ((j : Int) + 1) = (j : Int) + 1 := by rw [IntKind.wrap_i64]; omega
                have hw2 : IntKind.i64.wrap ((j : Int) + 50) = (j : Int) + 50 := by rw [IntKind.wrap_i64]; omega
                clear hac2 hk
                go_wp2_with fail
                refine (CW.out _).mono ?_
                rintro e w2 ⟨rfl, rfl⟩
                go_wp2_with fail
                refine (sector_any ((j : Int) + 50) w2 (by omega)).mono ?_
                rintro e w3 ⟨gx, rfl, hox, hb3⟩
                have F3 := HJ.out.below hb3
                have hrx := hox.rdS.1
                have hl := sectorB_len ((j : Int) + 50)
                generalize sectorB ((j : Int) + 50) = x at hrx hl
                go_wp2_with fail
                refine (f2_write F3 (by omega) k (by omega) x _ 32 hl hrx).mono ?_
                rintro e w4 ⟨rfl, pv4, D4, h4⟩
                have H4 := Lib.hid h4
                have CP4 := dsk_pending_any _ _ _ _ w4 h4.one.d
                rw [h4.one.l] at CP4
                have HCP4 := Lib.hid CP4
                have hpe : (((j + 1 : Nat) : Int) != (j : Int) + 1) = false := by simp
                clear h4 F3 hrx hox hb3 hl CP4
                go_wp2_with fail
                refine HCP4.out.mono ?_
                rintro e w5 ⟨rfl, rfl⟩
                go_wp2
                go_roundw
                case rel => exact ⟨j + 1, _, _, by omega, by go_num, H4.out⟩
                case measure => simp [intOf]; omega
              · obtain rfl : j = L := by omega
                have HCr := Lib.hid (dsk_crash_any _ _ _ _ none [] 0 0 wr HJ.out.one.d rfl (RdO.nil _ _ _) (fun a hp _ => by simp at hp) (by have := HJ.out.one.l; omega))
                go_wp2_with fail
                refine HCr.out.mono ?_
                rintro e w6 ⟨rfl, hd6, hc6⟩
                rw [crash_none HJ.out.one.f HJ.out.one.S, Hok.out.2.2] at hd6
                have H6 := Lib.hid (show F2 W w6 W.heap.size b2 0 D0 (.slice none 0 0) pv5 D0 from ⟨HJ.out.one.disk hd6 Hok.out.2.1 (by rw [← Hok.out.2.2]; rfl) rfl hc6, HJ.out.two.apart HJ.out.ap hc6, HJ.out.ap.step HJ.out.two (NewOr.none _ _)⟩)
                clear hd6 hc6 HCr HJ
                go_wp2
                go_loopw [18] (fun si wr => ∃ (j : Nat), j ≤ 52 ∧ si = .int .i64 j ∧ F2 W wr W.heap.size b2 0 D0 (.slice none 0 0) pv5 D0) (fun si _ => 52 - (intOf si).toNat)
                case atStart => exact ⟨0, by omega, rfl, H6.out⟩
                case round =>
                  obtain ⟨j, hj, rfl, hF⟩ := hrel
                  have HK := Lib.hid hF
                  clear hF H6
                  by_cases hlt : j < 52
                  · have j0 : (0 : Int) ≤ (j : Int) := by omega
                    have j1 : (j : Int) < 52 := by omega
                    obtain ⟨e1, e2⟩ := rdE (D := D0) (k := j) Hok.out.2.1 hlt
                    have C1 := dsk_read_any _ _ _ _ _ HK.out.one.d (j : Int) (by omega)
                    rw [e1, e2] at C1
                    have HC1 := Lib.hid C1
                    have Hl := Lib.hid (show (secAt D0.now j).length = 32 from secAt_len (by rw [Hok.out.1.now]; omega))
                    clear C1
                    go_wp2_with fail
                    refine HC1.out.mono ?_
                    rintro e w7 ⟨v7, rfl, ho7, hb7⟩
                    have G7 := HK.out.below hb7
                    have C2 := dsk_read_any _ _ _ _ w7 G7.two (j : Int) (by omega)
                    rw [e1, e2] at C2
                    have HC2 := Lib.hid C2
                    clear C2 e1 e2 hb7
                    go_wp2_with fail
                    refine HC2.out.mono ?_
                    rintro e w8 ⟨v8, rfl, ho8, hb8⟩
                    have G8 := G7.below hb8
                    have ho7b := ho7.below hb8
                    generalize secAt D0.now j = x at ho7b ho8 Hl
                    obtain ⟨A7, c7, rfl, _, hr7⟩ := ho7b.rd
                    obtain ⟨A8, c8, rfl, _, hr8⟩ := ho8.rd
                    have HCS := Lib.hid (same_eq A7 A8 x.length c7 c8 w8.heap.size x w8 rfl hr7 hr8)
                    clear G7 ho7 ho7b ho8 hb8 hr7 hr8 HC1 HC2
                    go_wp2_with fail
                    refine HCS.out.mono ?_
                    rintro e w9 ⟨rfl, hb9⟩
                    have HK9 := Lib.hid (G8.below hb9)
                    clear G8 hb9 HCS
                    go_wp2
                    go_roundw
                    case rel => exact ⟨j + 1, by omega, by go_num, HK9.out⟩
                    case measure => simp [intOf]; omega
                  · obtain rfl : j = 52 := by omega
                    go_wp2_with fail
                    refine (dwakes_any _).mono ?_
                    rintro e w10 ⟨rfl, hb10⟩
                    have HB := Lib.hid (HK.out.one.hb.trans (hb10.mono HK.out.one.hb.size))
                    go_wp2
                    go_ret
                    exact ⟨rfl, HB.out⟩
          · rw [if_neg hci] at hdrop
            have Hrd := Lib.hid hdrop
            clear hdrop
            go_wp2
            generalize A.map (fun x => x.add i) = A2 at Hrd ⊢
            go_loopw [94] (fun si wr => ∃ (j : Nat) (pv : Value) (D : Dsk), j ≤ L ∧ si = .int .i64 j ∧ F2 W wr W.heap.size b2 j D0 pv pv5 D) (fun si _ => L - (intOf si).toNat)
            case atStart => exact ⟨0, _, _, Nat.zero_le _, rfl, HG.out⟩
            case round =>
              obtain ⟨j, pv, D, hj, rfl, hF⟩ := hrel
              have HJ := Lib.hid hF
              clear hF HG
              by_cases hlt : j < L
              · obtain ⟨ab, off, rfl, hab, hac2⟩ := Hrd.out.2.2 (by omega)
                have hai := hac2 j (by omega)
                rw [← HJ.out.one.hb.cell (p := ⟨ab, off + j, none⟩) hab] at hai
                have hbd := Hrd.out.bd j
                generalize zs.getD j 0 = a at hai hbd
                have CW := Lib.hid (fun V => within_any a 52 V hbd (by omega))
                obtain ⟨h5, h6⟩ := withinI_bd a 52 (by omega)
                obtain ⟨k, hk⟩ : ∃ k : Nat, withinI a 52 = (k : Int) := ⟨(withinI a 52).toNat, by omega⟩
                rw [hk] at CW h5 h6
                have i0 : (0 : Int) ≤ (j : Int) := by omega
                have i1 : (j : Int) < (L : Int) := by omega
                have hw1 : IntKind.i64.wrap ((j : Int) + 1) = (j : Int) + 1 := by rw [IntKind.wrap_i64]; omega
                have hw2 : IntKind.i64.wrap ((j : Int) + 50) = (j : Int) + 50 := by rw [IntKind.wrap_i64]; omega
                clear hac2 hk
                go_wp2_with fail
                refine (CW.out _).mono ?_
                rintro e w2 ⟨rfl, rfl⟩
                go_wp2_with fail
                refine (sector_any ((j : Int) + 50) w2 (by omega)).mono ?_
                rintro e w3 ⟨gx, rfl, hox, hb3⟩
                have F3 := HJ.out.below hb3
                have hrx := hox.rdS.1
                have hl := sectorB_len ((j : Int) + 50)
                generalize sectorB ((j : Int) + 50) = x at hrx hl
                go_wp2_with fail
                refine (f2_write F3 (by omega) k (by omega) x _ 32 hl hrx).mono ?_
                rintro e w4 ⟨rfl, pv4, D4, h4⟩
                have H4 := Lib.hid h4
                have CP4 := dsk_pending_any _ _ _ _ w4 h4.one.d
                rw [h4.one.l] at CP4
                have HCP4 := Lib.hid CP4
                have hpe : (((j + 1 : Nat) : Int) != (j : Int) + 1) = false := by simp
                clear h4 F3 hrx hox hb3 hl CP4
                go_wp2_with fail
                refine HCP4.out.mono ?_
                rintro e w5 ⟨rfl, rfl⟩
                go_wp2
                go_roundw
                case rel => exact ⟨j + 1, _, _, by omega, by go_num, H4.out⟩
                case measure => simp [intOf]; omega
              · obtain rfl : j = L := by omega
                have HCr := Lib.hid (dsk_crash_any _ _ _ _ none [] 0 0 wr HJ.out.one.d rfl (RdO.nil _ _ _) (fun a hp _ => by simp at hp) (by have := HJ.out.one.l; omega))
                go_wp2_with fail
                refine HCr.out.mono ?_
                rintro e w6 ⟨rfl, hd6, hc6⟩
                rw [crash_none HJ.out.one.f HJ.out.one.S, Hok.out.2.2] at hd6
                have H6 := Lib.hid (show F2 W w6 W.heap.size b2 0 D0 (.slice none 0 0) pv5 D0 from ⟨HJ.out.one.disk hd6 Hok.out.2.1 (by rw [← Hok.out.2.2]; rfl) rfl hc6, HJ.out.two.apart HJ.out.ap hc6, HJ.out.ap.step HJ.out.two (NewOr.none _ _)⟩)
                clear hd6 hc6 HCr HJ
                go_wp2
                go_loopw [18] (fun si wr => ∃ (j : Nat), j ≤ 52 ∧ si = .int .i64 j ∧ F2 W wr W.heap.size b2 0 D0 (.slice none 0 0) pv5 D0) (fun si _ => 52 - (intOf si).toNat)
                case atStart => exact ⟨0, by omega, rfl, H6.out⟩
                case round =>
                  obtain ⟨j, hj, rfl, hF⟩ := hrel
                  have HK := Lib.hid hF
                  clear hF H6
                  by_cases hlt : j < 52
                  · have j0 : (0 : Int) ≤ (j : Int) := by omega
                    have j1 : (j : Int) < 52 := by omega
                    obtain ⟨e1, e2⟩ := rdE (D := D0) (k := j) Hok.out.2.1 hlt
                    have C1 := dsk_read_any _ _ _ _ _ HK.out.one.d (j : Int) (by omega)
                    rw [e1, e2] at C1
                    have HC1 := Lib.hid C1
                    have Hl := Lib.hid (show (secAt D0.now j).length = 32 from secAt_len (by rw [Hok.out.1.now]; omega))
                    clear C1
                    go_wp2_with fail
                    refine HC1.out.mono ?_
                    rintro e w7 ⟨v7, rfl, ho7, hb7⟩
                    have G7 := HK.out.below hb7
                    have C2 := dsk_read_any _ _ _ _ w7 G7.two (j : Int) (by omega)
                    rw [e1, e2] at C2
                    have HC2 := Lib.hid C2
                    clear C2 e1 e2 hb7
                    go_wp2_with fail
                    refine HC2.out.mono ?_
                    rintro e w8 ⟨v8, rfl, ho8, hb8⟩
                    have G8 := G7.below hb8
                    have ho7b := ho7.below hb8
                    generalize secAt D0.now j = x at ho7b ho8 Hl
                    obtain ⟨A7, c7, rfl, _, hr7⟩ := ho7b.rd
                    obtain ⟨A8, c8, rfl, _, hr8⟩ := ho8.rd
                    have HCS := Lib.hid (same_eq A7 A8 x.length c7 c8 w8.heap.size x w8 rfl hr7 hr8)
                    clear G7 ho7 ho7b ho8 hb8 hr7 hr8 HC1 HC2
                    go_wp2_with fail
                    refine HCS.out.mono ?_
                    rintro e w9 ⟨rfl, hb9⟩
                    have HK9 := Lib.hid (G8.below hb9)
                    clear G8 hb9 HCS
                    go_wp2
                    go_roundw
                    case rel => exact ⟨j + 1, by omega, by go_num, HK9.out⟩
                    case measure => simp [intOf]; omega
                  · obtain rfl : j = 52 := by omega
                    go_wp2_with fail
                    refine (dwakes_any _).mono ?_
                    rintro e w10 ⟨rfl, hb10⟩
                    have HB := Lib.hid (HK.out.one.hb.trans (hb10.mono HK.out.one.hb.size))
                    go_wp2
                    go_ret
                    exact ⟨rfl, HB.out⟩
end Go.Proofs.Ytcgajfjlkojnlaa
