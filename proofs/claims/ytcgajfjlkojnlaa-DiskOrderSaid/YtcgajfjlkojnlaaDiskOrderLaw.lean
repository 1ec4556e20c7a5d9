/- DiskOrder: a sector reads as it was written last. -/
import Derived.Test.YtcgajfjlkojnlaaOff
import Derived.Test.YtcgajfjlkojnlaaMapInt
namespace Go.Proofs.Ytcgajfjlkojnlaa
open Go.RowKit

/-- What a sector reads as, by the map. -/
def wantF (F : Int → Option Int) (k : Nat) : List UInt8 := match F (k : Int) with | some v => sectorB v | none => List.replicate 32 0
/-- What stays while DiskOrder runs. -/
structure OS (W w : World) (b m i : Nat) (pv : Value) (D : Dsk) (F : Int → Option Int) : Prop where
  d : DskAt w W.heap.size b pv D
  f : D.f = false
  l : D.ps.length ≤ i
  mp : MapI w m i F
  om : ¬ DF b pv m
  mW : W.heap.size ≤ m
  s : ∀ k : Nat, k < 52 → secAt D.now k = wantF F k
  v : ∀ k v, F k = some v → -9223372036854775808 ≤ v ∧ v ≤ 9223372036854775807
  hb : Below W.heap.size W w
section
variable {W w w' : World} {b m i : Nat} {pv : Value} {D : Dsk} {F : Int → Option Int}
theorem OS.below (h : OS W w b m i pv D F) (hb : Below w.heap.size w w') : OS W w' b m i pv D F :=
  ⟨h.d.below hb, h.f, h.l, h.mp.below hb, h.om, h.mW, h.s, h.v, h.hb.trans (hb.mono h.hb.size)⟩
end
set_option maxRecDepth 100000 in
set_option maxHeartbeats 3200000 in
theorem disk_order (A : Option Addr) (ats : List Int) (c : Nat) (flush : Int) (W : World) (_ : ats.length ≤ c) (hr : RdZ W W.heap.size A ats) (_ : -9223372036854775808 ≤ flush ∧ flush ≤ 9223372036854775807) :
    Calls Try.prog 5 #[.slice A ats.length c, .int .i64 flush] W fun e w' => e = .returned (.bool true) ∧ Below W.heap.size W w' := by
  have CN := Lib.hid (dsk_new_any W)
  have hmm := @run_makeMap Try.prog
  have Hr := Lib.hid hr
  clear hr
  go_enter Try.func5, Try.ntmps5
  go_wp2_with fail
  refine CN.out.mono ?_
  rintro e w1 ⟨rfl, hd, hb1⟩
  have hpn : ∀ V : World, (binOp .eql 22 (.pointer (some ⟨W.heap.size, 0, none⟩)) (.pointer none)).run Try.prog V = .ok (.bool false) V := fun _ => rfl
  have H1 := Lib.hid (show OS W (w1.alloc (.map #[] 0)) W.heap.size w1.heap.size 0 (.slice none 0 0) Dsk.new (fun _ => none) from
    ⟨hd.below (below1 w1 _), rfl, Nat.le_refl _, mapI_new w1, fun hF => by
      rcases hF with e | e
      · have := hd.lt; omega
      · simp [Value.ownBlock] at e, hb1.size, fun k hk => sec_zero hk, fun k v h => by simp at h, hb1.trans ((below1 w1 _).mono hb1.size)⟩)
  clear hd hb1
  go_wp2_with fail
  generalize w1.alloc (.map #[] 0) = w2 at H1 ⊢
  generalize w1.heap.size = m at H1 ⊢
  clear hmm CN
  go_loopw [7] (fun si wr => ∃ (i : Nat) (pv : Value) (D : Dsk) (F : Int → Option Int), i ≤ 40 ∧ i ≤ ats.length ∧ si = .int .i64 i ∧ OS W wr W.heap.size m i pv D F) (fun si _ => 40 - (intOf si).toNat)
  case atStart => exact ⟨0, _, _, _, by omega, by omega, rfl, H1.out⟩
  case round =>
    obtain ⟨i, pv, D, F, hi, hil, rfl, hO⟩ := hrel
    have HO := Lib.hid hO
    clear hO H1
    by_cases hlt : i < ats.length
    · have i1 : (i : Int) < (ats.length : Int) := by omega
      by_cases hlt2 : i < 40
      · have i2 : (i : Int) < 40 := by omega
        obtain ⟨ab, off, rfl, hab, hac2⟩ := Hr.out.2.2 (by omega)
        have hai := hac2 i (by omega)
        rw [← HO.out.hb.cell (p := ⟨ab, off + i, none⟩) hab] at hai
        have hbd := Hr.out.bd i
        generalize ats.getD i 0 = a at hai hbd
        have CW := Lib.hid (fun V => within_any a 6 V hbd (by omega))
        obtain ⟨h5, h6⟩ := withinI_bd a 6 (by omega)
        obtain ⟨k, hk⟩ : ∃ k : Nat, withinI a 6 = (k : Int) := ⟨(withinI a 6).toNat, by omega⟩
        rw [hk] at CW h5 h6
        have i0 : (0 : Int) ≤ (i : Int) := by omega
        have hw1 : IntKind.i64.wrap ((i : Int) + 1) = (i : Int) + 1 := by rw [IntKind.wrap_i64]; omega
        clear hac2 hk
        go_wp2_with fail
        refine (CW.out _).mono ?_
        rintro e w3 ⟨rfl, rfl⟩
        go_wp2_with fail
        refine (sector_any (3 * (i : Int) + 1) w3 (by omega)).mono ?_
        rintro e w4 ⟨gx, rfl, hox, hb4⟩
        have O4 := HO.out.below hb4
        have hl := sectorB_len (3 * (i : Int) + 1)
        obtain ⟨e1, e2⟩ := wrE (D := D) (x := sectorB (3 * (i : Int) + 1)) (k := k) O4.f (by omega) hl
        have C := dsk_write_any _ _ _ _ w4 O4.d (k : Int) _ _ 32 32 hl.symm (by omega) hox.rdS.1 (by have := O4.l; omega)
        rw [e1, e2] at C
        have HC := Lib.hid C
        clear C e1 e2 hb4 hox
        go_wp2_with fail
        refine HC.out.mono ?_
        rintro e w5 ⟨pv5, rfl, hd5, hc5, hn5⟩
        have hm5 := O4.mp.chg hc5 O4.om
        obtain ⟨w6, hst, hm6, hg6⟩ := hm5.store (by omega) (k : Int) (3 * (i : Int) + 1) (by omega) (by omega)
        have om5 : ¬ DF W.heap.size pv5 m := fun hF => by
          rcases hF with e | e
          · exact O4.om (.inl e)
          · rcases hn5 m e with e1 | e1
            · exact O4.om (.inr e1)
            · have := O4.mp.lt; omega
        have hd6 : DskAt w6 W.heap.size W.heap.size pv5 (D.write k (sectorB (3 * (i : Int) + 1))) := hd5.chg (chg_grown hg6) (fun e => om5 (.inl (Option.some.inj e))) (fun j hj e => om5 (.inr (by rw [hj]; exact e.symm)))
        have hB6 : Below W.heap.size W w6 := (O4.hb.trans (hc5.below (B := W.heap.size) (fun _ h => DF.le O4.d h) O4.hb.size)).grown hg6 (Nat.le_trans O4.hb.size hc5.size) (fun j hj => by have := O4.mW; injection hj with hj; omega)
        have O6 := Lib.hid (show OS W w6 W.heap.size m (i + 1) pv5 (D.write k (sectorB (3 * (i : Int) + 1))) (putF F (k : Int) (3 * (i : Int) + 1)) from
          ⟨hd6, O4.f, by have := O4.l; simp [Dsk.write]; omega, hm6, om5, O4.mW, fun j hj => by
            rw [Dsk.write_now]
            unfold wantF putF
            by_cases e : j = k
            · subst e
              rw [if_pos rfl, sec_put_same O4.d.ok.now (by omega) hl]
            · rw [if_neg (by omega), sec_put_other O4.d.ok.now (by omega) hl e]
              exact O4.s j hj, fun j v h => by
            unfold putF at h
            split at h
            · injection h with h; omega
            · exact O4.v j v h, hB6⟩)
        clear hm6 hg6 hd6 hB6 hd5 hc5 hn5 hm5 om5 O4 HC HO
        generalize D.write k (sectorB (3 * (i : Int) + 1)) = D6 at O6
        generalize putF F (k : Int) (3 * (i : Int) + 1) = F6 at O6
        obtain ⟨e3, e4⟩ := flE O6.out.f
        have C := dsk_flush_any _ _ _ _ w6 O6.out.d
        rw [e3, e4] at C
        have HCF := Lib.hid C
        clear C e3 e4
        go_wp2_with fail
        · refine HCF.out.mono ?_
          rintro e w7 ⟨pv7, rfl, hd7, hc7, hn7⟩
          have O7 := Lib.hid (show OS W w7 W.heap.size m (i + 1) pv7 D6.flush F6 from
            ⟨hd7, O6.out.f, Nat.zero_le _, O6.out.mp.chg hc7 O6.out.om, fun hF => by
              rcases hF with e | e
              · exact O6.out.om (.inl e)
              · rcases hn7 m e with e1 | e1
                · exact O6.out.om (.inr e1)
                · have := O6.out.mp.lt; omega, O6.out.mW, O6.out.s, O6.out.v, O6.out.hb.trans (hc7.below (B := W.heap.size) (fun _ h => DF.le O6.out.d h) O6.out.hb.size)⟩)
          clear hd7 hc7 hn7 O6 HCF
          generalize D6.flush = D6 at O7
          generalize pv7 = pv6 at O7
          go_wp2
          go_loopw [9] (fun sj wq => ∃ j : Nat, j ≤ 6 ∧ sj = .int .i64 j ∧ OS W wq W.heap.size m (i + 1) pv6 D6 F6) (fun sj _ => 6 - (intOf sj).toNat)
          case atStart => exact ⟨0, by omega, rfl, O7.out⟩
          case round =>
            rename World => wq
            obtain ⟨j, hj, rfl, hO⟩ := hrel
            have HQ := Lib.hid hO
            clear hO O7
            by_cases hj6 : j < 6
            · have j0 : (0 : Int) ≤ (j : Int) := by omega
              have j1 : (j : Int) < 6 := by omega
              have hwj : IntKind.i64.wrap ((j : Int) + 1) = (j : Int) + 1 := by rw [IntKind.wrap_i64]; omega
              have hmk := makeS
              have hmo := own_make 5 wq 32 (by omega)
              have O8 := HQ.out.below (below1 wq (.cells (zcells 32) 5))
              have hlook := O8.mp.look (j : Int) (by omega)
              obtain ⟨e1, e2⟩ := rdE (D := D6) (k := j) HQ.out.f (by omega)
              have hsec := HQ.out.s j (by omega)
              unfold wantF at hsec
              cases hF : F6 (j : Int) with
              | none =>
                rw [hF] at hlook hsec
                simp only [Option.getD_none, Option.isSome_none] at hlook
                have C := dsk_read_any _ _ _ _ _ O8.d (j : Int) (by omega)
                rw [e1, e2, hsec] at C
                have HC := Lib.hid C
                have HO8 := Lib.hid O8
                clear C e1 e2 hsec O8 hF
                go_wp2_with fail
                generalize wq.alloc (.cells (zcells 32) 5) = w8 at hlook hmo HC HO8 ⊢
                generalize wq.heap.size = gq at hmo ⊢
                refine HC.out.mono ?_
                rintro e w9 ⟨v9, rfl, ho9, hb9⟩
                obtain ⟨A9, c9, rfl, _, hr9⟩ := ho9.rd
                rw [show (List.replicate 32 (0 : UInt8)).length = 32 from rfl] at ho9 ⊢
                have HCS := Lib.hid (same_eq A9 (some ⟨gq, 0, none⟩) 32 c9 32 w9.heap.size (List.replicate 32 0) w9 rfl hr9 (hmo.below hb9).rdS.1)
                have O9 := HO8.out.below hb9
                clear hmo hlook hb9 ho9 hr9 HC HO8 hmk
                go_wp2_with fail
                refine HCS.out.mono ?_
                rintro e w10 ⟨rfl, hb10⟩
                have O10 := Lib.hid (O9.below hb10)
                clear O9 hb10 HCS
                go_wp2
                go_roundw
                case rel => exact ⟨j + 1, by omega, by go_num, O10.out⟩
                case measure => simp [intOf]; omega
              | some v =>
                rw [hF] at hlook hsec
                simp only [Option.getD_some, Option.isSome_some] at hlook
                have hvb := HQ.out.v _ _ hF
                have hl9 := sectorB_len v
                have HO8 := Lib.hid O8
                have Hsec := Lib.hid hsec
                have CSec := Lib.hid (fun V => sector_any v V hvb)
                clear hmo O8 hF hsec
                go_wp2_with fail
                generalize wq.alloc (.cells (zcells 32) 5) = w8 at hlook HO8 ⊢
                generalize wq.heap.size = gq
                refine (CSec.out _).mono ?_
                rintro e w9 ⟨gs, rfl, hos, hb9⟩
                have O9 := HO8.out.below hb9
                have C := dsk_read_any _ _ _ _ _ O9.d (j : Int) (by omega)
                rw [e1, e2, Hsec.out] at C
                have HC := Lib.hid C
                generalize sectorB v = x at HC hos hl9
                clear C e1 e2 hb9 hlook HO8 hmk Hsec CSec
                go_wp2_with fail
                refine HC.out.mono ?_
                rintro e w10 ⟨v10, rfl, ho10, hb10⟩
                obtain ⟨A10, c10, rfl, _, hr10⟩ := ho10.rd
                rw [hl9] at ho10 ⊢
                have HCS := Lib.hid (same_eq A10 (some ⟨gs, 0, none⟩) 32 c10 32 w10.heap.size x w10 hl9.symm hr10 (hos.below hb10).rdS.1)
                have O10 := O9.below hb10
                clear hb10 ho10 hr10 HC O9 hos
                go_wp2_with fail
                refine HCS.out.mono ?_
                rintro e w11 ⟨rfl, hb11⟩
                have O11 := Lib.hid (O10.below hb11)
                clear O10 hb11 HCS
                go_wp2
                go_roundw
                case rel => exact ⟨j + 1, by omega, by go_num, O11.out⟩
                case measure => simp [intOf]; omega
            · have j6 : (6 : Int) ≤ (j : Int) := by omega
              clear hj hj6
              go_wp2
              go_roundw
              case rel => exact ⟨i + 1, _, _, _, by omega, by omega, by go_num, HQ.out⟩
              case measure => simp [intOf]; omega
        · have O7 := O6
          clear O6 HCF
          generalize pv5 = pv6 at O7
          go_loopw [9] (fun sj wq => ∃ j : Nat, j ≤ 6 ∧ sj = .int .i64 j ∧ OS W wq W.heap.size m (i + 1) pv6 D6 F6) (fun sj _ => 6 - (intOf sj).toNat)
          case atStart => exact ⟨0, by omega, rfl, O7.out⟩
          case round =>
            rename World => wq
            obtain ⟨j, hj, rfl, hO⟩ := hrel
            have HQ := Lib.hid hO
            clear hO O7
            by_cases hj6 : j < 6
            · have j0 : (0 : Int) ≤ (j : Int) := by omega
              have j1 : (j : Int) < 6 := by omega
              have hwj : IntKind.i64.wrap ((j : Int) + 1) = (j : Int) + 1 := by rw [IntKind.wrap_i64]; omega
              have hmk := makeS
              have hmo := own_make 5 wq 32 (by omega)
              have O8 := HQ.out.below (below1 wq (.cells (zcells 32) 5))
              have hlook := O8.mp.look (j : Int) (by omega)
              obtain ⟨e1, e2⟩ := rdE (D := D6) (k := j) HQ.out.f (by omega)
              have hsec := HQ.out.s j (by omega)
              unfold wantF at hsec
              cases hF : F6 (j : Int) with
              | none =>
                rw [hF] at hlook hsec
                simp only [Option.getD_none, Option.isSome_none] at hlook
                have C := dsk_read_any _ _ _ _ _ O8.d (j : Int) (by omega)
                rw [e1, e2, hsec] at C
                have HC := Lib.hid C
                have HO8 := Lib.hid O8
                clear C e1 e2 hsec O8 hF
                go_wp2_with fail
                generalize wq.alloc (.cells (zcells 32) 5) = w8 at hlook hmo HC HO8 ⊢
                generalize wq.heap.size = gq at hmo ⊢
                refine HC.out.mono ?_
                rintro e w9 ⟨v9, rfl, ho9, hb9⟩
                obtain ⟨A9, c9, rfl, _, hr9⟩ := ho9.rd
                rw [show (List.replicate 32 (0 : UInt8)).length = 32 from rfl] at ho9 ⊢
                have HCS := Lib.hid (same_eq A9 (some ⟨gq, 0, none⟩) 32 c9 32 w9.heap.size (List.replicate 32 0) w9 rfl hr9 (hmo.below hb9).rdS.1)
                have O9 := HO8.out.below hb9
                clear hmo hlook hb9 ho9 hr9 HC HO8 hmk
                go_wp2_with fail
                refine HCS.out.mono ?_
                rintro e w10 ⟨rfl, hb10⟩
                have O10 := Lib.hid (O9.below hb10)
                clear O9 hb10 HCS
                go_wp2
                go_roundw
                case rel => exact ⟨j + 1, by omega, by go_num, O10.out⟩
                case measure => simp [intOf]; omega
              | some v =>
                rw [hF] at hlook hsec
                simp only [Option.getD_some, Option.isSome_some] at hlook
                have hvb := HQ.out.v _ _ hF
                have hl9 := sectorB_len v
                have HO8 := Lib.hid O8
                have Hsec := Lib.hid hsec
                have CSec := Lib.hid (fun V => sector_any v V hvb)
                clear hmo O8 hF hsec
                go_wp2_with fail
                generalize wq.alloc (.cells (zcells 32) 5) = w8 at hlook HO8 ⊢
                generalize wq.heap.size = gq
                refine (CSec.out _).mono ?_
                rintro e w9 ⟨gs, rfl, hos, hb9⟩
                have O9 := HO8.out.below hb9
                have C := dsk_read_any _ _ _ _ _ O9.d (j : Int) (by omega)
                rw [e1, e2, Hsec.out] at C
                have HC := Lib.hid C
                generalize sectorB v = x at HC hos hl9
                clear C e1 e2 hb9 hlook HO8 hmk Hsec CSec
                go_wp2_with fail
                refine HC.out.mono ?_
                rintro e w10 ⟨v10, rfl, ho10, hb10⟩
                obtain ⟨A10, c10, rfl, _, hr10⟩ := ho10.rd
                rw [hl9] at ho10 ⊢
                have HCS := Lib.hid (same_eq A10 (some ⟨gs, 0, none⟩) 32 c10 32 w10.heap.size x w10 hl9.symm hr10 (hos.below hb10).rdS.1)
                have O10 := O9.below hb10
                clear hb10 ho10 hr10 HC O9 hos
                go_wp2_with fail
                refine HCS.out.mono ?_
                rintro e w11 ⟨rfl, hb11⟩
                have O11 := Lib.hid (O10.below hb11)
                clear O10 hb11 HCS
                go_wp2
                go_roundw
                case rel => exact ⟨j + 1, by omega, by go_num, O11.out⟩
                case measure => simp [intOf]; omega
            · have j6 : (6 : Int) ≤ (j : Int) := by omega
              clear hj hj6
              go_wp2
              go_roundw
              case rel => exact ⟨i + 1, _, _, _, by omega, by omega, by go_num, HQ.out⟩
              case measure => simp [intOf]; omega
      · obtain rfl : i = 40 := by omega
        go_wp2_with fail
        refine (dwakes_any _).mono ?_
        rintro e w10 ⟨rfl, hb10⟩
        have HB := Lib.hid (HO.out.hb.trans (hb10.mono HO.out.hb.size))
        go_wp2
        go_ret
        exact ⟨rfl, HB.out⟩
    · have i1 : (ats.length : Int) ≤ (i : Int) := by omega
      go_wp2_with fail
      refine (dwakes_any _).mono ?_
      rintro e w10 ⟨rfl, hb10⟩
      have HB := Lib.hid (HO.out.hb.trans (hb10.mono HO.out.hb.size))
      go_wp2
      go_ret
      exact ⟨rfl, HB.out⟩
end Go.Proofs.Ytcgajfjlkojnlaa
