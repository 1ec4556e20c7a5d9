/- DiskErrors: what may not be asked for; a disk that has failed says so first. -/
import Derived.Test.YtcgajfjlkojnlaaOff
import Derived.Test.YtcgajfjlkojnlaaDskAllD
namespace Go.Proofs.Ytcgajfjlkojnlaa
open Go.RowKit

/-- What stays while DiskErrors runs: a disk, and bytes. -/
structure ES (W w : World) (b : Nat) (pv : Value) (D : Dsk) (n : Nat) (g : Nat) (xs : List UInt8) (f : Bool) : Prop where
  d : DskAt w W.heap.size b pv D
  f : D.f = f
  l : D.ps.length ≤ n
  x : OwB 5 w W.heap.size (.slice (some ⟨g, 0, none⟩) xs.length xs.length) xs
  ox : Off (.slice (some ⟨g, 0, none⟩) xs.length xs.length) b pv
  hb : Below W.heap.size W w
section
variable {W w w' : World} {b n g : Nat} {pv : Value} {D : Dsk} {xs : List UInt8} {f : Bool}
theorem ES.below (h : ES W w b pv D n g xs f) (hb : Below w.heap.size w w') : ES W w' b pv D n g xs f :=
  ⟨h.d.below hb, h.f, h.l, h.x.below hb, h.ox, h.hb.trans (hb.mono h.hb.size)⟩
theorem ES.disk {pv' : Value} {D' : Dsk} {n' : Nat} {f' : Bool} (h : ES W w b pv D n g xs f) (hd : DskAt w' W.heap.size b pv' D') (hf : D'.f = f') (hl : D'.ps.length ≤ n') (hc : Chg (DF b pv) w w') (hn : NewOr w pv pv') : ES W w' b pv' D' n' g xs f' :=
  ⟨hd, hf, hl, h.x.off h.ox hc, h.ox.step h.x hn, h.hb.trans (hc.below (B := W.heap.size) (fun _ hj => DF.le h.d hj) h.hb.size)⟩
/-- The calls, with what stays. -/
theorem es_write (h : ES W w b pv D n g xs f) (hn : n < 1000) (k : Int) (hk : -9223372036854775808 ≤ k ∧ k ≤ 9223372036854775807) (ys : List UInt8) (A : Option Addr) (m c : Nat) (hm : m = ys.length) (hr : RdB w w.heap.size A ys) :
    Calls Try.prog 12 #[.pointer (some ⟨b, 0, none⟩), .int .i64 k, .slice A m c] w fun e w' => e = .returned (.int .i64 (takeE f k m)) ∧ ∃ pv' D', ES W w' b pv' D' (n + (if f = true then 0 else 1)) g xs f := by
  have e := dsk_write_any _ _ _ _ w h.d k ys A m c hm hk hr (by have := h.l; omega)
  rw [h.f] at e
  refine e.mono ?_
  rintro e w' ⟨pv', rfl, hd, hc, hn'⟩
  refine ⟨rfl, pv', _, h.disk hd (by rw [Dsk.writeE_f, h.f]) ?_ hc hn'⟩
  cases f
  · have := Dsk.writeE_len D k ys; have := h.l; simp; omega
  · have e5 : D.writeE k ys = D := by unfold Dsk.writeE; rw [h.f, takeE_fail, if_neg (by omega)]
    rw [e5]
    simpa using h.l
theorem es_damage (h : ES W w b pv D n g xs f) (hn : n < 1000) (k : Int) (hk : -9223372036854775808 ≤ k ∧ k ≤ 9223372036854775807) (ys : List UInt8) (A : Option Addr) (m c : Nat) (hm : m = ys.length) (hr : RdB w w.heap.size A ys) :
    Calls Try.prog 13 #[.pointer (some ⟨b, 0, none⟩), .int .i64 k, .slice A m c] w fun e w' => e = .returned (.int .i64 (takeE f k m)) ∧ ∃ pv' D', ES W w' b pv' D' n g xs f := by
  have e := dsk_damage_any _ _ _ _ w h.d k ys A m c hm hk hr (by have := h.l; omega)
  rw [h.f] at e
  refine e.mono ?_
  rintro e w' ⟨pv', rfl, hd, hc, hn'⟩
  exact ⟨rfl, pv', _, h.disk hd (by rw [Dsk.damageE_f, h.f]) (by have := Dsk.damageE_len D k ys; have := h.l; omega) hc hn'⟩
theorem es_read (h : ES W w b pv D n g xs f) (k : Int) (hk : -9223372036854775808 ≤ k ∧ k ≤ 9223372036854775807) :
    Calls Try.prog 11 #[.pointer (some ⟨b, 0, none⟩), .int .i64 k] w fun e w' => ∃ v, e = .returned (.tuple #[v, .int .i64 (reachE f k)]) ∧ ES W w' b pv D n g xs f := by
  have e := dsk_read_any _ _ _ _ w h.d k hk
  rw [h.f] at e
  refine e.mono ?_
  rintro e w' ⟨v, rfl, _, hb⟩
  exact ⟨v, rfl, h.below hb⟩
theorem es_flush (h : ES W w b pv D n g xs f) :
    Calls Try.prog 15 #[.pointer (some ⟨b, 0, none⟩)] w fun e w' => e = .returned (.int .i64 (if f = true then 5 else 0)) ∧ ∃ pv' D', ES W w' b pv' D' n g xs f := by
  have e := dsk_flush_any _ _ _ _ w h.d
  rw [h.f] at e
  refine e.mono ?_
  rintro e w' ⟨pv', rfl, hd, hc, hn'⟩
  exact ⟨rfl, pv', _, h.disk hd (by rw [Dsk.flushE_f, h.f]) (Nat.le_trans (Dsk.flushE_len D) h.l) hc hn'⟩
end
set_option maxRecDepth 100000 in
set_option maxHeartbeats 3200000 in
theorem disk_errors (n size : Int) (W : World) (hn : -9223372036854775808 ≤ n ∧ n ≤ 9223372036854775807) (hsz : -9223372036854775808 ≤ size ∧ size ≤ 9223372036854775807) :
    Calls Try.prog 3 #[.int .i64 n, .int .i64 size] W fun e w' => e = .returned (.bool true) ∧ Below W.heap.size W w' := by
  have CN := Lib.hid (dsk_new_any W)
  have CW1 := Lib.hid (fun V => within_any n 1000 V hn (by omega))
  have CW2 := Lib.hid (fun V => within_any size 60 V hsz (by omega))
  obtain ⟨h1, h2⟩ := withinI_bd n 1000 (by omega)
  obtain ⟨h3, h4⟩ := withinI_bd size 60 (by omega)
  obtain ⟨q, hq⟩ : ∃ q : Nat, withinI n 1000 = (q : Int) := ⟨(withinI n 1000).toNat, by omega⟩
  obtain ⟨s, hs⟩ : ∃ s : Nat, withinI size 60 = (s : Int) := ⟨(withinI size 60).toNat, by omega⟩
  rw [hq] at CW1 h1 h2
  rw [hs] at CW2 h3 h4
  clear hq hs hn hsz
  have hmk := make_bytes s (by omega)
  obtain ⟨E, hE⟩ : ∃ E, takeE false 3 s = E := ⟨_, rfl⟩
  have hE4 : takeE false 4 s = E := by rw [← hE]; unfold takeE; rw [reachE_ok (by omega) (by omega), reachE_ok (by omega) (by omega)]
  have hcase : (((s : Int) == 32) = true ∧ E = 0) ∨ (((s : Int) == 32) = false ∧ E = 1) := by
    by_cases h : s = 32
    · left; subst h; exact ⟨rfl, by rw [← hE]; exact takeE_ok (by omega) (by omega)⟩
    · right; exact ⟨by rw [beq_eq_false_iff_ne]; omega, by rw [← hE]; exact takeE_arg (by omega) (by omega) h⟩
  have HE := Lib.hid hE
  have HE4 := Lib.hid hE4
  clear hE hE4
  go_enter Try.func3, Try.ntmps3
  go_wp2_with fail
  refine CN.out.mono ?_
  rintro e w1 ⟨rfl, hd, hb1⟩
  have hpn : ∀ V : World, (binOp .eql 22 (.pointer (some ⟨W.heap.size, 0, none⟩)) (.pointer none)).run Try.prog V = .ok (.bool false) V := fun _ => rfl
  have hs1 := hb1.size
  go_wp2_with fail
  refine (CW1.out _).mono ?_
  rintro e w' ⟨rfl, rfl⟩
  go_wp2_with fail
  refine (CW2.out _).mono ?_
  rintro e w1 ⟨rfl, rfl⟩
  have hmo := own_make 5 w1 s (by omega)
  have hE0 : ES W (w1.alloc (.cells (zcells s) 5)) W.heap.size (.slice none 0 0) Dsk.new 0 w1.heap.size (List.replicate s 0) false :=
    ⟨hd.below (below1 w1 _), rfl, Nat.zero_le _, by rw [List.length_replicate]; exact hmo.le hs1, by rw [List.length_replicate]; exact off_new hd hmo (Nat.le_refl _), hb1.trans ((below1 w1 _).mono hs1)⟩
  clear hd hb1 hs1 hmo CN CW1 CW2
  rcases hcase with ⟨hb32, rfl⟩ | ⟨hb32, rfl⟩
  · go_wp2_with fail
    generalize w1.alloc (.cells (zcells s) 5) = w0 at hE0 ⊢
    generalize w1.heap.size = G at hE0 ⊢
    clear hmk
    have C1 := es_read hE0 (-(1 + (q : Int))) (by omega)
    rw [reachE_range (.inl (by omega))] at C1
    have HC1 := Lib.hid C1
    clear C1
    go_wp2_with fail
    refine HC1.out.mono ?_
    rintro e x1 ⟨v1, rfl, hE1⟩
    clear hE0 HC1
    have C2 := es_read hE1 (51 + (1 + (q : Int))) (by omega)
    rw [reachE_range (.inr (by omega))] at C2
    have HC2 := Lib.hid C2
    clear C2
    go_wp2_with fail
    refine HC2.out.mono ?_
    rintro e x2 ⟨v2, rfl, hE2⟩
    clear hE1 HC2
    have C3 := es_write hE2 (by decide) (-(1 + (q : Int))) (by omega) (List.replicate s 0) (some ⟨G, 0, none⟩) s s (List.length_replicate ..).symm (by have := hE2.x.rdS.1; exact this)
    rw [takeE_range s (.inl (by omega))] at C3
    have HC3 := Lib.hid C3
    clear C3
    go_wp2_with fail
    refine HC3.out.mono ?_
    rintro e x3 ⟨rfl, pv3, D3, hE3⟩
    clear hE2 HC3
    have C4 := es_write hE3 (by decide) (51 + (1 + (q : Int))) (by omega) (List.replicate s 0) (some ⟨G, 0, none⟩) s s (List.length_replicate ..).symm (by have := hE3.x.rdS.1; exact this)
    rw [takeE_range s (.inr (by omega))] at C4
    have HC4 := Lib.hid C4
    clear C4
    go_wp2_with fail
    refine HC4.out.mono ?_
    rintro e x4 ⟨rfl, pv4, D4, hE4⟩
    clear hE3 HC4
    have C5 := es_write hE4 (by decide) 3 (by omega) (List.replicate s 0) (some ⟨G, 0, none⟩) s s (List.length_replicate ..).symm (by have := hE4.x.rdS.1; exact this)
    rw [HE.out] at C5
    have HC5 := Lib.hid C5
    clear C5
    go_wp2_with fail
    refine HC5.out.mono ?_
    rintro e x5 ⟨rfl, pv5, D5, hE5⟩
    clear hE4 HC5
    have C6 := es_damage hE5 (by decide) (-(1 + (q : Int))) (by omega) (List.replicate s 0) (some ⟨G, 0, none⟩) s s (List.length_replicate ..).symm (by have := hE5.x.rdS.1; exact this)
    rw [takeE_range s (.inl (by omega))] at C6
    have HC6 := Lib.hid C6
    clear C6
    go_wp2_with fail
    refine HC6.out.mono ?_
    rintro e x6 ⟨rfl, pv6, D6, hE6⟩
    clear hE5 HC6
    have C7 := es_damage hE6 (by decide) 4 (by omega) (List.replicate s 0) (some ⟨G, 0, none⟩) s s (List.length_replicate ..).symm (by have := hE6.x.rdS.1; exact this)
    rw [HE4.out] at C7
    have HC7 := Lib.hid C7
    clear C7
    go_wp2_with fail
    refine HC7.out.mono ?_
    rintro e x7 ⟨rfl, pv7, D7, hE7⟩
    clear hE6 HC7
    go_wp2_with fail
    refine (sector_any (1 + (q : Int)) _ (by omega)).mono ?_
    rintro e x8 ⟨g8, rfl, ho8, hb8⟩
    have hE8 := hE7.below hb8
    clear hE7 hb8
    have C9 := es_write hE8 (by decide) 5 (by omega) (sectorB (1 + (q : Int))) (some ⟨g8, 0, none⟩) 32 32 (sectorB_len _).symm (by have := ho8.rdS.1; exact this)
    rw [takeE_ok (by omega) (by omega)] at C9
    have HC9 := Lib.hid C9
    clear C9
    go_wp2_with fail
    refine HC9.out.mono ?_
    rintro e x9 ⟨rfl, pv9, D9, hE9⟩
    clear hE8 HC9
    clear ho8
    have HC10 := Lib.hid (es_flush hE9)
    go_wp2_with fail
    refine HC10.out.mono ?_
    rintro e x10 ⟨rfl, pv10, D10, hE10⟩
    clear hE9 HC10
    go_wp2_with fail
    refine (sector_any (1 + (q : Int)) _ (by omega)).mono ?_
    rintro e x11 ⟨g11, rfl, ho11, hb11⟩
    have hE11 := hE10.below hb11
    clear hE10 hb11
    have C12 := es_write hE11 (by decide) 6 (by omega) (sectorB (1 + (q : Int))) (some ⟨g11, 0, none⟩) 32 32 (sectorB_len _).symm (by have := ho11.rdS.1; exact this)
    rw [takeE_ok (by omega) (by omega)] at C12
    have HC12 := Lib.hid C12
    clear C12
    go_wp2_with fail
    refine HC12.out.mono ?_
    rintro e x12 ⟨rfl, pv12, D12, hE12⟩
    clear hE11 HC12
    clear ho11
    go_wp2_with fail
    refine (dsk_fail_any _ _ _ _ _ hE12.d).mono ?_
    rintro e x13 ⟨rfl, hd13, hc13⟩
    have hE13 := hE12.disk (f' := true) (n' := 0) hd13 rfl (Nat.le_refl _) hc13 (NewOr.none _ _)
    clear hE12 hd13 hc13
    have C14 := es_read hE13 (-(1 + (q : Int))) (by omega)
    rw [reachE_fail] at C14
    have HC14 := Lib.hid C14
    clear C14
    go_wp2_with fail
    refine HC14.out.mono ?_
    rintro e x14 ⟨v14, rfl, hE14⟩
    clear hE13 HC14
    have C15 := es_read hE14 5 (by omega)
    rw [reachE_fail] at C15
    have HC15 := Lib.hid C15
    clear C15
    go_wp2_with fail
    refine HC15.out.mono ?_
    rintro e x15 ⟨v15, rfl, hE15⟩
    clear hE14 HC15
    go_wp2_with fail
    have hE16a := hE15.below (below1 _ (.cells #[.bool true] 4))
    have hrk16 := heap_alloc_new x15 (.cells #[.bool true] 4)
    refine (dsk_crash_any _ _ _ _ (some ⟨x15.heap.size, 0, none⟩) [true] 1 1 _ hE16a.d rfl ⟨by simp, fun _ => ⟨x15.heap.size, 0, rfl, by simp, fun j hj => by obtain rfl : j = 0 := (by simp at hj; omega); exact cell_of_row _ _ _ _ _ _ hrk16⟩⟩ (fun a _ ha => by injection ha with ha; subst ha; have := hE15.d.lt; show x15.heap.size ≠ _; omega) (by have := hE16a.l; omega)).mono ?_
    rintro e x16 ⟨rfl, hd16, hc16⟩
    have hE16 := hE16a.disk (f' := true) (n' := 0) hd16 hE16a.f (Nat.le_refl _) hc16 (NewOr.none _ _)
    clear hE15 hE16a hrk16 hd16 hc16
    have C17 := es_read hE16 6 (by omega)
    rw [reachE_fail] at C17
    have HC17 := Lib.hid C17
    clear C17
    go_wp2_with fail
    refine HC17.out.mono ?_
    rintro e x17 ⟨v17, rfl, hE17⟩
    clear hE16 HC17
    have CFd := dsk_failed_any _ _ _ _ _ hE17.d
    rw [hE17.f] at CFd
    have HCFd := Lib.hid CFd
    clear CFd
    go_wp2_with fail
    refine HCFd.out.mono ?_
    rintro e x18 ⟨rfl, rfl⟩
    have C19 := es_write hE17 (by decide) (-(1 + (q : Int))) (by omega) [] none 0 0 rfl (RdB.nil _ _ _)
    rw [takeE_fail] at C19
    have HC19 := Lib.hid C19
    clear C19
    go_wp2_with fail
    refine HC19.out.mono ?_
    rintro e x19 ⟨rfl, pv19, D19, hE19⟩
    clear hE17 HC19
    have HC20 := Lib.hid (es_flush hE19)
    go_wp2_with fail
    refine HC20.out.mono ?_
    rintro e x20 ⟨rfl, pv20, D20, hE20⟩
    clear hE19 HC20
    have C21 := es_damage hE20 (by decide) 1 (by omega) (List.replicate s 0) (some ⟨G, 0, none⟩) s s (List.length_replicate ..).symm (by have := hE20.x.rdS.1; exact this)
    rw [takeE_fail] at C21
    have HC21 := Lib.hid C21
    clear C21
    go_wp2_with fail
    refine HC21.out.mono ?_
    rintro e x21 ⟨rfl, pv21, D21, hE21⟩
    clear hE20 HC21
    have hl0 : D21.ps.length = 0 := by
      have := hE21.l
      simp at this
      simp [this]
    have CP := dsk_pending_any _ _ _ _ _ hE21.d
    rw [hl0] at CP
    have HCP := Lib.hid CP
    clear CP hl0
    go_wp2_with fail
    refine HCP.out.mono ?_
    rintro e x22 ⟨rfl, rfl⟩
    go_wp2_with fail
    refine (dwakes_any _).mono ?_
    rintro e x23 ⟨rfl, hb23⟩
    have HB := Lib.hid (hE21.hb.trans (hb23.mono hE21.hb.size))
    go_wp2
    go_ret
    exact ⟨rfl, HB.out⟩
  · go_wp2_with fail
    generalize w1.alloc (.cells (zcells s) 5) = w0 at hE0 ⊢
    generalize w1.heap.size = G at hE0 ⊢
    clear hmk
    have C1 := es_read hE0 (-(1 + (q : Int))) (by omega)
    rw [reachE_range (.inl (by omega))] at C1
    have HC1 := Lib.hid C1
    clear C1
    go_wp2_with fail
    refine HC1.out.mono ?_
    rintro e x1 ⟨v1, rfl, hE1⟩
    clear hE0 HC1
    have C2 := es_read hE1 (51 + (1 + (q : Int))) (by omega)
    rw [reachE_range (.inr (by omega))] at C2
    have HC2 := Lib.hid C2
    clear C2
    go_wp2_with fail
    refine HC2.out.mono ?_
    rintro e x2 ⟨v2, rfl, hE2⟩
    clear hE1 HC2
    have C3 := es_write hE2 (by decide) (-(1 + (q : Int))) (by omega) (List.replicate s 0) (some ⟨G, 0, none⟩) s s (List.length_replicate ..).symm (by have := hE2.x.rdS.1; exact this)
    rw [takeE_range s (.inl (by omega))] at C3
    have HC3 := Lib.hid C3
    clear C3
    go_wp2_with fail
    refine HC3.out.mono ?_
    rintro e x3 ⟨rfl, pv3, D3, hE3⟩
    clear hE2 HC3
    have C4 := es_write hE3 (by decide) (51 + (1 + (q : Int))) (by omega) (List.replicate s 0) (some ⟨G, 0, none⟩) s s (List.length_replicate ..).symm (by have := hE3.x.rdS.1; exact this)
    rw [takeE_range s (.inr (by omega))] at C4
    have HC4 := Lib.hid C4
    clear C4
    go_wp2_with fail
    refine HC4.out.mono ?_
    rintro e x4 ⟨rfl, pv4, D4, hE4⟩
    clear hE3 HC4
    have C5 := es_write hE4 (by decide) 3 (by omega) (List.replicate s 0) (some ⟨G, 0, none⟩) s s (List.length_replicate ..).symm (by have := hE4.x.rdS.1; exact this)
    rw [HE.out] at C5
    have HC5 := Lib.hid C5
    clear C5
    go_wp2_with fail
    refine HC5.out.mono ?_
    rintro e x5 ⟨rfl, pv5, D5, hE5⟩
    clear hE4 HC5
    have C6 := es_damage hE5 (by decide) (-(1 + (q : Int))) (by omega) (List.replicate s 0) (some ⟨G, 0, none⟩) s s (List.length_replicate ..).symm (by have := hE5.x.rdS.1; exact this)
    rw [takeE_range s (.inl (by omega))] at C6
    have HC6 := Lib.hid C6
    clear C6
    go_wp2_with fail
    refine HC6.out.mono ?_
    rintro e x6 ⟨rfl, pv6, D6, hE6⟩
    clear hE5 HC6
    have C7 := es_damage hE6 (by decide) 4 (by omega) (List.replicate s 0) (some ⟨G, 0, none⟩) s s (List.length_replicate ..).symm (by have := hE6.x.rdS.1; exact this)
    rw [HE4.out] at C7
    have HC7 := Lib.hid C7
    clear C7
    go_wp2_with fail
    refine HC7.out.mono ?_
    rintro e x7 ⟨rfl, pv7, D7, hE7⟩
    clear hE6 HC7
    go_wp2_with fail
    refine (sector_any (1 + (q : Int)) _ (by omega)).mono ?_
    rintro e x8 ⟨g8, rfl, ho8, hb8⟩
    have hE8 := hE7.below hb8
    clear hE7 hb8
    have C9 := es_write hE8 (by decide) 5 (by omega) (sectorB (1 + (q : Int))) (some ⟨g8, 0, none⟩) 32 32 (sectorB_len _).symm (by have := ho8.rdS.1; exact this)
    rw [takeE_ok (by omega) (by omega)] at C9
    have HC9 := Lib.hid C9
    clear C9
    go_wp2_with fail
    refine HC9.out.mono ?_
    rintro e x9 ⟨rfl, pv9, D9, hE9⟩
    clear hE8 HC9
    clear ho8
    have HC10 := Lib.hid (es_flush hE9)
    go_wp2_with fail
    refine HC10.out.mono ?_
    rintro e x10 ⟨rfl, pv10, D10, hE10⟩
    clear hE9 HC10
    go_wp2_with fail
    refine (sector_any (1 + (q : Int)) _ (by omega)).mono ?_
    rintro e x11 ⟨g11, rfl, ho11, hb11⟩
    have hE11 := hE10.below hb11
    clear hE10 hb11
    have C12 := es_write hE11 (by decide) 6 (by omega) (sectorB (1 + (q : Int))) (some ⟨g11, 0, none⟩) 32 32 (sectorB_len _).symm (by have := ho11.rdS.1; exact this)
    rw [takeE_ok (by omega) (by omega)] at C12
    have HC12 := Lib.hid C12
    clear C12
    go_wp2_with fail
    refine HC12.out.mono ?_
    rintro e x12 ⟨rfl, pv12, D12, hE12⟩
    clear hE11 HC12
    clear ho11
    go_wp2_with fail
    refine (dsk_fail_any _ _ _ _ _ hE12.d).mono ?_
    rintro e x13 ⟨rfl, hd13, hc13⟩
    have hE13 := hE12.disk (f' := true) (n' := 0) hd13 rfl (Nat.le_refl _) hc13 (NewOr.none _ _)
    clear hE12 hd13 hc13
    have C14 := es_read hE13 (-(1 + (q : Int))) (by omega)
    rw [reachE_fail] at C14
    have HC14 := Lib.hid C14
    clear C14
    go_wp2_with fail
    refine HC14.out.mono ?_
    rintro e x14 ⟨v14, rfl, hE14⟩
    clear hE13 HC14
    have C15 := es_read hE14 5 (by omega)
    rw [reachE_fail] at C15
    have HC15 := Lib.hid C15
    clear C15
    go_wp2_with fail
    refine HC15.out.mono ?_
    rintro e x15 ⟨v15, rfl, hE15⟩
    clear hE14 HC15
    go_wp2_with fail
    have hE16a := hE15.below (below1 _ (.cells #[.bool true] 4))
    have hrk16 := heap_alloc_new x15 (.cells #[.bool true] 4)
    refine (dsk_crash_any _ _ _ _ (some ⟨x15.heap.size, 0, none⟩) [true] 1 1 _ hE16a.d rfl ⟨by simp, fun _ => ⟨x15.heap.size, 0, rfl, by simp, fun j hj => by obtain rfl : j = 0 := (by simp at hj; omega); exact cell_of_row _ _ _ _ _ _ hrk16⟩⟩ (fun a _ ha => by injection ha with ha; subst ha; have := hE15.d.lt; show x15.heap.size ≠ _; omega) (by have := hE16a.l; omega)).mono ?_
    rintro e x16 ⟨rfl, hd16, hc16⟩
    have hE16 := hE16a.disk (f' := true) (n' := 0) hd16 hE16a.f (Nat.le_refl _) hc16 (NewOr.none _ _)
    clear hE15 hE16a hrk16 hd16 hc16
    have C17 := es_read hE16 6 (by omega)
    rw [reachE_fail] at C17
    have HC17 := Lib.hid C17
    clear C17
    go_wp2_with fail
    refine HC17.out.mono ?_
    rintro e x17 ⟨v17, rfl, hE17⟩
    clear hE16 HC17
    have CFd := dsk_failed_any _ _ _ _ _ hE17.d
    rw [hE17.f] at CFd
    have HCFd := Lib.hid CFd
    clear CFd
    go_wp2_with fail
    refine HCFd.out.mono ?_
    rintro e x18 ⟨rfl, rfl⟩
    have C19 := es_write hE17 (by decide) (-(1 + (q : Int))) (by omega) [] none 0 0 rfl (RdB.nil _ _ _)
    rw [takeE_fail] at C19
    have HC19 := Lib.hid C19
    clear C19
    go_wp2_with fail
    refine HC19.out.mono ?_
    rintro e x19 ⟨rfl, pv19, D19, hE19⟩
    clear hE17 HC19
    have HC20 := Lib.hid (es_flush hE19)
    go_wp2_with fail
    refine HC20.out.mono ?_
    rintro e x20 ⟨rfl, pv20, D20, hE20⟩
    clear hE19 HC20
    have C21 := es_damage hE20 (by decide) 1 (by omega) (List.replicate s 0) (some ⟨G, 0, none⟩) s s (List.length_replicate ..).symm (by have := hE20.x.rdS.1; exact this)
    rw [takeE_fail] at C21
    have HC21 := Lib.hid C21
    clear C21
    go_wp2_with fail
    refine HC21.out.mono ?_
    rintro e x21 ⟨rfl, pv21, D21, hE21⟩
    clear hE20 HC21
    have hl0 : D21.ps.length = 0 := by
      have := hE21.l
      simp at this
      simp [this]
    have CP := dsk_pending_any _ _ _ _ _ hE21.d
    rw [hl0] at CP
    have HCP := Lib.hid CP
    clear CP hl0
    go_wp2_with fail
    refine HCP.out.mono ?_
    rintro e x22 ⟨rfl, rfl⟩
    go_wp2_with fail
    refine (dwakes_any _).mono ?_
    rintro e x23 ⟨rfl, hb23⟩
    have HB := Lib.hid (hE21.hb.trans (hb23.mono hE21.hb.size))
    go_wp2
    go_ret
    exact ⟨rfl, HB.out⟩
end Go.Proofs.Ytcgajfjlkojnlaa
