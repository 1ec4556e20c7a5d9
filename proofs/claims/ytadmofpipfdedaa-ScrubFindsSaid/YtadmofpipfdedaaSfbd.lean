/- Texts put together: ScrRead, Scr, RbdRun, RbdStd. -/
import Derived.Test.YtadmofpipfdedaaSfbb
import Derived.Test.YtadmofpipfdedaaSfaw
import Derived.Test.YtadmofpipfdedaaSfar
import Derived.Test.YtadmofpipfdedaaSfam
import Derived.Test.YtadmofpipfdedaaSfah
section
set_option maxRecDepth 20000
set_option linter.unusedVariables false
set_option linter.unusedSimpArgs false
namespace Go.Proofs.Ytadmofpipfdedaa
open Go.RowKit

def ScR (w : World) (D : Nat) (x : Bool) (rs : List (List UInt8)) (e : Ending) (w' : World) : Prop := ∃ v, e = .returned (.tuple #[v, .bool x]) ∧ (x = true → ∃ g, v = .slice (some ⟨g, 0, none⟩) D D ∧ RdR w' w'.heap.size (some ⟨g, 0, none⟩) rs) ∧ Below w.heap.size w w'
set_option maxHeartbeats 3200000 in
theorem scrRead_any (B b : Nat) (H : BH) (N : Bch) (w : World) (h : BAt w B b H N) (hdn : N.down = false) (lv : List Bool) (A : Option Addr) (n cp : Nat) (hn : n = lv.length) (hv : RdO w w.heap.size A lv) (l c : Int) (D ρ : Nat) (hD : D ≤ 8) (hρ : ρ < 16) :
    Calls Try.prog 57 #[.pointer (some ⟨b, 0, none⟩), .slice A n cp, .agg #[.int .i64 l, .int .i64 (D : Int), .int .i64 c], .int .i64 (ρ : Int)] w (ScR w D (scS N lv D) (ssL N lv (36 + ρ) D)) := by
  subst hn
  have Hss : Hid (ssL N lv (36 + ρ) D = ssTo N lv (36 + ρ) D D) := rfl
  have Hs0 := Lib.hid (ssTo_zero N lv (36 + ρ) D)
  have Hsg := Lib.hid (fun k => @ssTo_goes N lv (36 + ρ) D k)
  have Hlen := Lib.hid (ssL_len N lv (36 + ρ) D)
  have CS := Lib.hid (fun W (hb : Below w.heap.size w W) (j : Nat) (hj : j ≤ 1000000) => stpServes_any B b H N W (h.below hb) lv A lv.length cp rfl (hv.keep hb.size fun p hp => hb.cell hp) j hj)
  have CR := Lib.hid (fun W (hb : Below w.heap.size w W) (k : Nat) (hk : k ≤ 8) => bch_read_any B b H N W (h.below hb) (k : Int) (36 + (ρ : Int)) ⟨by omega, by omega⟩ ⟨by omega, by omega⟩)
  have HRu := Lib.hid (fun (k : Nat) (hs : srvD N lv k = true) => Bch.read_ok (N := N) (d := k) (k := 36 + ρ) (srvD_yes hs).1 (by omega) (srvD_yes hs).2.2 hdn)
  have HL32 := Lib.hid (fun (k : Nat) (hs : srvD N lv k = true) => show (secAt (N.D k).now (36 + ρ)).length = 32 from secAt_len (by rw [(h.dsk k (srvD_yes hs).1).ok.now]; omega))
  have Hyes := Lib.hid (fun (hk : ∀ k, k < D → srvD N lv k = true) => scS_yes hk)
  have Hno := Lib.hid (fun (k : Nat) (hk : k < D) (hs : srvD N lv k = false) => scS_no hk hs)
  generalize scS N lv D = x at Hyes Hno ⊢
  clear h hv hdn
  have km := make_rows D (by omega)
  unfold ptr at CR
  go_enter Try.func57, Try.ntmps57
  go_wp2_with fail
  have hz1 : (w.alloc (.cells #[.int .i64 l, .int .i64 (D : Int), .int .i64 c] 25)).heap.size = w.heap.size + 1 := by simp
  have F1 := below1 w (.cells #[.int .i64 l, .int .i64 (D : Int), .int .i64 c] 25)
  have Q0 := (rq_new (w.alloc (.cells #[.int .i64 l, .int .i64 (D : Int), .int .i64 c] 25)) D (by omega)).le (lo' := w.heap.size) (by omega)
  rw [← Hs0.out, hz1] at Q0
  have F3 := F1.trans ((below1 (w.alloc (.cells #[.int .i64 l, .int .i64 (D : Int), .int .i64 c] 25)) (.cells (madeCells #[.slice none 0 0] D) 45)).mono F1.size)
  have gs1 : w.heap.size < w.heap.size + 1 := by omega
  generalize w.heap.size + 1 = g at Q0 gs1 ⊢
  generalize (w.alloc (.cells #[.int .i64 l, .int .i64 (D : Int), .int .i64 c] 25)).alloc (.cells (madeCells #[.slice none 0 0] D) 45) = w4 at Q0 F3 ⊢
  clear F1 hz1
  go_loopw [17] (fun i wr => ∃ (k : Nat) (xs : List Value), k ≤ D ∧ i = .int .i64 k ∧ (∀ i, i < k → srvD N lv i = true) ∧ Rq w.heap.size wr g D D xs (ssTo N lv (36 + ρ) D k) ∧ Below w.heap.size w wr) (fun i _ => D - (intOf i).toNat)
  case atStart => exact ⟨0, _, Nat.zero_le _, rfl, fun i hi => absurd hi (Nat.not_lt_zero _), Q0, F3⟩
  case round =>
    obtain ⟨k, xs, hk, rfl, hall, Q, F4⟩ := hrel
    have Hall := Lib.hid hall
    clear hall
    by_cases hlt : k < D
    · have i0 : (0 : Int) ≤ (k : Int) := by omega
      have i1 : (k : Int) < (D : Int) := by omega
      have hglt := Q.glt.2
      have CS1 := Lib.hid (fun W hb => CS.out W hb k (by omega))
      cases hs : srvD N lv k with
      | false =>
        rw [hs] at CS1
        have Hx := Lib.hid (Hno.out k hlt hs)
        clear Hss Hs0 Hsg CS CR HRu HL32 Hyes Hno km Q0 F3 hs
        go_wp2_with fail
        (with_reducible refine (CS1.out _ F4).mono ?_); rintro e w5 ⟨rfl, rfl⟩
        go_wp2
        go_ret2
        exact ⟨.slice none 0 0, by rw [Hx.out]; rfl, fun e => (by rw [Hx.out] at e; cases e), F4⟩
      | true =>
        rw [hs] at CS1
        have CR1 := CR.out _ F4 k (by omega)
        have hr0 := HRu.out k hs
        rw [show ((36 + ρ : Nat) : Int) = 36 + (ρ : Int) by omega] at hr0
        rw [hr0.1, hr0.2] at CR1
        have CR1 := Lib.hid CR1
        have h32 := HL32.out k hs
        have Hs := Lib.hid (Hsg.out k hlt hs)
        have Hall2 := Lib.hid (show ∀ i, i < k + 1 → srvD N lv i = true from fun i hi => by
          by_cases e : i = k
          · rw [e]; exact hs
          · exact Hall.out i (by omega))
        generalize secAt (N.D k).now (36 + ρ) = row at CR1 h32 Hs
        generalize ssTo N lv (36 + ρ) D k = ms at Q Hs
        clear Hss Hs0 Hsg CS CR HRu HL32 Hyes Hno km Q0 F3 hs hr0
        go_wp2_with fail
        (with_reducible refine (CS1.out _ F4).mono ?_); rintro e w5 ⟨rfl, rfl⟩
        go_wp2_with fail
        (with_reducible refine CR1.out.mono ?_); rintro e w6 ⟨v, rfl, ho, hb6⟩
        obtain ⟨A1, c1, rfl, _, _⟩ := ho.rd
        obtain ⟨Ao, co, _, h3, _⟩ := (Q.below hb6).at k hlt
        have hf3 := (Q.below hb6).fz k
        obtain ⟨hset, hgr⟩ := Q.step hb6 k hlt ho
        rw [Hs.out] at hset
        have F6 := (F4.trans (hb6.mono F4.size)).setCell (p := ⟨g, k, none⟩) (by show w.heap.size ≤ g; omega) (.slice A1 row.length c1)
        clear Q Hs
        rw [h32] at hset F6
        go_wp2
        go_roundw
        case rel => exact ⟨k + 1, _, by omega, by go_num, Hall2.out, hset, F6⟩
        case measure => simp [intOf]; omega
    · obtain rfl : k = D := by omega
      rw [← Hss.out] at Q
      have hrr := Lib.hid (Q.rdr (by omega))
      have Hx := Lib.hid (Hyes.out Hall.out)
      clear Hss Hs0 Hsg CS CR HRu HL32 Hyes Hno km Q0 F3 Q
      go_wp2
      go_ret2
      exact ⟨_, by rw [Hx.out]; rfl, fun _ => ⟨g, rfl, hrr.out⟩, F4⟩
end Go.Proofs.Ytadmofpipfdedaa
end
section
set_option maxRecDepth 20000
set_option linter.unusedVariables false
set_option linter.unusedSimpArgs false
namespace Go.Proofs.Ytadmofpipfdedaa
open Go.RowKit

def ScW (w : World) (E : Int) (ks : List Nat) (e : Ending) (w' : World) : Prop := ∃ v, e = .returned (.tuple #[v, .int .i64 E]) ∧ OwI w' w.heap.size v ks ∧ Below w.heap.size w w'
theorem owi_nil (w : World) (B : Nat) : OwI w B (.slice none 0 0) [] := World.ownsRow_nil _ _ _ _
theorem OwI.le {w : World} {B B' : Nat} {v : Value} {zs : List Nat} (h : OwI w B v zs) (hB : B' ≤ B) : OwI w B' v zs := by
  refine ⟨h.1, ?_⟩
  rcases h.2 with h1 | ⟨g, cap, cur, h1, h2, r⟩
  · exact .inl h1
  · exact .inr ⟨g, cap, cur, h1, by omega, r⟩
set_option maxHeartbeats 3200000 in
theorem scrub_any (B b : Nat) (H : BH) (N : Bch) (w : World) (h : BAt w B b H N) (lv : List Bool) (A : Option Addr) (m cp : Nat) (hm : m = lv.length) (hv : RdO w w.heap.size A lv) (G : RG) (h64 : RG64 G) :
    Calls Try.prog 28 #[.pointer (some ⟨b, 0, none⟩), .slice A m cp, .agg #[.int .i64 G.l, .int .i64 G.d, .int .i64 G.c], .agg #[.int .i64 G.l', .int .i64 G.d', .int .i64 G.c'], .int .i64 G.s] w (ScW w (scE N G) (scL N lv G)) := by
  subst hm
  have B2 := below2 w (.cells #[.int .i64 G.l, .int .i64 G.d, .int .i64 G.c] 25) (.cells #[.int .i64 G.l', .int .i64 G.d', .int .i64 G.c'] 25)
  have HB2 := Lib.hid B2
  have CP := Lib.hid (partedCheck_any G ((w.alloc (.cells #[.int .i64 G.l, .int .i64 G.d, .int .i64 G.c] 25)).alloc (.cells #[.int .i64 G.l', .int .i64 G.d', .int .i64 G.c'] 25)) h64)
  cases hok : G.ok with
  | false =>
    have HE := Lib.hid (scE_bad (N := N) hok)
    have HL := Lib.hid (scL_no (lv := lv) (show scE N G ≠ 0 by rw [HE.out]; decide))
    rw [show G.e = 1 from if_neg (by rw [hok]; decide)] at CP
    generalize scE N G = E at HE ⊢
    generalize scL N lv G = L at HL ⊢
    clear h hv B2 h64 hok
    go_enter Try.func28, Try.ntmps28
    go_wp2_with fail
    (with_reducible refine CP.out.mono ?_); rintro e w1 ⟨rfl, hb⟩
    have F := Lib.hid (HB2.out.trans (hb.mono HB2.out.size))
    clear hb
    go_wp2_with fail
    go_ret2
    exact ⟨.slice none 0 0, by rw [HE.out]; rfl, by rw [HL.out]; exact owi_nil _ _, F.out⟩
  | true =>
  rw [show G.e = 0 from if_pos hok] at CP
  have CD := Lib.hid (fun (V : World) (hb : Below w.heap.size w V) => bch_down_any B b H N V (h.below hb))
  unfold ptr at CD
  cases hdn : N.down with
  | true =>
    have HE := Lib.hid (scE_down hok hdn)
    have HL := Lib.hid (scL_no (lv := lv) (show scE N G ≠ 0 by rw [HE.out]; decide))
    rw [hdn] at CD
    generalize scE N G = E at HE ⊢
    generalize scL N lv G = L at HL ⊢
    clear h hv B2 h64 hok hdn
    go_enter Try.func28, Try.ntmps28
    go_wp2_with fail
    (with_reducible refine CP.out.mono ?_); rintro e w1 ⟨rfl, hb⟩
    have F := Lib.hid (HB2.out.trans (hb.mono HB2.out.size))
    have CD1 := Lib.hid (CD.out _ F.out)
    clear hb CD
    go_wp2_with fail
    (with_reducible refine CD1.out.mono ?_); rintro e w2 ⟨rfl, rfl⟩
    go_wp2_with fail
    go_ret2
    exact ⟨.slice none 0 0, by rw [HE.out]; rfl, by rw [HL.out]; exact owi_nil _ _, F.out⟩
  | false =>
    have HE := Lib.hid (scE_ok hok hdn)
    have HL := Lib.hid (scL_ok (lv := lv) hok hdn)
    rw [hdn] at CD
    generalize scE N G = E at HE ⊢
    generalize scL N lv G = L at HL ⊢
    have HGood := Lib.hid (fun r => RG.good hok r)
    have HCO := Lib.hid (fun (j : Nat) (hj : j < 16) (V : World) => partedOf_any G j hj V h64)
    have CRd := Lib.hid (fun (V : World) (hb : Below w.heap.size w V) (l c : Int) (D ρ : Nat) (hD : D ≤ 8) (hρ : ρ < 16) => scrRead_any B b H N V (h.below hb) hdn lv A lv.length cp rfl ((hv.keep hb.size fun p hp => hb.cell hp)) l c D ρ hD hρ)
    have GA := gat_new w G.l G.d G.c 25 (0, 0)
    have GT := gat_new (w.alloc (.cells #[.int .i64 G.l, .int .i64 G.d, .int .i64 G.c] 25)) G.l' G.d' G.c' 25 (0, 0)
    have hz : (w.alloc (.cells #[.int .i64 G.l, .int .i64 G.d, .int .i64 G.c] 25)).heap.size = w.heap.size + 1 := by simp
    rw [hz] at GT
    have GA2 := GA.below (below1 (w.alloc (.cells #[.int .i64 G.l, .int .i64 G.d, .int .i64 G.c] 25)) (.cells #[.int .i64 G.l', .int .i64 G.d', .int .i64 G.c'] 25)) (by simp)
    have HGA := Lib.hid GA2
    have HGT := Lib.hid GT
    have hs := h64.s
    clear h hv B2 h64 hok hdn GA GA2 GT hz
    go_enter Try.func28, Try.ntmps28
    go_wp2_with fail
    (with_reducible refine CP.out.mono ?_); rintro e w1 ⟨rfl, hb⟩
    have F := Lib.hid (HB2.out.trans (hb.mono HB2.out.size))
    have CD1 := Lib.hid (CD.out _ F.out)
    have GA1 := Lib.hid (HGA.out.below hb (by simp; omega))
    have GT1 := Lib.hid (HGT.out.below hb (by simp))
    have hz1 : w.heap.size + 2 ≤ w1.heap.size := by have := hb.size; simp at this; omega
    clear hb CD CP HGA HGT HB2
    go_wp2_with fail
    (with_reducible refine CD1.out.mono ?_); rintro e w2 ⟨rfl, rfl⟩
    clear CD1
    go_wp2_with fail
    go_loopw [10, 28] (fun v i wr => ∃ j : Nat, j ≤ 16 ∧ i = .int .i64 j ∧ OwI wr w2.heap.size v (scrTo N lv G j) ∧ Below w2.heap.size w2 wr) (fun _ i _ => 16 - (intOf i).toNat)
    case atStart => exact ⟨0, Nat.zero_le _, rfl, owi_nil _ _, Below.refl _ _⟩
    case round =>
      obtain ⟨j, hj, rfl, hown, hbr⟩ := hrel
      have HBr := Lib.hid hbr
      have Hown := Lib.hid hown
      clear hown
      by_cases hlt : j < 16
      · have i1 : (j : Int) < 16 := by omega
        obtain ⟨x0, x1, x2⟩ := GA1.out.below hbr (by omega)
        obtain ⟨y0, y1, y2⟩ := GT1.out.below hbr (by omega)
        have hzr := hbr.size
        have CO := HCO.out j hlt wr
        have Hgj := HGood.out j
        have Hsn := Lib.hid (scrTo_succ N lv G j)
        have hsl := scrTo_len N lv G j
        have HB := Lib.hid (show scB N lv G j = (scS N lv (G.D j).toNat && !roRight (G.L j) (G.D j) (G.C j) (j : Int) (ssL N lv (36 + j) (G.D j).toNat)) from rfl)
        obtain ⟨ks2, hks2⟩ : ∃ ks2, scrTo N lv G (j + 1) = ks2 := ⟨_, rfl⟩
        have HK2 := Lib.hid hks2
        rw [hks2] at Hsn
        clear hks2
        generalize scrTo N lv G j = ks at Hown Hsn hsl
        generalize scB N lv G j = bd at Hsn HB
        generalize G.L j = gl at CO Hgj HB
        generalize G.C j = gc at CO Hgj HB
        obtain ⟨gd, hgd⟩ : ∃ gd : Nat, G.D j = (gd : Int) := ⟨(G.D j).toNat, by have := gOk_bd Hgj; omega⟩
        rw [hgd, Int.toNat_natCast] at HB
        rw [hgd] at CO Hgj
        clear hgd
        have hgd8 := gOk_bd Hgj
        have Hgr := Lib.hid (gr_mk Hgj (show (0 : Int) ≤ (j : Int) by omega) i1)
        have CO := Lib.hid CO
        clear Hgj hbr
        go_wp2_with fail
        (with_reducible refine CO.out.mono ?_); rintro e w5 ⟨rfl, hb5⟩
        have hb6 := hb5.trans ((below1 w5 (.cells #[.int .i64 gl, .int .i64 (gd : Int), .int .i64 gc] 25)).mono hb5.size)
        have H6 := Lib.hid (HBr.out.trans (hb6.mono HBr.out.size))
        have O6 := Lib.hid (Hown.out.below hb6)
        have G6 := gat_new w5 gl (gd : Int) gc 25 (0, 0)
        have CR1 := Lib.hid (CRd.out _ (F.out.trans (H6.out.mono F.out.size)) gl gc gd j (by omega) hlt)
        have hz5 := hb5.size
        generalize hx : scS N lv gd = x at CR1 HB
        have hrl := ssL_len N lv (36 + j) gd
        generalize ssL N lv (36 + j) gd = rs at CR1 HB hrl
        clear hb5 hb6 x0 x1 x2 y0 y1 y2 CO HBr Hown hx
        obtain ⟨c0, c1, c2⟩ := G6
        cases x with
        | false =>
          have H2 := Lib.hid (show ks2 = ks by rw [Hsn.out, HB.out]; rfl)
          clear Hsn HB Hgr CRd
          go_wp2_with fail
          (with_reducible refine CR1.out.mono ?_); rintro e w7 ⟨v7, rfl, _, hb7⟩
          have H7 := Lib.hid (H6.out.trans (hb7.mono H6.out.size))
          have O7 := Lib.hid (O6.out.below hb7)
          clear hb7 CR1 O6 H6
          go_wp2_with fail
          go_roundw
          case rel => exact ⟨j + 1, by omega, by go_num, by rw [HK2.out, H2.out]; exact O7.out, H7.out⟩
          case measure => simp [intOf]; omega
        | true =>
          have H2 := Lib.hid (show bd = !roRight gl (gd : Int) gc (j : Int) rs by rw [HB.out]; rfl)
          clear HB CRd
          go_wp2_with fail
          (with_reducible refine CR1.out.mono ?_); rintro e w7 ⟨v7, rfl, hv7, hb7⟩
          obtain ⟨g7, rfl, hr7⟩ := hv7 rfl
          have H7 := Lib.hid (H6.out.trans (hb7.mono H6.out.size))
          have O7 := Lib.hid (O6.out.below hb7)
          obtain ⟨d0, d1, d2⟩ := GAt.below ⟨c0, c1, c2⟩ hb7 (by simp)
          have CX := Lib.hid (Hgr.out.right (cp := gd) hr7 hrl)
          clear hb7 CR1 O6 H6 hr7 hv7 hrl c0 c1 c2 Hgr
          cases hr : roRight gl (gd : Int) gc (j : Int) rs with
          | true =>
            rw [hr] at CX H2
            have H3 := Lib.hid (show ks2 = ks by rw [Hsn.out, H2.out]; rfl)
            clear Hsn H2 hr
            go_wp2_with fail
            (with_reducible refine CX.out.mono ?_); rintro e w8 ⟨rfl, hb8⟩
            have H8 := Lib.hid (H7.out.trans (hb8.mono H7.out.size))
            have O8 := Lib.hid (O7.out.below hb8)
            clear hb8 CX O7 H7 d0 d1 d2
            go_wp2_with fail
            go_roundw
            case rel => exact ⟨j + 1, by omega, by go_num, by rw [HK2.out, H3.out]; exact O8.out, H8.out⟩
            case measure => simp [intOf]; omega
          | false =>
            rw [hr] at CX H2
            have H3 := Lib.hid (show ks2 = ks ++ [j] by rw [Hsn.out, H2.out]; rfl)
            clear Hsn H2 hr
            go_wp2_with fail
            (with_reducible refine CX.out.mono ?_); rintro e w8 ⟨rfl, hb8⟩
            have H8 := Lib.hid (H7.out.trans (hb8.mono H7.out.size))
            have O8 := Lib.hid (O7.out.below hb8)
            have hs8 := H8.out.size
            clear hb8 CX O7 H7 d0 d1 d2
            go_wp2_with (at_builtin; refine wpList_append_V rfl _ _ _ rfl w2.heap.size 3 (.int .i64 0) 8 Try.underlying22 info_int rfl _ ks.length (ks.map iv) rfl (World.ownsRow.kept O8.out (grown_none (below1 w8 _)) (Classical.em _)) (w8.heap.size + 1) (some ⟨w8.heap.size, 0, none⟩) 1 1 [.int .i64 (j : Int)] rfl rfl (fun _ => ⟨w8.heap.size, 0, rfl, by omega, fun j hj => by obtain rfl : j = 0 := (by simp at hj; omega); exact cell_of_row _ _ _ _ _ _ (hp_new _ _ _ rfl)⟩) (fun u hu => by simp at hu; subst hu; rfl) (by unfold maxLen; omega) (by omega) (by simp; omega) ?_; intro v9 w9 hown9 hg9 hat9)
            have H9 := Lib.hid ((H8.out.alloc H8.out.size (.cells #[.int .i64 (j : Int)] 3)).grown hg9 (by simp; omega) (fun j hj => (O8.out.lt j hj).1))
            have O9 := Lib.hid (show OwI w9 w2.heap.size v9 ks2 by
              rw [H3.out]
              unfold OwI
              rw [List.length_append, List.map_append]
              exact hown9)
            clear hown9 hg9 hat9 H8 O8
            go_wp2_with fail
            go_roundw
            case rel => exact ⟨j + 1, by omega, by go_num, by rw [HK2.out]; exact O9.out, H9.out⟩
            case measure => simp [intOf]; omega
      · obtain rfl : j = 16 := by omega
        clear HBr
        go_wp2_with fail
        go_ret2
        exact ⟨_, by rw [HE.out]; rfl, by rw [HL.out]; exact Hown.out.le F.out.size, F.out.trans (hbr.mono F.out.size)⟩
end Go.Proofs.Ytadmofpipfdedaa
end
section
set_option linter.unusedVariables false
set_option linter.unusedSimpArgs false
namespace Go.Proofs.Ytadmofpipfdedaa

section
variable {G : RG} {k : Nat} {D : Dsk}
end
/-- A row as it stands. -/
def flR (G : RG) (rs : Nat → List (List UInt8)) (t : Nat) : List (List UInt8) := fillL (roD (G.D t)) (roF (G.L t) (G.D t) (G.C t) (t : Int)) (rs t)
section
variable {N : Bch} {lv : List Bool} {G : RG} {k : Nat} {rs : Nat → List (List UInt8)}
end
end Go.Proofs.Ytadmofpipfdedaa
end
section
set_option linter.unusedVariables false
set_option linter.unusedSimpArgs false
namespace Go.Proofs.Ytadmofpipfdedaa

section
variable {N : Bch} {lv : List Bool} {nn l c : Int} {t D F W : Nat} {rs : List (List UInt8)}
end
/-- Rows that may be, of each geometry. -/
def RowsOk (G : RG) (rs : Nat → List (List UInt8)) : Prop := ∀ t, t < 16 → (rs t).length = roW (G.L t) (G.D t) ∧ ∀ x ∈ rs t, x.length = 32
theorem rows_dat (G : RG) (zs : List Int) : RowsOk G (fun t => datL zs t (roW (G.L t) (G.D t))) := fun t _ => ⟨datL_len _ _ _, datL_mem⟩
section
variable {N : Bch} {lv : List Bool} {G : RG} {k : Nat} {rs : Nat → List (List UInt8)}
theorem flR_at {t D : Nat} (hD : G.D t = (D : Int)) : flR G rs t = fillL D (roF (G.L t) (D : Int) (G.C t) (t : Int)) (rs t) := by
  unfold flR
  rw [hD]
  unfold roD
  rw [Int.toNat_natCast]
/-- Zeros stand on a new bench. -/
def zerR (G : RG) (t : Nat) : List (List UInt8) := List.replicate (roW (G.L t) (G.D t)) (zeroL 32)
theorem rows_zer (G : RG) : RowsOk G (zerR G) := fun t _ => ⟨List.length_replicate .., rep_mem⟩
theorem zerR_fl (hG : G.ok = true) {t i : Nat} (ht : t < 16) (hi : (i : Int) < G.D t) : (flR G (zerR G) t).getD i [] = zeroL 32 := by
  obtain ⟨D, hD, gr⟩ := RG.gr hG ht
  rw [flR_at hD]
  unfold zerR
  rw [hD] at hi gr ⊢
  have e : roW (G.L t) (D : Int) = roW (G.L t) (D : Int) := rfl
  exact zeros_fill gr.hF gr.w1 (by rcases gr.lv with h | h <;> omega) (by omega)
end
end Go.Proofs.Ytadmofpipfdedaa
end
