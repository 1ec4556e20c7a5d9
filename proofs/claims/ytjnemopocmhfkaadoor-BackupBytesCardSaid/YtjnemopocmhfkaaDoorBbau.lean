/- Texts put together: KsKit, BakDisk, BakGet. -/
import Derived.Test.YtjnemopocmhfkaaDoorBbaq
import Derived.Test.YtjnemopocmhfkaaDoorBbas
import Derived.Test.YtjnemopocmhfkaaDoorBbai
import Derived.Test.YtjnemopocmhfkaaDoorBbar
import Derived.Test.YtjnemopocmhfkaaDoorBbae
import Derived.Test.YtjnemopocmhfkaaDoorBbaj
import Derived.Test.YtjnemopocmhfkaaDoorBbap
section
set_option maxRecDepth 20000
set_option linter.unusedVariables false
set_option linter.unusedSimpArgs false
namespace Go.Proofs.YtjnemopocmhfkaaDoor
open Go.RowKit

section
variable {W w w' : World} {b : Nat} {H : BH} {N : Bch} {K : List (Nat × Obj)} {R : List (Option Addr × List (List UInt8))} {S : List (Option Addr × List UInt8)}
/-- A block that was made since. -/
theorem KS.block (h : KS W w b H N K R S) (hb : Below w.heap.size w w') {g : Nat} {o : Obj} (hg : w'.heap[g]? = some o) (hw : w.heap.size ≤ g) : KS W w' b H N ((g, o) :: K) R S := by
  have h' := h.below hb
  refine ⟨⟨h'.bp, fun p hp => ?_⟩, h'.rx, h'.sx⟩
  rcases List.mem_cons.1 hp with rfl | hp
  · exact ⟨hg, fun e => by have := h.flt _ e; omega, by have := h.bp.bel.size; omega⟩
  · exact h'.kx.kp p hp
theorem KS.rdz (h : KS W w b H N K R S) {A : Option Addr} {zs : List Int} (hz : RdZ W W.heap.size A zs) : RdZ w w.heap.size A zs := (hz.below h.bp.bel (Nat.le_refl _)).keep h.bp.bel.size fun _ _ => rfl
theorem KS.owv (h : KS W w b H N K R S) (hb : Below w.heap.size w w') {v : Value} {rs : List (List UInt8)} (ho : OwV w.heap.size w' v rs) (hl : rs.length ≤ 1000000) : ∃ A c, v = .slice A rs.length c ∧ KS W w' b H N K ((A, rs) :: R) S := by
  obtain ⟨xs, h1, h2⟩ := ho
  obtain ⟨A, c, e, _, hr⟩ := rdf_own h1 (by omega) h2
  exact ⟨A, c, e, h.rows hb hr⟩
end
section
variable {W w : World} {b : Nat} {H : BH} {N : Bch} {K : List (Nat × Obj)} {R : List (Option Addr × List (List UInt8))} {S : List (Option Addr × List UInt8)} (h : KS W w b H N K R S)
include h
theorem ks_live (n : Int) (d : Nat) (hn : (-9223372036854775808 ≤ n ∧ n ≤ 9223372036854775807)) (hd : 1 ≤ d ∧ d ≤ 8) :
    Calls Tryd.prog 8 #[.int .i64 n, .int .i64 (d : Int)] w fun e w' => ∃ g, e = .returned (.slice (some ⟨g, 0, none⟩) d d) ∧ KS W w' b H N ((g, Obj.cells ((liveL n d).map Value.bool).toArray 4 (0, 0)) :: K) R S := by
  refine (live_any n d w hn hd).mono ?_
  rintro e w' ⟨g, rfl, hg, hw, hb⟩
  exact ⟨g, rfl, h.block hb hg hw⟩
theorem ks_sameR {A A' : Option Addr} {ra rb : List (List UInt8)} (n n' c c' : Nat) (hn : ra.length = n) (hn' : rb.length = n') (hr : (A, ra) ∈ R) (hr' : (A', rb) ∈ R) :
    Calls Tryd.prog 12 #[.slice A n c, .slice A' n' c'] w fun e w' => e = .returned (.bool (decide (ra = rb))) ∧ KS W w' b H N K R S := by
  refine (sameS_any A A' ra rb n n' c c' w hn hn' (h.rd hr) (h.rd hr')).mono ?_
  rintro e w' ⟨rfl, hb⟩
  exact ⟨rfl, h.below hb⟩
end
end Go.Proofs.YtjnemopocmhfkaaDoor
end
section
set_option maxRecDepth 20000
set_option linter.unusedVariables false
set_option linter.unusedSimpArgs false
namespace Go.Proofs.YtjnemopocmhfkaaDoor
open Go.RowKit

theorem make_rows8 (n : Nat) (hn : n ≤ 255) (w : World) :
    (Instr.makeSlice 31 (.int .u8 (n : Int)) (.int .u8 (n : Int))).run Tryd.prog w = .ok (.slice (some ⟨w.heap.size, 0, none⟩) n n) (w.alloc (.cells (madeCells #[.slice none 0 0] n) 48)) :=
  run_make_row' _ _ _ 24 Tryd.underlying31 info_row rfl _ _ n (by omega) (by omega) w
/-- What a disk tells. -/
def hitR (N : Bch) (e x d : Nat) : List (List UInt8) := if hitB N e x d = true then hitL N d else []
theorem hitR_no {N : Bch} {e x d : Nat} (h : hitB N e x d = false) : hitR N e x d = [] := if_neg (by rw [h]; decide)
theorem hitR_yes {N : Bch} {e x d : Nat} (h : hitB N e x d = true) : hitR N e x d = hitL N d := if_pos h
/-- As far as sector j. -/
def prtB (D : Dsk) (n j : Nat) : List (List UInt8) := (List.range n).map fun k => if k < j then secAt D.now (7 + k) else []
theorem prtB_zero (D : Dsk) (n : Nat) : prtB D n 0 = List.replicate n [] := by
  apply List.ext_getElem (by simp [prtB])
  intro i h1 h2
  simp [prtB]
theorem prtB_all (D : Dsk) (n : Nat) : prtB D n n = bkG D n := by
  apply List.ext_getElem (by simp [prtB, bkG])
  intro i h1 h2
  have : i < n := by simpa [prtB] using h1
  simp [prtB, bkG, this]
theorem prtB_succ {D : Dsk} {n j : Nat} (hj : j < n) : (prtB D n j).set j (secAt D.now (7 + j)) = prtB D n (j + 1) := by
  apply List.ext_getElem (by simp [prtB])
  intro i h1 h2
  have hi : i < n := by simpa [prtB] using h2
  rw [List.getElem_set]
  by_cases e : j = i
  · subst e; simp [prtB]
  · rw [if_neg e]
    simp only [prtB, List.getElem_map, List.getElem_range]
    by_cases q : i < j
    · rw [if_pos q, if_pos (by omega)]
    · rw [if_neg q, if_neg (by omega)]
theorem goneB_read {N : Bch} {d : Nat} (hd : d < N.n) (h : goneB N d = true) (k : Int) : ∃ E, N.readE (d : Int) k = E ∧ (E != 0) = true := by
  have hpk : N.pickE (d : Int) = 0 := Bch.pickE_ok (by omega) (by omega)
  cases hdn : N.down with
  | true => exact ⟨6, by rw [(Bch.readE_pow k (by rw [Bch.powE_down hpk hdn]; decide)).1, Bch.powE_down hpk hdn], rfl⟩
  | false =>
    have hf : (N.D d).f = true := by unfold goneB at h; rw [hdn] at h; simpa using h
    exact ⟨5, by rw [(Bch.readE_dsk k (Bch.powE_ok hpk hdn)).1, show (N.at_ (d : Int)).f = true from hf]; exact reachE_fail _, rfl⟩
theorem goneB_not {N : Bch} {d : Nat} (h : goneB N d = false) : N.down = false ∧ (N.D d).f = false := by
  unfold goneB at h; simpa using h
set_option maxHeartbeats 4000000 in
theorem bkOnDisk_any (B b : Nat) (H : BH) (N : Bch) (w : World) (h : BAt w B b H N) (d : Nat) (hd : d < N.n) (e x : Nat) (he : e < 65536) (hx : x ≤ 16) (ht : TabOk w) :
    Calls Tryd.prog 35 #[.pointer (some ⟨b, 0, none⟩), .int .i64 (d : Int), .int .i64 (e : Int), .int .i64 (x : Int)] w fun r w' => ∃ v, r = .returned (.tuple #[v, .bool (hitB N e x d)]) ∧ OwV w.heap.size w' v (hitR N e x d) ∧ Below w.heap.size w w' := by
  have Ht := Lib.hid ht
  have hn8 := h.ok.n
  have CR := Lib.hid (fun W (hb : Below w.heap.size w W) (k : Nat) (hk : k < 52) => bch_read_any B b H N W (h.below hb) (d : Int) (k : Int) ⟨by omega, by omega⟩ ⟨by omega, by omega⟩)
  have HLn : Hid (∀ k, k < 52 → (secAt (N.D d).now k).length = 32) := fun k hk => secAt_len (by rw [(h.dsk d hd).ok.now]; omega)
  have hnil : ∀ V : World, OwV w.heap.size V (.slice none 0 0) [] := fun V => ⟨[], World.ownsRow_nil _ _ _ _, RowsY.nil _ _ _⟩
  clear h ht
  unfold ptr at CR
  cases hg : goneB N d with
  | true =>
    have HE := Lib.hid (show hitB N e x d = false by unfold hitB; rw [hg]; rfl)
    have C0 := CR.out w (Below.refl _ _) 6 (by omega)
    obtain ⟨E, hE, hne⟩ := goneB_read hd hg ((6 : Nat) : Int)
    rw [hE] at C0
    have C0 := Lib.hid C0
    clear CR hE hg
    go_enter Tryd.func35, Tryd.ntmps35
    go_wp2_with fail
    refine C0.out.mono ?_
    rintro e w1 ⟨v, rfl, _, hb1⟩
    go_wp2
    go_ret2
    exact ⟨.slice none 0 0, by rw [HE.out]; rfl, by rw [hitR_no HE.out]; exact hnil _, hb1⟩
  | false =>
    obtain ⟨hdn, hf⟩ := goneB_not hg
    have CR := Lib.hid (fun W (hb : Below w.heap.size w W) (k : Nat) (hk : k < 52) => by
      have h := CR.out W hb k hk
      rw [(Bch.read_ok (N := N) (d := d) (k := k) hd hk hf hdn).1, (Bch.read_ok (N := N) (d := d) (k := k) hd hk hf hdn).2] at h
      exact h)
    have HE : Hid (hitB N e x d = (decide (bkN (N.D d) ≤ 28) && (secAt (N.D d).now 6 == bkB e x (bkG (N.D d) (bkN (N.D d)))))) := by show _ = _; unfold hitB; rw [hg]; rfl
    have HG : Hid (hitL N d = bkG (N.D d) (bkN (N.D d))) := rfl
    generalize N.D d = D at CR HLn HE HG
    clear hdn hf hg
    have hcell7 : bkN D = ((secAt D.now 6).getD 7 0).toNat := rfl
    have H7 := Lib.hid hcell7
    clear hcell7
    go_enter Tryd.func35, Tryd.ntmps35
    go_wp2_with fail
    refine (CR.out w (Below.refl _ _) 6 (by omega)).mono ?_
    rintro e w1 ⟨v, rfl, ho, hb1⟩
    obtain ⟨g1, cp1, rfl, hg1, hgl, hcp, _, hr1⟩ := ho.pos (by rw [HLn.out 6 (by omega)]; omega)
    rw [HLn.out 6 (by omega)] at hcp ho ⊢
    have Ho := Lib.hid ho
    obtain ⟨q7, _⟩ := ho.cell (HLn.out 6 (by omega)) 7 (by omega)
    rw [← H7.out] at q7
    have hn256 : bkN D < 256 := by have := ((secAt D.now 6).getD 7 0).toNat_lt; rw [H7.out]; omega
    have HB1 := Lib.hid hb1
    have L6 := Lib.hid (HLn.out 6 (by omega))
    clear ho hr1 hb1 H7
    generalize secAt D.now 6 = first at HE Ho L6
    obtain ⟨n, hn⟩ : ∃ n, bkN D = n := ⟨_, rfl⟩
    rw [hn] at q7 hn256 HE HG
    by_cases h28 : n ≤ 28
    · have i1 : ¬ (28 : Int) < (n : Int) := by omega
      rw [decide_eq_true h28, Bool.true_and] at HE
      have R0 := rq_new w1 n (by omega)
      rw [← prtB_zero D n] at R0
      have hmk := make_rows8 n (by omega)
      have hz1 := HB1.out.size
      have HF0 := Lib.hid (Ho.out.below (below1 w1 (.cells (madeCells #[.slice none 0 0] n) 48)))
      have HB0 := Lib.hid (HB1.out.alloc hz1 (.cells (madeCells #[.slice none 0 0] n) 48))
      generalize hW0 : w1.alloc (.cells (madeCells #[.slice none 0 0] n) 48) = W0 at R0 HF0 HB0
      have R0 := Lib.hid R0
      have Hgl := Lib.hid hgl
      clear hn Ho
      go_wp2
      clear hmk hW0 q7
      go_loopw [35] (fun i wr => ∃ (j : Nat) (xs : List Value), j ≤ n ∧ i = .int .i64 j ∧ Rq w1.heap.size wr w1.heap.size n n xs (prtB D n j) ∧ OwB 5 wr w.heap.size (.slice (some ⟨g1, 0, none⟩) 32 cp1) first ∧ Below w.heap.size w wr) (fun i _ => n - (intOf i).toNat)
      case atStart => exact ⟨0, _, Nat.zero_le _, rfl, R0.out, HF0.out, HB0.out⟩
      case round =>
        obtain ⟨j, xs, hj, rfl, hrq, hfi, hbr⟩ := hrel
        have Hrq := Lib.hid hrq
        have Hfi := Lib.hid hfi
        have Hbr := Lib.hid hbr
        clear hrq hfi hbr R0 HF0 HB0
        by_cases hlt : j < n
        · have i2 : (0 : Int) ≤ (j : Int) := by omega
          have i3 : (j : Int) < (n : Int) := by omega
          have w7 : IntKind.i64.wrap (7 + (j : Int)) = ((7 + j : Nat) : Int) := by rw [IntKind.wrap_i64]; omega
          have CRj := Lib.hid (CR.out wr Hbr.out (7 + j) (by omega))
          have hl32 := HLn.out (7 + j) (by omega)
          have Hsu := Lib.hid (prtB_succ (D := D) hlt)
          go_wp2_with fail
          refine CRj.out.mono ?_
          rintro e w2 ⟨v, rfl, ho2, hb2⟩
          obtain ⟨S, gr2⟩ := Hrq.out.step hb2 j hlt ho2
          rw [Hsu.out] at S
          obtain ⟨g2, cp2, rfl, hg2, _, hcp2, _, _⟩ := ho2.pos (by rw [hl32]; omega)
          rw [hl32] at hcp2 S gr2 ⊢
          obtain ⟨A0, c0, _, q0, _⟩ := (Hrq.out.below hb2).at j hlt
          have f0 := (Hrq.out.below hb2).fz j
          have HS := Lib.hid S
          have HFi := Lib.hid ((Hfi.out.below hb2).grown gr2 (.inr (fun q => absurd (Option.some.inj q : g1 = w1.heap.size) (by have := Hgl.out; omega))))
          have HBr := Lib.hid ((Hbr.out.trans (hb2.mono Hbr.out.size)).grown gr2 (Nat.le_trans Hbr.out.size hb2.size) (fun k q => by injection q with q; have := HB1.out.size; omega))
          clear ho2 hb2 S gr2 CRj hl32 hg2 Hsu Hrq Hfi Hbr
          generalize (prtB D n j).getD j [] = y at q0
          go_wp2
          go_roundw
          case rel => exact ⟨j + 1, _, by omega, by go_num, HS.out, HFi.out, HBr.out⟩
          case measure => simp [intOf]; omega
        · obtain rfl : j = n := by omega
          rw [prtB_all] at Hrq
          have CH := Lib.hid (bkHead_any (some ⟨w1.heap.size, 0, none⟩) j j e x (bkG D j) wr (bkG_len D j) he hx h28 (Hrq.out.rdr (by omega)) (Ht.out.below Hbr.out Ht.out.pos))
          have HR := Lib.hid (show OwV w.heap.size wr (.slice (some ⟨w1.heap.size, 0, none⟩) j j) (bkG D j) from ⟨xs, by rw [bkG_len]; exact (Hrq.out.le HB1.out.size).row, (Hrq.out.le HB1.out.size).rowsY⟩)
          clear hj hlt CR Hrq
          go_wp2_with fail
          (with_reducible refine CH.out.mono ?_); rintro e' w2 ⟨g3, rfl, ho3, hb3⟩
          have CE := Lib.hid (bytesEqual_any (some ⟨g1, 0, none⟩) (some ⟨g3, 0, none⟩) 32 32 cp1 32 _ _ first (bkB e x (bkG D j)) w2 L6.out.symm (bkB_len _ _ _).symm (Hfi.out.below hb3).rdS.1 ho3.rdS.1)
          have HR2 := Lib.hid (HR.out.below hb3)
          have HB2 := Lib.hid (Hbr.out.trans (hb3.mono Hbr.out.size))
          clear ho3 hb3 CH Hfi HR
          rw [← HE.out] at CE
          cases hh : hitB N e x d with
          | false =>
            have HN := Lib.hid (hitR_no hh)
            rw [hh] at CE
            have Hq := Lib.hid hh
            clear hh HE
            go_wp2_with (go_at_call 47; (with_reducible refine CE.out.mono ?_); rintro e2 w3 ⟨rfl, rfl⟩)
            go_ret2
            exact ⟨.slice none 0 0, by rw [Hq.out]; rfl, by rw [HN.out]; exact hnil _, HB2.out⟩
          | true =>
            have HN := Lib.hid (hitR_yes hh)
            rw [hh] at CE
            have Hq := Lib.hid hh
            clear hh HE
            go_wp2_with (go_at_call 47; (with_reducible refine CE.out.mono ?_); rintro e2 w3 ⟨rfl, rfl⟩)
            go_ret2
            exact ⟨.slice (some ⟨w1.heap.size, 0, none⟩) j j, by rw [Hq.out]; rfl, by rw [HN.out, HG.out]; exact HR2.out, HB2.out⟩
    · have i1 : (28 : Int) < (n : Int) := by omega
      rw [decide_eq_false h28, Bool.false_and] at HE
      clear h28
      go_wp2
      go_ret2
      exact ⟨.slice none 0 0, by rw [HE.out]; rfl, by rw [hitR_no HE.out]; exact hnil _, HB1.out⟩
end Go.Proofs.YtjnemopocmhfkaaDoor
end
section
set_option maxRecDepth 20000
set_option linter.unusedVariables false
set_option linter.unusedSimpArgs false
namespace Go.Proofs.YtjnemopocmhfkaaDoor
open Go.RowKit

theorem gotB_may {N : Bch} {lv : List Bool} {e x : Int} (h : bkMay e x = false) : gotB N lv e x = false ∧ gotL N lv e x = [] := by
  unfold gotB gotL
  rw [h, if_neg (by decide)]; exact ⟨rfl, rfl⟩
theorem gotB_nat {N : Bch} {lv : List Bool} {e x : Nat} (h : bkMay (e : Int) (x : Int) = true) : gotB N lv (e : Int) (x : Int) = getB N lv e x N.n ∧ gotL N lv (e : Int) (x : Int) = getL N lv e x N.n := by
  unfold gotB gotL
  rw [h, if_pos rfl]; exact ⟨rfl, rfl⟩
theorem getB_no {N : Bch} {lv : List Bool} {e x j : Nat} (h : getB N lv e x j = false) (h2 : (lv.getD j false && hitB N e x j) = false) : getB N lv e x (j + 1) = false := by rw [getB, h, h2]; rfl
theorem getB_yes {N : Bch} {lv : List Bool} {e x j : Nat} (h : getB N lv e x j = false) (h2 : lv.getD j false = true) (h3 : hitB N e x j = true) (hj : j < N.n) : getB N lv e x N.n = true ∧ getL N lv e x N.n = hitR N e x j := by
  have h4 : getB N lv e x (j + 1) = true := by rw [getB, h2, h3, Bool.and_self, Bool.or_true]
  obtain ⟨a, b⟩ := getB_mono h4 N.n (by omega)
  refine ⟨a, b.trans ?_⟩
  rw [getL, if_neg (by rw [h]; decide), if_pos (by rw [h2, h3]; rfl), hitR_yes h3]
set_option maxHeartbeats 4000000 in
theorem bkGet_any (B b : Nat) (H : BH) (N : Bch) (w : World) (h : BAt w B b H N) (lv : List Bool) (A : Option Addr) (n c : Nat) (hn : n = lv.length) (hv : RdO w w.heap.size A lv) (e x : Int) (he : (-9223372036854775808 ≤ e ∧ e ≤ 9223372036854775807)) (hx : (-9223372036854775808 ≤ x ∧ x ≤ 9223372036854775807)) (ht : TabOk w) :
    Calls Tryd.prog 11 #[.pointer (some ⟨b, 0, none⟩), .slice A n c, .int .i64 e, .int .i64 x] w fun r w' => ∃ v, r = .returned (.tuple #[v, .bool (gotB N lv e x)]) ∧ OwV w.heap.size w' v (gotL N lv e x) ∧ Below w.heap.size w w' := by
  subst hn
  have CM := Lib.hid (fun V => bkMay_any e x V)
  have hnil : ∀ V : World, OwV w.heap.size V (.slice none 0 0) [] := fun V => ⟨[], World.ownsRow_nil _ _ _ _, RowsY.nil _ _ _⟩
  cases hk : bkMay e x with
  | false =>
    have HS := Lib.hid (gotB_may (N := N) (lv := lv) hk)
    rw [hk] at CM
    clear h hv ht hk
    go_enter Tryd.func11, Tryd.ntmps11
    go_wp2_with (go_at_call 23; (with_reducible refine (CM.out _).mono ?_); rintro e w1 ⟨rfl, rfl⟩)
    go_ret2
    exact ⟨.slice none 0 0, by rw [HS.out.1]; rfl, by rw [HS.out.2]; exact hnil _, Below.refl _ _⟩
  | true =>
    rw [hk] at CM
    obtain ⟨h0, h1, h2, h3⟩ := (bkMay_iff e x).1 hk
    obtain ⟨en, rfl⟩ : ∃ k : Nat, e = (k : Int) := ⟨e.toNat, by omega⟩
    obtain ⟨xn, rfl⟩ : ∃ k : Nat, x = (k : Int) := ⟨x.toNat, by omega⟩
    have HS := Lib.hid (gotB_nat (N := N) (lv := lv) hk)
    have Ht := Lib.hid ht
    have hn8 := h.ok.n
    have CL := Lib.hid (bch_len_any B b H N w h)
    unfold ptr at CL
    have CI := Lib.hid (fun V (hb : Below w.heap.size w V) (j : Nat) (hj : j ≤ 1000000) => alvIs_any B b H N V (h.below hb) lv A lv.length c rfl (hv.keep hb.size (fun p hp => hb.cell hp)) (j : Int) (by omega) (by omega))
    have CD := Lib.hid (fun V (hb : Below w.heap.size w V) (j : Nat) (hj : j < N.n) => bkOnDisk_any B b H N V (h.below hb) j hj en xn (by omega) (by omega) (Ht.out.below hb Ht.out.pos))
    clear h hv ht hk h0 h1 h2 h3 he hx
    obtain ⟨n0, hn0⟩ : ∃ n0, N.n = n0 := ⟨_, rfl⟩
    rw [hn0] at CL hn8 HS CD
    have Hn0 := Lib.hid hn0
    clear hn0
    go_enter Tryd.func11, Tryd.ntmps11
    go_wp2_with (first
      | (go_at_call 23; (with_reducible refine (CM.out _).mono ?_); rintro e w1 ⟨rfl, rfl⟩)
      | (go_at_call 33; (with_reducible refine CL.out.mono ?_); rintro e w1 ⟨rfl, rfl⟩))
    go_loopw [19] (fun i wr => ∃ j : Nat, j ≤ n0 ∧ i = .int .i64 j ∧ getB N lv en xn j = false ∧ Below w1.heap.size w1 wr) (fun i _ => n0 - (intOf i).toNat)
    case atStart => exact ⟨0, Nat.zero_le _, rfl, rfl, Below.refl _ _⟩
    case round =>
      obtain ⟨j, hj, rfl, hno, hbr⟩ := hrel
      have Hno := Lib.hid hno
      have Hbr := Lib.hid hbr
      clear hno hbr
      by_cases hlt : j < n0
      · have i0 : (0 : Int) ≤ (j : Int) := by omega
        have i1 : (j : Int) < (n0 : Int) := by omega
        have CI1 := Lib.hid (CI.out wr Hbr.out j (by omega))
        have HLv := Lib.hid (show alvD N.n lv (j : Int) = lv.getD j false by rw [alvD_nat, Hn0.out, decide_eq_true hlt]; rfl)
        rw [HLv.out] at CI1
        cases hb : lv.getD j false with
        | false =>
          rw [hb] at CI1
          have HN := Lib.hid (getB_no Hno.out (by rw [hb]; rfl))
          clear hb CI CD HLv
          go_wp2_with (go_at_call 34; (with_reducible refine CI1.out.mono ?_); rintro e w2 ⟨rfl, h2⟩; obtain rfl : wr = w2 := h2.symm)
          go_roundw
          case rel => exact ⟨j + 1, by omega, by go_num, HN.out, Hbr.out⟩
          case measure => simp [intOf]; omega
        | true =>
          rw [hb] at CI1
          have CD1 := Lib.hid (CD.out wr Hbr.out j hlt)
          cases hh : hitB N en xn j with
          | false =>
            have HN := Lib.hid (getB_no Hno.out (by rw [hb, hh]; rfl))
            rw [hh] at CD1
            clear hb CI CD HLv hh
            go_wp2_with (first
              | (go_at_call 34; (with_reducible refine CI1.out.mono ?_); rintro e w2 ⟨rfl, h2⟩; obtain rfl : wr = w2 := h2.symm)
              | (go_at_call 35; (with_reducible refine CD1.out.mono ?_); rintro e w3 ⟨v, rfl, _, hb3⟩; have HB3 := Lib.hid (Hbr.out.trans (hb3.mono Hbr.out.size)); clear hb3))
            go_roundw
            case rel => exact ⟨j + 1, by omega, by go_num, HN.out, HB3.out⟩
            case measure => simp [intOf]; omega
          | true =>
            have HY := Lib.hid (getB_yes Hno.out hb hh (by rw [Hn0.out]; exact hlt))
            rw [hh] at CD1
            clear hb CI CD HLv hh
            go_wp2_with (first
              | (go_at_call 34; (with_reducible refine CI1.out.mono ?_); rintro e w2 ⟨rfl, h2⟩; obtain rfl : wr = w2 := h2.symm)
              | (go_at_call 35; (with_reducible refine CD1.out.mono ?_); rintro e w3 ⟨v, rfl, ho3, hb3⟩; have HB3 := Lib.hid (Hbr.out.trans (hb3.mono Hbr.out.size)); have HO3 := Lib.hid (ho3.le Hbr.out.size); clear hb3 ho3))
            go_ret2
            rw [Hn0.out] at HY
            exact ⟨v, by rw [HS.out.1, HY.out.1]; rfl, by rw [HS.out.2, HY.out.2]; exact HO3.out, HB3.out⟩
      · obtain rfl : j = n0 := by omega
        go_wp2
        go_ret2
        exact ⟨.slice none 0 0, by rw [HS.out.1, Hno.out]; rfl, by rw [HS.out.2, getL_none Hno.out]; exact hnil _, Hbr.out⟩
end Go.Proofs.YtjnemopocmhfkaaDoor
end
