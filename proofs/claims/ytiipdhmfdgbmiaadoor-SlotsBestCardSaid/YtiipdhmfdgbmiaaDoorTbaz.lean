/- Texts put together: SlotOn, SlotBst, SlotStore. -/
import Derived.Test.YtiipdhmfdgbmiaaDoorTbaw
import Derived.Test.YtiipdhmfdgbmiaaDoorTbas
import Derived.Test.YtiipdhmfdgbmiaaDoorTbax
import Derived.Test.YtiipdhmfdgbmiaaDoorTbav
import Derived.Test.YtiipdhmfdgbmiaaDoorTbaa
import Derived.Test.YtiipdhmfdgbmiaaDoorTbam
import Derived.Test.YtiipdhmfdgbmiaaDoorTbai
section
set_option maxRecDepth 8000
set_option linter.unusedVariables false
set_option linter.unusedSimpArgs false
namespace Go.Proofs.YtiipdhmfdgbmiaaDoor
open Go.RowKit

theorem slot_any (g : Int) (w : World) (hg : 0 ≤ g ∧ g ≤ 2147483647) : Calls Tryd.prog 31 #[.int .i64 g] w fun e w' => e = .returned (.int .i64 (slotI g : Int)) ∧ w' = w := by
  have ht : g.tmod 2 = g % 2 := Int.tmod_eq_emod_of_nonneg hg.1
  have Ht := Lib.hid ht
  by_cases h0 : g % 2 = 0
  · have HS := Lib.hid (show slotI g = 0 from if_pos h0)
    rw [h0] at ht
    clear h0
    go_enter Tryd.func31, Tryd.ntmps31
    go_wp2
    go_ret
    exact ⟨by rw [HS.out]; rfl, rfl⟩
  · have h1 : g % 2 = 1 := by omega
    have HS := Lib.hid (show slotI g = 1 from if_neg h0)
    rw [h1] at ht
    clear h0 h1
    go_enter Tryd.func31, Tryd.ntmps31
    go_wp2
    go_ret
    exact ⟨by rw [HS.out]; rfl, rfl⟩
theorem wr1_any (W w : World) (b : Nat) (H : BH) (N : Bch) (h : BP W w b H N) (p3 p9 p7 g k : Nat) (x : List UInt8) (d : Nat) (hk : k < 52) (hd : d ≤ 2000000) (hx : x.length = 32)
    (c3 : w.cell? ⟨p3, 0, none⟩ = some (.pointer (some ⟨b, 0, none⟩))) (c9 : w.cell? ⟨p9, 0, none⟩ = some (.int .i64 (k : Int))) (c7 : w.cell? ⟨p7, 0, none⟩ = some (.slice (some ⟨g, 0, none⟩) 32 32)) (hr : RdB w w.heap.size (some ⟨g, 0, none⟩) x)
    (hps : ∀ i, i < N.n → (N.D i).ps.length ≤ 2000000) (hdn : N.done ≤ 2000000) :
    Calls Tryd.prog 33 #[.int .i64 (d : Int), .pointer (some ⟨p3, 0, none⟩), .pointer (some ⟨p9, 0, none⟩), .pointer (some ⟨p7, 0, none⟩)] w fun e w' => e = .returned (.int .i64 (wrF k x N d).1) ∧ BC W w w' b H N.n (wrF k x N d).2 := by
  have CW := Lib.hid (bp_write W w b H N h (d : Int) (k : Int) x (some ⟨g, 0, none⟩) 32 32 hx.symm (i64n hd) ⟨by omega, by omega⟩ hr hps hdn)
  have HE : Hid ((wrF k x N d).1 = N.writeE (d : Int) (k : Int) 32) := by show _ = _; unfold wrF; rw [hx]
  have HN : Hid ((wrF k x N d).2 = N.write (d : Int) (k : Int) x) := rfl
  clear h hps hdn hr hx
  go_enter Tryd.func33, Tryd.ntmps33
  go_wp2_with fail
  refine CW.out.mono ?_
  rintro e w1 ⟨rfl, ht⟩
  go_wp2
  go_ret
  exact ⟨by rw [HE.out]; rfl, by rw [HN.out]; exact ht⟩
set_option maxHeartbeats 4000000 in
theorem eachWr_any (W w : World) (b : Nat) (H : BH) (N : Bch) (h : BP W w b H N) (p3 p9 p7 g k : Nat) (x : List UInt8) (hk : k < 52) (hx : x.length = 32)
    (c3 : w.cell? ⟨p3, 0, none⟩ = some (.pointer (some ⟨b, 0, none⟩))) (c9 : w.cell? ⟨p9, 0, none⟩ = some (.int .i64 (k : Int))) (c7 : w.cell? ⟨p7, 0, none⟩ = some (.slice (some ⟨g, 0, none⟩) 32 32)) (hr : RdB w w.heap.size (some ⟨g, 0, none⟩) x)
    (o3 : ¬ BF b H N.n p3) (o9 : ¬ BF b H N.n p9) (o7 : ¬ BF b H N.n p7) (og : ¬ BF b H N.n g) (lv : List Bool) (A : Option Addr) (m cp : Nat) (hm : m = lv.length) (hv : RdOX (BF b H N.n) w A lv) (hps : ∀ i, i < N.n → (N.D i).ps.length ≤ 1999990) (hdn : N.done ≤ 1999990) :
    Calls Tryd.prog 32 #[.pointer (some ⟨b, 0, none⟩), .slice A m cp, .func (.func 33) #[] #[.pointer (some ⟨p3, 0, none⟩), .pointer (some ⟨p9, 0, none⟩), .pointer (some ⟨p7, 0, none⟩)]] w fun e w' => e = .returned (.int .i64 (onTo (wrF k x) lv N N.n).1) ∧ BC W w w' b H N.n (onTo (wrF k x) lv N N.n).2 := by
  subst hm
  have Hh := Lib.hid h
  have hn8 := h.at'.ok.n
  have CL := Lib.hid (bp_len W w b H N h)
  have Hv := Lib.hid hv
  have Hp := Lib.hid hps
  have Hd := Lib.hid hdn
  have KF : Hid (∀ wr, Chg (BF b H N.n) w wr → (wr.cell? ⟨p3, 0, none⟩ = some (.pointer (some ⟨b, 0, none⟩)) ∧ wr.cell? ⟨p9, 0, none⟩ = some (.int .i64 (k : Int)) ∧ wr.cell? ⟨p7, 0, none⟩ = some (.slice (some ⟨g, 0, none⟩) 32 32)) ∧ RdB wr wr.heap.size (some ⟨g, 0, none⟩) x) := fun wr hc =>
    ⟨⟨cell_chg c3 hc o3, cell_chg c9 hc o9, cell_chg c7 hc o7⟩, hr.chg hc og⟩
  obtain ⟨rr, hrr⟩ : ∃ rr, onTo (wrF k x) lv N N.n = rr := ⟨_, rfl⟩
  rw [hrr]
  have Hall := Lib.hid hrr.symm
  clear hrr
  have CV := Lib.hid (fun (W1 : World) (H1 : BH) (N1 : Bch) (hp : BP W W1 b H1 N1) (hv1 : RdOX (BF b H1 N.n) W1 A lv) (j : Nat) (hj : j ≤ 1000000) => alvIs_any W.heap.size b H1 N1 W1 hp.at' lv A lv.length cp rfl hv1.rdo (j : Int) (by omega) (by omega))
  clear h hv hps hdn c3 c9 c7 hr o3 o9 o7 og
  obtain ⟨n0, hn0⟩ : ∃ n0, N.n = n0 := ⟨_, rfl⟩
  rw [hn0] at CL Hall hn8
  have Hn0 := Lib.hid hn0
  clear hn0
  go_enter Tryd.func32, Tryd.ntmps32
  go_wp2_with fail
  (with_reducible refine CL.out.mono ?_); rintro e w1 ⟨rfl, rfl⟩
  go_wp2
  go_loopw [11] (fun i wr => ∃ j : Nat, j ≤ n0 ∧ i = .int .i64 j ∧ (onTo (wrF k x) lv N j).1 = 0 ∧ BC W w1 wr b H N.n (onTo (wrF k x) lv N j).2) (fun i _ => n0 - (intOf i).toNat)
  case atStart => exact ⟨0, Nat.zero_le _, rfl, rfl, Hh.out.self⟩
  case round =>
    obtain ⟨j, hj, rfl, hz, hbc⟩ := hrel
    have Hz := Lib.hid hz
    have Hbc := Lib.hid hbc
    obtain ⟨Hj, aj, cj, nj⟩ := hbc
    have Haj := Lib.hid aj
    have Hcj := Lib.hid cj
    have Hnj := Lib.hid nj
    clear hz aj cj nj
    by_cases hlt : j < n0
    · have i0 : (0 : Int) ≤ (j : Int) := by omega
      have i1 : (j : Int) < (n0 : Int) := by omega
      have Hnn : Hid ((onTo (wrF k x) lv N j).2.n = N.n) := wrote_n j
      have CL1 := Lib.hid (CV.out wr Hj _ Haj.out (Hv.out.chg Hcj.out (bnew_weak Hnj.out)) j (by omega))
      have HLv := Lib.hid (show alvD (onTo (wrF k x) lv N j).2.n lv (j : Int) = lv.getD j false by rw [alvD_nat, Hnn.out, Hn0.out, decide_eq_true hlt]; rfl)
      rw [HLv.out] at CL1
      cases hb : lv.getD j false with
      | false =>
        rw [hb] at CL1
        have HS := Lib.hid (onTo_skip Hz.out hb)
        clear hb CL CV HLv
        go_wp2_with (go_at_call 62; (with_reducible refine CL1.out.mono ?_); rintro e w2 ⟨rfl, h2⟩; obtain rfl : wr = w2 := h2.symm)
        go_roundw
        case rel => exact ⟨j + 1, by omega, by go_num, by rw [HS.out]; exact Hz.out, by rw [HS.out]; exact Hbc.out⟩
        case measure => simp [intOf]; omega
      | true =>
        rw [hb] at CL1
        have Hlen : Hid (∀ i, i < N.n → ((onTo (wrF k x) lv N j).2.D i).ps.length ≤ 2000000) := fun i hi => by have h1 := Hp.out i hi; have h2 := wrote_len (at' := k) (x := x) (lv := lv) (N := N) i j; omega
        have Hdone : Hid ((onTo (wrF k x) lv N j).2.done ≤ 2000000) := by show _ ≤ _; have h1 := Hd.out; have h2 := wrote_done (at' := k) (x := x) (lv := lv) (N := N) j; omega
        obtain ⟨⟨d3, d9, d7⟩, hrj⟩ := KF.out wr Hcj.out
        have CF := Lib.hid (wr1_any W wr b Hj _ Haj.out p3 p9 p7 g k x j hk (by omega) hx d3 d9 d7 hrj (fun i hi => Hlen.out i (by rw [Hnn.out] at hi; exact hi)) Hdone.out)
        clear d3 d9 d7 hrj
        have HX : Hid (∀ w2, BC W wr w2 b Hj (onTo (wrF k x) lv N j).2.n ((wrF k x) (onTo (wrF k x) lv N j).2 j).2 → BC W w1 w2 b H N.n ((wrF k x) (onTo (wrF k x) lv N j).2 j).2) := fun w2 h2 => by
          rw [Hnn.out] at h2
          exact h2.seq Hcj.out Hnj.out
        have HG := Lib.hid (fun hq => onTo_goes (f := (wrF k x)) Hz.out hb hq)
        have HP := Lib.hid (fun hq => onTo_pass (f := (wrF k x)) Hz.out hb hq)
        clear hb CL CV HLv
        generalize (wrF k x) (onTo (wrF k x) lv N j).2 j = r at CF HX HG HP
        obtain ⟨e, Nx⟩ := r
        by_cases h5 : e = 5
        · have HP := Lib.hid (HP.out h5)
          clear HG
          rw [h5] at CF
          clear h5
          go_wp2_with (first | (go_at_call 62; (with_reducible refine CL1.out.mono ?_); rintro e w2 ⟨rfl, h2⟩; obtain rfl : wr = w2 := h2.symm) | (go_at_call 33; (with_reducible refine CF.out.mono ?_); rintro e w3 ⟨rfl, ht⟩; have Ht := Lib.hid (HX.out _ ht); clear ht))
          go_roundw
          case rel => exact ⟨j + 1, by omega, by go_num, by rw [HP.out], by rw [HP.out]; exact Ht.out⟩
          case measure => simp [intOf]; omega
        · have HG := Lib.hid (HG.out h5)
          clear HP
          by_cases h0 : e = 0
          · rw [h0] at CF HG
            clear h5 h0
            go_wp2_with (first | (go_at_call 62; (with_reducible refine CL1.out.mono ?_); rintro e w2 ⟨rfl, h2⟩; obtain rfl : wr = w2 := h2.symm) | (go_at_call 33; (with_reducible refine CF.out.mono ?_); rintro e w3 ⟨rfl, ht⟩; have Ht := Lib.hid (HX.out _ ht); clear ht))
            go_roundw
            case rel => exact ⟨j + 1, by omega, by go_num, by rw [HG.out], by rw [HG.out]; exact Ht.out⟩
            case measure => simp [intOf]; omega
          · have n5 : (e != 5) = true := by rw [bne_iff_ne]; exact h5
            have n0' : (e != 0) = true := by rw [bne_iff_ne]; exact h0
            have HS := Lib.hid (onTo_stop (f := (wrF k x)) (lv := lv) (N := N) (i := j + 1) (by rw [HG.out]; exact h0) n0 (by omega))
            clear h5 h0
            go_wp2_with (first | (go_at_call 62; (with_reducible refine CL1.out.mono ?_); rintro e w2 ⟨rfl, h2⟩; obtain rfl : wr = w2 := h2.symm) | (go_at_call 33; (with_reducible refine CF.out.mono ?_); rintro e w3 ⟨rfl, ht⟩; have Ht := Lib.hid (HX.out _ ht); clear ht))
            go_ret
            exact ⟨by rw [Hall.out, HS.out, HG.out]; rfl, by rw [Hall.out, HS.out, HG.out]; exact Ht.out⟩
    · obtain rfl : j = n0 := by omega
      go_wp2
      go_ret
      exact ⟨by rw [Hall.out, Hz.out]; rfl, by rw [Hall.out]; exact Hbc.out⟩
theorem rdo_off {F : Nat → Prop} {w : World} {A : Option Addr} {lv : List Bool} {q : Nat} (hv : RdO w w.heap.size A lv) (hq : 0 < lv.length → ∀ a, A = some a → a.block = q) (oq : ¬ F q) : RdOX F w A lv :=
  ⟨hv.1, fun h0 => by
    obtain ⟨b, off, rfl, hb, hc⟩ := hv.2 h0
    obtain rfl : b = q := hq h0 _ rfl
    exact ⟨b, off, rfl, hb, oq, hc⟩⟩
theorem onWr_any (W w : World) (b : Nat) (H : BH) (N : Bch) (h : BP W w b H N) (p3 p9 p7 g k : Nat) (x : List UInt8) (hk : k < 52) (hx : x.length = 32)
    (c3 : w.cell? ⟨p3, 0, none⟩ = some (.pointer (some ⟨b, 0, none⟩))) (c9 : w.cell? ⟨p9, 0, none⟩ = some (.int .i64 (k : Int))) (c7 : w.cell? ⟨p7, 0, none⟩ = some (.slice (some ⟨g, 0, none⟩) 32 32)) (hr : RdB w w.heap.size (some ⟨g, 0, none⟩) x)
    (o3 : ¬ BF b H N.n p3) (o9 : ¬ BF b H N.n p9) (o7 : ¬ BF b H N.n p7) (og : ¬ BF b H N.n g)
    (lv : List Bool) (A : Option Addr) (n c : Nat) (hn : n = lv.length) (hv : RdO w w.heap.size A lv) (q : Nat) (hq : 0 < lv.length → ∀ a, A = some a → a.block = q) (oq : ¬ BF b H N.n q)
    (hps : ∀ i, i < N.n → (N.D i).ps.length ≤ 1999990) (hdn : N.done ≤ 1999990) :
    Calls Tryd.prog 32 #[.pointer (some ⟨b, 0, none⟩), .slice A n c, .func (.func 33) #[] #[.pointer (some ⟨p3, 0, none⟩), .pointer (some ⟨p9, 0, none⟩), .pointer (some ⟨p7, 0, none⟩)]] w fun e w' => e = .returned (.int .i64 (onTo (wrF k x) lv N (min N.n lv.length)).1) ∧ BC W w w' b H N.n (onTo (wrF k x) lv N (min N.n lv.length)).2 := by
  rw [← onTo_min]
  exact eachWr_any W w b H N h p3 p9 p7 g k x hk hx c3 c9 c7 hr o3 o9 o7 og lv A n c hn (rdo_off hv hq oq) hps hdn
theorem onFl_any (W w : World) (b : Nat) (H : BH) (N : Bch) (h : BP W w b H N)
    (lv : List Bool) (A : Option Addr) (n c : Nat) (hn : n = lv.length) (hv : RdO w w.heap.size A lv) (q : Nat) (hq : 0 < lv.length → ∀ a, A = some a → a.block = q) (oq : ¬ BF b H N.n q) :
    Calls Tryd.prog 32 #[.pointer (some ⟨b, 0, none⟩), .slice A n c, .func (.func 34) #[.pointer (some ⟨b, 0, none⟩)] #[]] w fun e w' => e = .returned (.int .i64 (onTo flF lv N (min N.n lv.length)).1) ∧ BC W w w' b H N.n (onTo flF lv N (min N.n lv.length)).2 := by
  rw [← onTo_min]
  exact eachFl_any W w b H N h lv A n c hn (rdo_off hv hq oq)
end Go.Proofs.YtiipdhmfdgbmiaaDoor
end
section
set_option maxRecDepth 8000
set_option linter.unusedVariables false
set_option linter.unusedSimpArgs false
namespace Go.Proofs.YtiipdhmfdgbmiaaDoor
open Go.RowKit

theorem info_sus : (Tryd.prog.info? 73).map (fun i => (i.zero, i.size, i.bytes)) = some (some (.slice none 0 0), 1, 24) := by kernel_rfl
theorem size_sus : (Tryd.prog.info? 73).map (·.size) = some 1 := by kernel_rfl
theorem make_found (n : Nat) (hn : n ≤ 1000000) (w : World) : (Instr.makeSlice 72 (.int .i64 (n : Int)) (.int .i64 (n : Int))).run Tryd.prog w = .ok (.slice (some ⟨w.heap.size, 0, none⟩) n n) (w.alloc (.cells (rowOf (fun _ => .slice none 0 0) n).toArray 73)) := by
  rw [← rowOf_made (.slice none 0 0) n]
  exact run_make_row' _ _ _ 24 Tryd.underlying72 info_sus rfl _ _ n (by omega) (by omega) w
theorem own_le {w : World} {B B' : Nat} {e : TypeId} {size : Nat} {v : Value} {n : Nat} {xs : List Value} (h : w.ownsRow B e size v n xs) (hB : B' ≤ B) : w.ownsRow B' e size v n xs := by
  refine ⟨h.1, ?_⟩
  rcases h.2 with h1 | ⟨g, cap, cur, h1, h2, r⟩
  · exact .inl h1
  · exact .inr ⟨g, cap, cur, h1, Nat.le_trans hB h2, r⟩
structure BSt (w0 w : World) (N : Bch) (F : Nat → Value) (i : Nat) (s : Su) : Prop where
  bel : Below w0.heap.size w0 w
  res : w.heap[w0.heap.size]? = some (.cells (suL suZ).toArray 32 (0, 0))
  fnd : w.heap[w0.heap.size + 1]? = some (.cells (rowOf F N.n).toArray 73 (0, 0))
  bst : w.heap[w0.heap.size + 2]? = some (.cells (suL s).toArray 32 (0, 0))
  own : ∀ k, k < i → w.ownsRow (w0.heap.size + 3) 32 11 (F k) (dskSu (N.D k)).length (sucs (dskSu (N.D k)))
section
variable {w0 w w' : World} {N : Bch} {F : Nat → Value} {i : Nat} {s : Su}
theorem BSt.size (h : BSt w0 w N F i s) : w0.heap.size + 3 ≤ w.heap.size := by have := (Array.getElem?_eq_some_iff.1 h.bst).1; omega
theorem BSt.below (h : BSt w0 w N F i s) (hb : Below w.heap.size w w') : BSt w0 w' N F i s := by
  have hz := h.size
  exact ⟨h.bel.trans (hb.mono (by omega)), (hb.block _ (by omega)).trans h.res, (hb.block _ (by omega)).trans h.fnd, (hb.block _ (by omega)).trans h.bst, fun k hk => own_heap (h.own k hk) fun j hj => hb.block j ((h.own k hk).lt j hj).2⟩
theorem BSt.setB (h : BSt w0 w N F i s) {s' : Su} (hg : w.grownBy w' (some (w0.heap.size + 2))) (hb : w'.heap[w0.heap.size + 2]? = some (.cells (suL s').toArray 32 (0, 0))) : BSt w0 w' N F i s' := by
  have hz := h.size
  refine ⟨h.bel.grown hg (by omega) (fun j e => by injection e with e; omega), (hg.block _ (by omega) (fun e => by injection e with e; omega)).trans h.res, (hg.block _ (by omega) (fun e => by injection e with e; omega)).trans h.fnd, hb, fun k hk => own_heap (h.own k hk) fun j hj => hg.block j ((h.own k hk).lt j hj).2 (fun e => by injection e with e; have := ((h.own k hk).lt j hj).1; omega)⟩
theorem BSt.push (h : BSt w0 w N F i s) {v : Value} (hg : w.grownBy w' (some (w0.heap.size + 1))) (hb : w'.heap[w0.heap.size + 1]? = some (.cells (rowOf (upd F i v) N.n).toArray 73 (0, 0)))
    (hv : w.ownsRow (w0.heap.size + 3) 32 11 v (dskSu (N.D i)).length (sucs (dskSu (N.D i)))) : BSt w0 w' N (upd F i v) (i + 1) s := by
  have hz := h.size
  refine ⟨h.bel.grown hg (by omega) (fun j e => by injection e with e; omega), (hg.block _ (by omega) (fun e => by injection e with e; omega)).trans h.res, hb, (hg.block _ (by omega) (fun e => by injection e with e; omega)).trans h.bst, fun k hk => ?_⟩
  by_cases e : k = i
  · subst e
    rw [upd_same]
    exact own_heap hv fun j hj => hg.block j (hv.lt j hj).2 (fun e => by injection e with e; have := (hv.lt j hj).1; omega)
  · rw [upd_other _ _ e]
    have hk' : k < i := by omega
    exact own_heap (h.own k hk') fun j hj => hg.block j ((h.own k hk').lt j hj).2 (fun e => by injection e with e; have := ((h.own k hk').lt j hj).1; omega)
theorem BSt.other (h : BSt w0 w N F i s) {q : Nat} (hg : w.grownBy w' (some q)) (hq : w0.heap.size + 3 ≤ q) (hn : ∀ k, k < i → (F k).ownBlock ≠ some q) : BSt w0 w' N F i s := by
  have hz := h.size
  refine ⟨h.bel.grown hg (by omega) (fun j e => by injection e with e; omega), (hg.block _ (by omega) (fun e => by injection e with e; omega)).trans h.res, (hg.block _ (by omega) (fun e => by injection e with e; omega)).trans h.fnd, (hg.block _ (by omega) (fun e => by injection e with e; omega)).trans h.bst, fun k hk => own_heap (h.own k hk) fun j hj => hg.block j ((h.own k hk).lt j hj).2 (fun e => by injection e with e; exact hn k hk (by rw [hj, ← e]))⟩
end
end Go.Proofs.YtiipdhmfdgbmiaaDoor
end
section
set_option maxRecDepth 8000
set_option linter.unusedVariables false
set_option linter.unusedSimpArgs false
namespace Go.Proofs.YtiipdhmfdgbmiaaDoor
open Go.RowKit

theorem suEncode_nil (s : Su) (w : World) (h : Su64 s) (hk : suOk s = false) : Calls Tryd.prog 30 #[.agg #[.int .i64 s.g, .int .i64 s.al, .int .i64 s.ad, .int .i64 s.ac, .int .i64 s.bl, .int .i64 s.bd, .int .i64 s.bc, .bool s.r, .int .i64 s.wi, .int .i64 s.ep, .int .i64 s.ou]] w fun e w' => e = .returned (.tuple #[.slice none 0 0, .int .i64 1]) ∧ Below w.heap.size w w' := suEncode_no s w h (Lib.hid hk)
set_option maxHeartbeats 4000000 in
theorem store_any (W w : World) (b : Nat) (H : BH) (N : Bch) (h : BP W w b H N) (s : Su) (hs : Su64 s) (ht : TabOk W)
    (lv : List Bool) (A : Option Addr) (n c : Nat) (hn : n = lv.length) (hv : RdO w w.heap.size A lv) (q : Nat) (hq : 0 < lv.length → ∀ a, A = some a → a.block = q) (oq : ¬ BF b H N.n q)
    (hps : ∀ i, i < N.n → (N.D i).ps.length ≤ 1999990) (hdn : N.done ≤ 1999990) :
    Calls Tryd.prog 9 #[.pointer (some ⟨b, 0, none⟩), .slice A n c, .agg #[.int .i64 s.g, .int .i64 s.al, .int .i64 s.ad, .int .i64 s.ac, .int .i64 s.bl, .int .i64 s.bd, .int .i64 s.bc, .bool s.r, .int .i64 s.wi, .int .i64 s.ep, .int .i64 s.ou]] w fun e w' => e = .returned (.int .i64 (storeS N lv s).1) ∧ BC W w w' b H N.n (storeS N lv s).2 := by
  subst hn
  have htw : TabOk w := ht.below h.bel ht.pos
  have Hh := Lib.hid h
  have B2 := Lib.hid (below2 w (.cells #[.pointer (some ⟨b, 0, none⟩)] 22) (.cells (suL s).toArray 32))
  have ht2 := htw.below B2.out htw.pos
  have Hps := Lib.hid hps
  have Hdn := Lib.hid hdn
  have Hv := Lib.hid hv
  have hqq : ∃ q', (0 < lv.length → ∀ a, A = some a → a.block = q') ∧ ¬ BF b H N.n q' ∧ q' ≤ w.heap.size := by
    by_cases h0 : 0 < lv.length
    · obtain ⟨b', off, rfl, hb', _⟩ := hv.2 h0
      exact ⟨q, hq, oq, by have h9 : b' = q := hq h0 _ rfl; omega⟩
    · exact ⟨w.heap.size, fun h => absurd h h0, fun e => by have := (h.at'.flt e).2; omega, Nat.le_refl _⟩
  clear hq oq
  obtain ⟨q, hq, oq, hql⟩ := hqq
  have Hq := Lib.hid hq
  have Hoq := Lib.hid oq
  have Hoff := Lib.hid (show ∀ k, w.heap.size ≤ k → ¬ BF b H N.n k from fun k hk e => by have := (h.at'.flt e).2; omega)
  have Hbp := Lib.hid (show ∀ V, Below w.heap.size w V → BP W V b H N from fun V hb => h.grow hb)
  cases hk : suOk s with
  | false =>
    have C := Lib.hid (fun V => suEncode_nil s V hs hk)
    have HS := Lib.hid (show storeS N lv s = (1, N) from if_pos hk)
    clear h hv hq oq hps hdn ht htw hk ht2
    go_enter Tryd.func9, Tryd.ntmps9
    go_wp2_with fail
    refine (C.out _).mono ?_
    rintro e w1 ⟨rfl, hb1⟩
    have B1 := Lib.hid (B2.out.trans (hb1.mono B2.out.size))
    clear hb1
    go_wp2_with fail
    have B3 := Lib.hid (fun o => B1.out.alloc B1.out.size o)
    go_ret
    exact ⟨by rw [HS.out]; rfl, by rw [HS.out]; exact (Hbp.out _ (B3.out _)).self.below (B3.out _)⟩
  | true =>
    have C := Lib.hid (suEncode_yes s _ hs (Lib.hid hk) ht2)
    have Hin := Lib.hid (suIn hk)
    have HSt := Lib.hid (show storeS N lv s = if (wroteS N lv s).1 ≠ 0 then wroteS N lv s else onTo flF lv (wroteS N lv s).2 (min N.n lv.length) from if_neg (by simp [hk]))
    have hne : w.heap.size < w.heap.size + 2 := by omega
    have c3 : ((w.alloc (.cells #[.pointer (some ⟨b, 0, none⟩)] 22)).alloc (.cells (suL s).toArray 32)).cell? ⟨w.heap.size, 0, none⟩ = some (.pointer (some ⟨b, 0, none⟩)) :=
      cell_of_row _ _ 0 _ _ _ ((hp_old _ _ _ (by simp)).trans (hp_new w (.cells #[.pointer (some ⟨b, 0, none⟩)] 22) _ rfl))
    have c5 : ((w.alloc (.cells #[.pointer (some ⟨b, 0, none⟩)] 22)).alloc (.cells (suL s).toArray 32)).cell? ⟨w.heap.size + 1, 0, none⟩ = some (.int .i64 s.g) :=
      cell_of_row _ _ 0 _ _ _ (hp_new _ (.cells (suL s).toArray 32) _ (by simp))
    have C3 := Lib.hid c3
    have C5 := Lib.hid c5
    have hsz : ((w.alloc (.cells #[.pointer (some ⟨b, 0, none⟩)] 22)).alloc (.cells (suL s).toArray 32)).heap.size = w.heap.size + 2 := by simp
    have Hsz := Lib.hid hsz
    clear h hv hq oq hps hdn ht htw ht2 c3 c5 hsz hk
    go_enter Tryd.func9, Tryd.ntmps9
    go_wp2_with fail
    refine C.out.mono ?_
    rintro e w1 ⟨g, rfl, ho, hb1⟩
    have hgl := (ho.lt g rfl)
    have hr1 := ho.rdS.1
    have B1 := Lib.hid (B2.out.trans (hb1.mono B2.out.size))
    have D3 := Lib.hid ((hb1.cell (p := ⟨w.heap.size, 0, none⟩) (by rw [Hsz.out]; show w.heap.size < _; omega)).trans C3.out)
    have D5 := Lib.hid ((hb1.cell (p := ⟨w.heap.size + 1, 0, none⟩) (by rw [Hsz.out]; show w.heap.size + 1 < _; omega)).trans C5.out)
    have hz1 : w.heap.size + 2 ≤ w1.heap.size := by have := hb1.size; rw [Hsz.out] at this; exact this
    rw [Hsz.out] at hgl
    clear hb1 ho C C3 C5
    have d5 : (w1.alloc (.cells #[.slice (some ⟨g, 0, none⟩) 32 32] 38)).cell? ⟨w.heap.size + 1, 0, none⟩ = some (.int .i64 s.g) := (((below1 w1 _).cell (p := ⟨w.heap.size + 1, 0, none⟩) (by show w.heap.size + 1 < _; omega))).trans D5.out
    generalize hO7 : Obj.cells #[.slice (some ⟨g, 0, none⟩) 32 32] 38 = o7
    generalize hO9 : Obj.cells #[.int .i64 (slotI s.g : Int)] 3 = o9
    have HO7 := Lib.hid hO7
    have HO9 := Lib.hid hO9
    clear hO7 hO9
    have b4 := below2 w1 o7 o9
    have HB4 := Lib.hid (B1.out.trans (b4.mono B1.out.size))
    have d3 : ((w1.alloc o7).alloc o9).cell? ⟨w.heap.size, 0, none⟩ = some (.pointer (some ⟨b, 0, none⟩)) := (b4.cell (p := ⟨w.heap.size, 0, none⟩) (by show w.heap.size < _; omega)).trans D3.out
    have d7 : ((w1.alloc o7).alloc o9).cell? ⟨w1.heap.size, 0, none⟩ = some (.slice (some ⟨g, 0, none⟩) 32 32) := by rw [← HO7.out]; exact cell_of_row _ _ 0 _ _ _ ((hp_old _ _ _ (by simp)).trans (hp_new w1 _ _ rfl))
    have d9 : ((w1.alloc o7).alloc o9).cell? ⟨w1.heap.size + 1, 0, none⟩ = some (.int .i64 (slotI s.g : Int)) := by rw [← HO9.out]; exact cell_of_row _ _ 0 _ _ _ (hp_new _ _ _ (by simp))
    have hr4 : RdB ((w1.alloc o7).alloc o9) ((w1.alloc o7).alloc o9).heap.size (some ⟨g, 0, none⟩) (suB s) := (hr1.below b4 (Nat.le_refl _)).more b4.size
    have CW := Lib.hid (onWr_any W ((w1.alloc o7).alloc o9) b H N (Hbp.out _ HB4.out) w.heap.size (w1.heap.size + 1) w1.heap.size g (slotI s.g) (suB s) (by have := slotI_lt s.g; omega) (suB_len s) d3 d9 d7 hr4 (Hoff.out _ (by omega)) (Hoff.out _ (by omega)) (Hoff.out _ (by omega)) (Hoff.out _ (by omega))
      lv A lv.length c rfl (Hv.out.keep HB4.out.size (fun p hp => HB4.out.cell hp)) q Hq.out Hoq.out Hps.out Hdn.out)
    have HWd : Hid (onTo (wrF (slotI s.g) (suB s)) lv N (min N.n lv.length) = wroteS N lv s) := rfl
    rw [HWd.out] at CW
    have HD3 := Lib.hid d3
    have Hnw := Lib.hid (show (wroteS N lv s).2.n = N.n from wrote_n _)
    rw [← HO7.out, ← HO9.out] at d3 CW HB4 HD3
    clear d7 d9 hr4 b4 HO7 HO9 D3 D5 hr1
    generalize wroteS N lv s = r at CW HSt Hnw
    obtain ⟨e0, Nw⟩ := r
    by_cases h0 : e0 = 0
    · have HSt2 := Lib.hid (show storeS N lv s = onTo flF lv Nw (min N.n lv.length) by have h := HSt.out; rw [if_neg (show ¬ (e0, Nw).1 ≠ 0 from fun h => h h0)] at h; exact h)
      rw [h0] at CW
      clear h0
      go_wp2_with (first
        | (go_at_call 31; refine (slot_any s.g _ ⟨by have := Hin.out.g; omega, by have := Hin.out.g; omega⟩).mono ?_; rintro e ws ⟨rfl, rfl⟩)
        | (go_at_call 32
           (with_reducible refine CW.out.mono ?_)
           rintro e w5 ⟨rfl, ht5⟩
           obtain ⟨H5, a5, c5, n5⟩ := ht5
           have A5 := Lib.hid a5
           have C5 := Lib.hid c5
           have N5 := Lib.hid n5
           have e3 := cell_chg HD3.out c5 (Hoff.out _ (Nat.le_refl _))
           clear a5 c5 n5
           have CF := Lib.hid (onFl_any W w5 b H5 Nw A5.out lv A lv.length c rfl ((Hv.out.keep HB4.out.size (fun p hp => HB4.out.cell hp)).chgq Hq.out C5.out Hoq.out) q Hq.out (by rw [Hnw.out]; exact BC.off N5.out (by show q < ((w1.alloc _).alloc _).heap.size; simp; omega) Hoq.out)))
        | (go_at_call 32
           (with_reducible refine CF.out.mono ?_)
           rintro e w6 ⟨rfl, ht6⟩
           have HT := Lib.hid (BC.below HB4.out (BC.seq C5.out N5.out (by rw [Hnw.out] at ht6; exact ht6)))
           clear ht6))
      go_ret
      exact ⟨by rw [HSt2.out, ← Hnw.out]; rfl, by rw [HSt2.out]; exact HT.out⟩
    · have HSt2 := Lib.hid (show storeS N lv s = (e0, Nw) by have h := HSt.out; rw [if_pos (show (e0, Nw).1 ≠ 0 from h0)] at h; exact h)
      have n0 : (e0 != 0) = true := by rw [bne_iff_ne]; exact h0
      clear h0
      go_wp2_with (first
        | (go_at_call 31; refine (slot_any s.g _ ⟨by have := Hin.out.g; omega, by have := Hin.out.g; omega⟩).mono ?_; rintro e ws ⟨rfl, rfl⟩)
        | (go_at_call 32; (with_reducible refine CW.out.mono ?_); rintro e w5 ⟨rfl, ht5⟩; have HT := Lib.hid (BC.below HB4.out ht5); clear ht5))
      go_ret
      exact ⟨by rw [HSt2.out]; rfl, by rw [HSt2.out]; exact HT.out⟩
end Go.Proofs.YtiipdhmfdgbmiaaDoor
end
