/- SyndMemory's walk. -/
import Derived.Test.YtfhbdfhndgfneaaPartsOwn
import Derived.Test.YtfhbdfhndgfneaaSyndWakes
import Derived.Test.YtfhbdfhndgfneaaSyndOwn
import Derived.Test.YtfhbdfhndgfneaaSyndMod
import Derived.Test.YtfhbdfhndgfneaaU8All
namespace Go.Proofs.Ytfhbdfhndgfneaa
open Go.RowKit

/-- As Gives, the length under a name of its own. -/
def GivesN (w : World) (p : List UInt8) (N : Nat) (e : Ending) (w' : World) : Prop := ∃ g c, e = .returned (.slice (some ⟨g, 0, none⟩) N c) ∧ w.heap.size ≤ g ∧ g < w'.heap.size ∧ OwB 5 w' w.heap.size (.slice (some ⟨g, 0, none⟩) N c) p ∧ Below w.heap.size w w'
theorem Gives.n {w : World} {p : List UInt8} {N : Nat} (hN : p.length = N) (h0 : 0 < N) {e : Ending} {w' : World} (h : Gives w p e w') : GivesN w p N e w' := by
  subst hN
  obtain ⟨A, c, he, ho, hb⟩ := h
  obtain ⟨g, cap, hv, hg, hg2, _⟩ := ho.pos h0
  injection hv with hv1 _ hv3
  subst hv1 hv3
  exact ⟨g, c, he, hg, hg2, ho, hb⟩
/-- What stays as it is while the law runs, but for what it writes itself. -/
def MS (w : World) (B1 lo : Nat) (Ax Ay : Option Addr) (x : List (List UInt8)) (gp cp gq cq go co N : Nat) (pv qv : List UInt8) (W : World) : Prop :=
  RdR W B1 Ax x ∧ RdF lo W Ay x ∧ OwB 5 W B1 (.slice (some ⟨gp, 0, none⟩) N cp) pv ∧ OwB 5 W B1 (.slice (some ⟨gq, 0, none⟩) N cq) qv ∧ (∃ bs, bs.length = N ∧ OwB 5 W B1 (.slice (some ⟨go, 0, none⟩) N co) bs) ∧ B1 ≤ W.heap.size ∧ lo ≤ W.heap.size ∧ Below w.heap.size w W
section
variable {w : World} {B1 lo : Nat} {Ax Ay : Option Addr} {x : List (List UInt8)} {gp cp gq cq go co N : Nat} {pv qv : List UInt8} {W W' : World}
theorem MS.below (h : MS w B1 lo Ax Ay x gp cp gq cq go co N pv qv W) (hb : Below W.heap.size W W') : MS w B1 lo Ax Ay x gp cp gq cq go co N pv qv W' := by
  obtain ⟨h1, h2, h3, h4, ⟨bs, h5, h6⟩, h7, h8, h9⟩ := h
  have := hb.size
  exact ⟨h1.below hb h7, h2.below hb, h3.below hb, h4.below hb, ⟨bs, h5, h6.below hb⟩, by omega, by omega, h9.trans (hb.mono h9.size)⟩
theorem cell_set_other {W : World} {g j : Nat} {v : Value} {p : Addr} (h : p.block ≠ g) : (W.setCell ⟨g, j, none⟩ v).cell? p = W.cell? p :=
  World.cell?_of_block (w := W) (Below.heap_setCell _ _ _ _ h)
theorem MS.set_one (h : MS w B1 lo Ax Ay x gp cp gq cq go co N pv qv W) (hgo : B1 ≤ go) (hl : go < lo) (hp : gp ≠ go) (hq : gq ≠ go) (hB : w.heap.size ≤ B1) (j : Nat) (b : UInt8) : MS w B1 lo Ax Ay x gp cp gq cq go co N pv qv (W.setCell ⟨go, j, none⟩ (.int .u8 (b.toNat : Int))) := by
  obtain ⟨h1, h2, h3, h4, ⟨bs, h5, h6⟩, h7, h8, h9⟩ := h
  obtain ⟨k1, k2⟩ := h6.set h5 j b
  refine ⟨h1.keep (Nat.le_refl _) fun p hp => cell_set_other (by omega), h2.keep (by simp) fun p hp _ => cell_set_other (by omega), h3.grown k2 (.inr (by simp [Value.ownBlock]; exact hp)), h4.grown k2 (.inr (by simp [Value.ownBlock]; exact hq)), ⟨_, by rw [List.length_set]; exact h5, k1⟩, by simpa using h7, by simpa using h8, h9.setCell (p := ⟨go, j, none⟩) (by show w.heap.size ≤ go; omega) _⟩
theorem MS.set_p (h : MS w B1 lo Ax Ay x gp cp gq cq go co N pv qv W) (hpl : pv.length = N) (hgp : B1 ≤ gp) (hl : gp < lo) (hq : gq ≠ gp) (ho : go ≠ gp) (hB : w.heap.size ≤ B1) (j : Nat) (b : UInt8) : MS w B1 lo Ax Ay x gp cp gq cq go co N (pv.set j b) qv (W.setCell ⟨gp, j, none⟩ (.int .u8 (b.toNat : Int))) := by
  obtain ⟨h1, h2, h3, h4, ⟨bs, h5, h6⟩, h7, h8, h9⟩ := h
  obtain ⟨k1, k2⟩ := h3.set hpl j b
  refine ⟨h1.keep (Nat.le_refl _) fun p hp => cell_set_other (by omega), h2.keep (by simp) fun p hp _ => cell_set_other (by omega), k1, h4.grown k2 (.inr (by simp [Value.ownBlock]; exact hq)), ⟨bs, h5, h6.grown k2 (.inr (by simp [Value.ownBlock]; exact ho))⟩, by simpa using h7, by simpa using h8, h9.setCell (p := ⟨gp, j, none⟩) (by show w.heap.size ≤ gp; omega) _⟩
end
theorem RdR.cellAt {w : World} {B b off : Nat} {rs : List (List UInt8)} (h : RdR w B (some ⟨b, off, none⟩) rs) {k : Nat} (hk : k < rs.length) : b < B ∧ ∃ A' c, w.cell? ⟨b, off + k, none⟩ = some (.slice A' (rs.getD k []).length c) ∧ RdB w B A' (rs.getD k []) := by
  obtain ⟨b', off', e, hb, hc⟩ := h.2 (by omega)
  injection e with e
  injection e with e1 e2 _
  subst e1 e2
  exact ⟨hb, hc k hk⟩
theorem u8_xor1 (d : UInt8) : d ≠ d ^^^ 1 := by
  have := u8_every (fun d => decide (d ≠ d ^^^ 1)) (by decide +kernel) d
  simpa using this
theorem set_ne {pv : List UInt8} (h : 0 < pv.length) : pv ≠ pv.set 0 (pv.getD 0 0 ^^^ 1) := fun e => by
  have h1 := congrArg (fun l : List UInt8 => l.getD 0 0) e
  cases pv with
  | nil => simp at h
  | cons d r => simp at h1; exact u8_xor1 d h1
theorem p_nil_gives (w : World) : Calls Try.prog 8 #[.slice none 0 0] w fun e w' => ∃ A c, e = .returned (.slice A 0 c) ∧ Below w.heap.size w w' :=
  (p_any none [] 0 0 w rfl ⟨by simp, fun h => by simp at h⟩).mono fun _ _ ⟨v, he, ho, hb⟩ => by
    obtain ⟨A, c, rfl⟩ := own_nil_len ho
    exact ⟨A, c, he, hb⟩
theorem same_row {W : World} {A A' : Option Addr} {c c' : Nat} {bs : List UInt8} (h : RdB W W.heap.size A bs) (h' : RdB W W.heap.size A' bs) :
    Calls Try.prog 7 #[.slice A bs.length c, .slice A' bs.length c'] W fun e w' => e = .returned (.bool true) ∧ Below W.heap.size W w' :=
  (same_any A A' bs.length bs.length c c' _ bs bs W rfl rfl h h').mono fun _ _ ⟨he, m, hw⟩ => ⟨by rw [he, decide_eq_true rfl], by rw [hw]; exact belowN _ _ _⟩
theorem same_ownB {w : World} {B B' : Nat} {A A' : Option Addr} {n n' c c' : Nat} {bs : List UInt8} (h : OwB 5 w B (.slice A n c) bs) (h' : OwB 5 w B' (.slice A' n' c') bs) :
    Calls Try.prog 7 #[.slice A n c, .slice A' n' c'] w fun e w' => e = .returned (.bool true) ∧ Below w.heap.size w w' :=
  (same_own h h').mono fun _ _ ⟨he, m, hw⟩ => ⟨he, by rw [hw]; exact belowN _ _ _⟩
theorem same_notB {w : World} {B B' : Nat} {A A' : Option Addr} {n n' c c' : Nat} {bs bs' : List UInt8} (h : OwB 5 w B (.slice A n c) bs) (h' : OwB 5 w B' (.slice A' n' c') bs') (hne : bs ≠ bs') :
    Calls Try.prog 7 #[.slice A n c, .slice A' n' c'] w fun e w' => e = .returned (.bool false) ∧ Below w.heap.size w w' :=
  (same_not h h' hne).mono fun _ _ ⟨he, m, hw⟩ => ⟨he, by rw [hw]; exact belowN _ _ _⟩
set_option maxRecDepth 100000 in
set_option maxHeartbeats 3200000 in
theorem memory (Al : Option Addr) (l : List (List UInt8)) (cl : Nat) (n : Int) (w : World) (_ : l.length ≤ cl) (hrl : RdC w w.heap.size Al l) (hn : -9223372036854775808 ≤ n ∧ n ≤ 9223372036854775807) :
    Calls Try.prog 4 #[.slice Al l.length cl, .int .i64 n] w fun e w' => e = .returned (.bool true) ∧ Below w.heap.size w w' := by
  have hs := sub_mod5_bd n hn
  have Hm := Lib.hid (sub_mod5 n)
  obtain ⟨hn1, hn2⟩ := hn
  have hlo : -5 < n.tmod 5 := Int.lt_tmod_of_pos _ (by omega)
  have hhi : n.tmod 5 < 5 := Int.tmod_lt_of_pos _ (by omega)
  have Hpa := Lib.hid (partsR_alike (rs := l) Hm.out)
  have Hs := Lib.hid hs
  obtain ⟨hs1, hs2⟩ := hs
  have CX := Lib.hid (fun W c (h : RdC W W.heap.size Al l) => parts_own Al l l.length c (n - n.tmod 5) W rfl h Hs.out)
  have hxl := Lib.hid (show (partsR l (n - n.tmod 5)).length ≤ 7 by rw [partsR_len]; omega)
  generalize partsR l (n - n.tmod 5) = x at CX hxl Hpa
  go_enter Try.func4, Try.ntmps4
  go_wp2_with fail
  refine (CX.out w cl hrl).mono ?_
  rintro e w1 ⟨Ax, cx, rfl, hcx, hx, hb1⟩
  have h7 := hxl.out
  by_cases h0 : x.length = 0
  · have e0 : ((x.length : Int) == 0) = true := by rw [h0]; rfl
    clear h0
    go_wp2_with fail
    refine (p_nil_gives w1).mono ?_
    rintro e w2 ⟨A2, c2, rfl, hb2⟩
    have hw2 := hb1.trans (hb2.mono hb1.size)
    go_wp2_with fail
    refine (wakesSynd_any w2).mono ?_
    rintro e w3 ⟨rfl, hb3⟩
    go_wp2
    go_ret
    exact ⟨rfl, hw2.trans (hb3.mono hw2.size)⟩
  · have e0 : ((x.length : Int) == 0) = false := by rw [beq_eq_false_iff_ne]; omega
    have hx0 : 0 < x.length := by omega
    clear h0
    obtain ⟨hal, hN⟩ := alikeB_of hx0 Hpa.out
    have hNpos : 0 < (x.getD 0 []).length := by rw [hN]; omega
    have Hpl := Lib.hid (show (pB x).length = (x.getD 0 []).length from sumG_len gP_len hal)
    have Hql := Lib.hid (show (qB x).length = (x.getD 0 []).length from sumG_len gQ_len hal)
    have hal1 := (alikeB_of (rs := [x.getD 0 []]) (N := (x.getD 0 []).length) (by simp) (fun r hr => by simp at hr; rw [hr]; simp))
    have Hol := Lib.hid (show (pB [x.getD 0 []]).length = (x.getD 0 []).length from (sumG_len gP_len hal1.1).trans hal1.2)
    obtain ⟨b, off, rfl, hbb, _, hc⟩ := hx.2 hx0
    obtain ⟨A0, c0, q0, r0⟩ := hc 0 hx0
    rw [Nat.add_zero] at q0
    have r0' := r0.rdb
    have hx1 := hx.rdr
    have P0 : Hid (∀ W, Below w1.heap.size w1 W → Calls Try.prog 8 #[.slice (some ⟨b, off, none⟩) x.length cx] W (GivesN W (pB x) (x.getD 0 []).length)) :=
      Lib.hid fun W hb => (p_gives ((hx1.below hb (Nat.le_refl _)).more hb.size) rfl rfl).mono fun _ _ h => h.n Hpl.out hNpos
    have Q0 : Hid (∀ W, Below w1.heap.size w1 W → Calls Try.prog 9 #[.slice (some ⟨b, off, none⟩) x.length cx] W (GivesN W (qB x) (x.getD 0 []).length)) :=
      Lib.hid fun W hb => (q_gives ((hx1.below hb (Nat.le_refl _)).more hb.size) rfl rfl).mono fun _ _ h => h.n Hql.out hNpos
    have P0' : Hid (∀ W, RdR W w1.heap.size (some ⟨b, off, none⟩) x → w1.heap.size ≤ W.heap.size → Calls Try.prog 8 #[.slice (some ⟨b, off, none⟩) x.length cx] W (GivesN W (pB x) (x.getD 0 []).length)) :=
      Lib.hid fun W h hb => (p_gives (h.more hb) rfl rfl).mono fun _ _ h => h.n Hpl.out hNpos
    have Q0' : Hid (∀ W, RdR W w1.heap.size (some ⟨b, off, none⟩) x → w1.heap.size ≤ W.heap.size → Calls Try.prog 9 #[.slice (some ⟨b, off, none⟩) x.length cx] W (GivesN W (qB x) (x.getD 0 []).length)) :=
      Lib.hid fun W h hb => (q_gives (h.more hb) rfl rfl).mono fun _ _ h => h.n Hql.out hNpos
    have P1 : Hid (∀ W g, W.heap[g]? = some (.cells #[.slice A0 (x.getD 0 []).length c0] 22) → Below w1.heap.size w1 W → Calls Try.prog 8 #[.slice (some ⟨g, 0, none⟩) 1 1] W (GivesN W (pB [x.getD 0 []]) (x.getD 0 []).length)) :=
      Lib.hid fun W g hg hb => (p_gives (rdr_block1 hg rfl (r0'.below hb (Nat.le_refl _)) hb.size) rfl rfl).mono fun _ _ h => h.n Hol.out hNpos
    have Hc := Lib.hid hc
    have Hal := Lib.hid hal
    have HN := Lib.hid hN
    clear hc hal hN hal1 r0 r0'
    generalize pB x = pv at P0 P0' Hpl
    generalize qB x = qv at Q0 Q0' Hql
    generalize pB [x.getD 0 []] = ov at P1 Hol
    obtain ⟨N, hNe⟩ : ∃ N, (x.getD 0 []).length = N := ⟨_, rfl⟩
    rw [hNe] at P0 Q0 P0' Q0' P1 Hpl Hql Hol hNpos q0
    have HNe := Lib.hid hNe
    clear hNe
    have hNle : N ≤ 140737488355328 := by
      have := (Hc.out 0 hx0).choose_spec.choose_spec.2.1
      rw [HNe.out] at this
      exact this
    go_wp2_with fail
    go_cut [6, 7, 8] (fun s6 s7 s8 W => ∃ gp cp gq cq go co, s6 = .slice (some ⟨gp, 0, none⟩) N cp ∧ s7 = .slice (some ⟨gq, 0, none⟩) N cq ∧ s8 = .slice (some ⟨go, 0, none⟩) N co ∧ w1.heap.size ≤ gp ∧ gp < gq ∧ gq < go ∧ go < W.heap.size ∧
      OwB 5 W w1.heap.size (.slice (some ⟨gp, 0, none⟩) N cp) pv ∧ OwB 5 W w1.heap.size (.slice (some ⟨gq, 0, none⟩) N cq) qv ∧ OwB 5 W w1.heap.size (.slice (some ⟨go, 0, none⟩) N co) ov ∧ Below w1.heap.size w1 W)
    case first =>
      go_region_held3 (fun W => W.cell? ⟨b, off, none⟩ = some (.slice A0 N c0) ∧ Below w1.heap.size w1 W)
        ((repeat' apply And.intro) <;> first | assumption | exact (Below.refl _ _).drew | exact (below1 _ _).drew | exact hwa.alloc hwa.size _ | exact hwb.alloc hwb.size _ | exact (Below.cell (by first | assumption | exact (Below.refl _ _).drew | exact (below1 _ _).drew | exact hwa.alloc hwa.size _ | exact hwb.alloc hwb.size _) hbb).trans q0)
        (first
          | (go_at_call 8
             (with_reducible refine (P0.out _ ?_).mono ?_)
             (first | exact (Below.refl _ _).drew | exact (below1 _ _).drew)
             rintro e wa ⟨gp, cp, rfl, hgp, hgp2, hoa, hba⟩
             obtain ⟨Ba, hBa, hwa, hoa⟩ : ∃ Ba, w1.heap.size ≤ Ba ∧ Below w1.heap.size w1 wa ∧ OwB 5 wa Ba (.slice (some ⟨gp, 0, none⟩) N cp) pv := by first | exact ⟨_, by simp, (Below.refl _ _).drew.trans (hba.mono (Nat.le_refl _)), hoa⟩ | exact ⟨_, by simp, (below1 _ _).drew.trans (hba.mono (by simp)), hoa⟩
             have hgp3 : w1.heap.size ≤ gp := Nat.le_trans hBa ((hoa.lt gp rfl).1)
             dsimp only)
          | (go_at_call 9
             (with_reducible refine (Q0.out _ ?_).mono ?_)
             (first | exact hwa | exact hwa.alloc hwa.size _)
             rintro e wb ⟨gq, cq, rfl, hgq, hgq2, hob, hbb2⟩
             obtain ⟨Bb, hBb, hgq3, hwb, hob, hoa2⟩ : ∃ Bb, w1.heap.size ≤ Bb ∧ gp < gq ∧ Below w1.heap.size w1 wb ∧ OwB 5 wb Bb (.slice (some ⟨gq, 0, none⟩) N cq) qv ∧ OwB 5 wb Ba (.slice (some ⟨gp, 0, none⟩) N cp) pv := by first | exact ⟨_, hwa.size, by omega, hwa.trans (hbb2.mono hwa.size), hob, hoa.below hbb2⟩ | exact ⟨_, (hwa.alloc hwa.size _).size, by simp at hgq; omega, (hwa.alloc hwa.size _).trans (hbb2.mono (hwa.alloc hwa.size _).size), hob, (hoa.below (below1 _ _)).below hbb2⟩
             dsimp only)
          | (go_at_call 8
             (with_reducible refine (P1.out _ _ ?_ ?_).mono ?_)
             (first | exact hp_new _ _ _ rfl | (rw [hbb2.block _ (by simp)]; exact hp_new _ _ _ (by simp)) | (rw [hbb2.block _ (by have := hba.size; simp at this; omega), hba.block _ (by simp)]; (try rw [hp_drew]); exact hp_new _ _ _ (by simp)))
             (first | exact hwb | exact hwb.alloc hwb.size _)
             rintro e wc ⟨go, co, rfl, hgo, hgo2, hoc, hbc⟩
             obtain ⟨hgo3, hwc, hoc, hob3, hoa3⟩ : gq < go ∧ Below w1.heap.size w1 wc ∧ OwB 5 wc w1.heap.size (.slice (some ⟨go, 0, none⟩) N co) ov ∧ OwB 5 wc Bb (.slice (some ⟨gq, 0, none⟩) N cq) qv ∧ OwB 5 wc Ba (.slice (some ⟨gp, 0, none⟩) N cp) pv := by first | exact ⟨by omega, hwb.trans (hbc.mono hwb.size), hoc.le hwb.size, hob.below hbc, hoa2.below hbc⟩ | exact ⟨by simp at hgo; omega, (hwb.alloc hwb.size _).trans (hbc.mono (hwb.alloc hwb.size _).size), hoc.le (hwb.alloc hwb.size _).size, (hob.below (below1 _ _)).below hbc, (hoa2.below (below1 _ _)).below hbc⟩
             dsimp only))
      all_goals (go_wp2_with fail; go_meet; exact ⟨gp, cp, gq, cq, go, co, rfl, rfl, rfl, hgp3, hgq3, hgo3, hgo2, hoa3.le hBa, hob3.le hBb, hoc, hwc⟩)
    case rest =>
      obtain ⟨gp, cp, gq, cq, go, co, rfl, rfl, rfl, hgp, hgq, hgo, hgoc, hop, hoq, hoo, hbc⟩ := hcut
      have hqc := (hbc.cell (p := ⟨b, off, none⟩) hbb).trans q0
      have hwc := hb1.trans (hbc.mono hb1.size)
      have hxc := hx1.below hbc (Nat.le_refl _)
      clear P1
      go_wp2_with fail
      refine (CX.out wc cl ((hrl.below hwc (Nat.le_refl _)).more hwc.size)).mono ?_
      rintro e w2 ⟨Ay, cy, rfl, hcy, hy, hb2⟩
      have M0 : MS w w1.heap.size wc.heap.size (some ⟨b, off, none⟩) Ay x gp cp gq cq go co N pv qv w2 :=
        ⟨hxc.below hb2 hbc.size, hy, hop.below hb2, hoq.below hb2, ⟨ov, Hol.out, hoo.below hb2⟩, by have := hbc.size; have := hb2.size; omega, hb2.size, hwc.trans (hb2.mono hwc.size)⟩
      obtain ⟨lo, hlo2⟩ : ∃ lo, lo = wc.heap.size := ⟨_, rfl⟩
      rw [← hlo2] at M0 hgoc
      have hw1 := hb1.size
      have hy0 := hy.2 hx0
      obtain ⟨yb, yo, rfl, _⟩ := hy0
      clear hop hoq hoo hxc hy hqc hb2 hlo2 hbc hb1 hx1 hx hwc hrl
      go_wp2_with fail
      go_loopw [63] (fun i wr => ∃ k : Nat, k ≤ x.length ∧ i = .int .i64 k ∧ MS w w1.heap.size lo (some ⟨b, off, none⟩) (some ⟨yb, yo, none⟩) x gp cp gq cq go co N pv qv wr) (fun i _ => x.length - (intOf i).toNat)
      case atStart => exact ⟨0, Nat.zero_le _, rfl, M0⟩
      case round =>
        obtain ⟨k, hk, rfl, M⟩ := hrel
        clear M0
        rename World => wr
        by_cases hlt : k < x.length
        · obtain ⟨hbx, A1, c1, q1, r1⟩ := M.1.cellAt hlt
          obtain ⟨hby, A2, c2, q2, r2⟩ := M.2.1.rdr.cellAt hlt
          have hB1 := M.2.2.2.2.2.1
          have i0 : (0 : Int) ≤ (k : Int) := by omega
          have i1 : (k : Int) < (x.length : Int) := by omega
          generalize x.getD k [] = row at q1 r1 q2 r2
          have CS : Hid (∀ W, Below wr.heap.size wr W → Calls Try.prog 7 #[.slice A1 row.length c1, .slice A2 row.length c2] W fun e w' => e = .returned (.bool true) ∧ Below W.heap.size W w') :=
            Lib.hid fun W hb => same_row ((r1.below hb hB1).more (Nat.le_trans hB1 hb.size)) ((r2.below hb (Nat.le_refl _)).more hb.size)
          go_wp2_with fail
          go_region_held3 (fun W => W.cell? ⟨b, off + k, none⟩ = some (.slice A1 row.length c1) ∧ W.cell? ⟨yb, yo + k, none⟩ = some (.slice A2 row.length c2))
            ((repeat' apply And.intro) <;> first | assumption | exact (Below.cell (Below.refl _ _).drew (Nat.lt_of_lt_of_le hbx hB1)).trans q1 | exact (Below.cell (Below.refl _ _).drew hby).trans q2)
            (first
              | (go_at_call 7
                 (with_reducible refine (CS.out _ ?_).mono ?_)
                 exact (Below.refl _ _).drew
                 rintro e wS ⟨rfl, hbS0⟩
                 have hbS := (Below.refl wr.heap.size wr).drew.trans (hbS0.mono (Nat.le_refl _))
                 have k1 := (Below.cell (p := ⟨b, off + k, none⟩) hbS (Nat.lt_of_lt_of_le hbx hB1)).trans q1
                 have k2 := (Below.cell (p := ⟨yb, yo + k, none⟩) hbS hby).trans q2
                 dsimp only))
          have M2 := M.below hbS
          go_wp2
          go_roundw
          case rel => exact ⟨k + 1, by omega, by go_num, M2⟩
          case measure => simp [intOf]; omega
        · have hge : x.length ≤ k := by omega
          go_wp2_with fail
          go_loopw [79] (fun i wi => ∃ j : Nat, j ≤ N ∧ i = .int .i64 j ∧ MS w w1.heap.size lo (some ⟨b, off, none⟩) (some ⟨yb, yo, none⟩) x gp cp gq cq go co N pv qv wi) (fun i _ => N - (intOf i).toNat)
          case atStart => exact ⟨0, Nat.zero_le _, rfl, M⟩
          case round =>
            obtain ⟨j, hj, rfl, Mi⟩ := hrel
            clear M
            rename World => wi
            by_cases hlt2 : j < N
            · obtain ⟨bs, hbl, hob⟩ := Mi.2.2.2.2.1
              obtain ⟨h4, h5⟩ := hob.cell hbl j hlt2
              have ex := xor_u8 (bs.getD j 0) 255
              rw [show ((UInt8.toNat 255 : Nat) : Int) = 255 from rfl] at ex
              have M2 := Mi.set_one (by omega) hgoc (by omega) (by omega) hw1 j (bs.getD j 0 ^^^ 255)
              generalize bs.getD j 0 = d at h4 ex M2
              generalize d ^^^ 255 = d' at ex M2
              have i0 : (0 : Int) ≤ (j : Int) := by omega
              have i1 : (j : Int) < (N : Int) := by omega
              have HM2 := Lib.hid M2
              clear M2 hob hbl
              go_wp2
              go_roundw
              case rel => exact ⟨j + 1, by omega, by go_num, HM2.out⟩
              case measure => simp [intOf]; omega
            · have hge2 : N ≤ j := by omega
              obtain ⟨h4, h5⟩ := Mi.2.2.1.cell Hpl.out 0 hNpos
              have ex := xor_u8 (pv.getD 0 0) 1
              rw [show ((UInt8.toNat 1 : Nat) : Int) = 1 from rfl] at ex
              have M2 := Mi.set_p Hpl.out (by omega) (by omega) (by omega) (by omega) hw1 0 (pv.getD 0 0 ^^^ 1)
              have hne := set_ne (pv := pv) (by rw [Hpl.out]; exact hNpos)
              generalize pv.getD 0 0 = d at h4 ex M2 hne
              generalize d ^^^ 1 = d' at ex M2 hne
              generalize pv.set 0 d' = pv' at M2 hne
              have Hne := Lib.hid hne
              have HM2 := Lib.hid M2
              clear M2 hne
              have i0 : (0 : Int) < (N : Int) := by omega
              go_wp2_with fail
              have M3 := HM2.out
              generalize wi.setCell ⟨gp, 0, none⟩ (.int .u8 (d'.toNat : Int)) = W0 at M3 ⊢
              clear HM2 Mi h4 h5 ex
              obtain ⟨hbx, A1, c1, q1, r1⟩ := M3.1.cellAt hx0
              obtain ⟨hby, A2, c2, q2, r2⟩ := M3.2.1.rdr.cellAt hx0
              rw [Nat.add_zero] at q1 q2
              have hB1 := M3.2.2.2.2.2.1
              have CS : Hid (∀ W, Below W0.heap.size W0 W → Calls Try.prog 7 #[.slice A1 (x.getD 0 []).length c1, .slice A2 (x.getD 0 []).length c2] W fun e w' => e = .returned (.bool true) ∧ Below W.heap.size W w') :=
                Lib.hid fun W hb => same_row ((r1.below hb hB1).more (Nat.le_trans hB1 hb.size)) ((r2.below hb (Nat.le_refl _)).more hb.size)
              rw [HNe.out] at CS q1 q2
              have CQ : Hid (∀ W, Below W0.heap.size W0 W → Calls Try.prog 9 #[.slice (some ⟨b, off, none⟩) x.length cx] W (GivesN W qv N)) :=
                Lib.hid fun W hb => Q0'.out W (M3.below hb).1 (M3.below hb).2.2.2.2.2.1
              have CP : Hid (∀ W, Below W0.heap.size W0 W → Calls Try.prog 8 #[.slice (some ⟨b, off, none⟩) x.length cx] W (GivesN W pv N)) :=
                Lib.hid fun W hb => P0'.out W (M3.below hb).1 (M3.below hb).2.2.2.2.2.1
              have hbx2 : b < W0.heap.size := Nat.lt_of_lt_of_le hbx hB1
              have i2 : (0 : Int) < (x.length : Int) := by omega
              clear r1 r2
              go_region_held3 (fun W => W.cell? ⟨b, off, none⟩ = some (.slice A1 N c1) ∧ W.cell? ⟨yb, yo, none⟩ = some (.slice A2 N c2))
                ((repeat' apply And.intro) <;> first | assumption | exact (Below.cell (Below.refl _ _).drew hbx2).trans q1 | exact (Below.cell (Below.refl _ _).drew hby).trans q2 | exact (Below.cell (by assumption) hbx2).trans q1 | exact (Below.cell (by assumption) hby).trans q2)
                (first
                  | (go_at_call 7
                     (with_reducible refine (CS.out _ ?_).mono ?_)
                     exact (Below.refl _ _).drew
                     rintro e wa ⟨rfl, hba0⟩
                     have hba := (Below.refl W0.heap.size W0).drew.trans (hba0.mono (Nat.le_refl _))
                     have ka1 := (Below.cell (p := ⟨b, off, none⟩) hba hbx2).trans q1
                     have ka2 := (Below.cell (p := ⟨yb, yo, none⟩) hba hby).trans q2
                     dsimp only)
                  | (go_at_call 9
                     (with_reducible refine (CQ.out _ hba).mono ?_)
                     rintro e wb ⟨gb, cb, rfl, _, _, hob, hbb⟩
                     have hwb := hba.trans (hbb.mono hba.size)
                     have kb1 := (Below.cell (p := ⟨b, off, none⟩) hwb hbx2).trans q1
                     have kb2 := (Below.cell (p := ⟨yb, yo, none⟩) hwb hby).trans q2
                     dsimp only)
                  | (go_at_call 7
                     have hMq := (M3.below hwb).2.2.2.1
                     (with_reducible refine (same_ownB hob hMq).mono ?_)
                     rintro e wc ⟨rfl, hbc⟩
                     have hwc := hwb.trans (hbc.mono hwb.size)
                     have kc1 := (Below.cell (p := ⟨b, off, none⟩) hwc hbx2).trans q1
                     have kc2 := (Below.cell (p := ⟨yb, yo, none⟩) hwc hby).trans q2
                     dsimp only)
                  | (go_at_call 8
                     (with_reducible refine (CP.out _ hwc).mono ?_)
                     rintro e wd ⟨gd, cd, rfl, _, _, hod, hbd⟩
                     have hwd := hwc.trans (hbd.mono hwc.size)
                     have kd1 := (Below.cell (p := ⟨b, off, none⟩) hwd hbx2).trans q1
                     have kd2 := (Below.cell (p := ⟨yb, yo, none⟩) hwd hby).trans q2
                     dsimp only)
                  | (go_at_call 7
                     have hMp := (M3.below hwd).2.2.1
                     (with_reducible refine (same_notB hod hMp Hne.out).mono ?_)
                     rintro e we ⟨rfl, hbe⟩
                     have hwe := hwd.trans (hbe.mono hwd.size)
                     have ke1 := (Below.cell (p := ⟨b, off, none⟩) hwe hbx2).trans q1
                     have ke2 := (Below.cell (p := ⟨yb, yo, none⟩) hwe hby).trans q2
                     dsimp only)
                  | (go_at_call 13
                     (with_reducible refine (wakesSynd_any _).mono ?_)
                     rintro e wf ⟨rfl, hbf⟩
                     have hwf := hwe.trans (hbf.mono hwe.size)
                     have kf1 := (Below.cell (p := ⟨b, off, none⟩) hwf hbx2).trans q1
                     have kf2 := (Below.cell (p := ⟨yb, yo, none⟩) hwf hby).trans q2
                     dsimp only))
              go_wp2
              go_ret
              exact ⟨rfl, (M3.below hwf).2.2.2.2.2.2.2⟩
end Go.Proofs.Ytfhbdfhndgfneaa
