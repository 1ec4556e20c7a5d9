/- Texts put together: SlotAid, SlotKeep. -/
import Derived.Test.YtiipdhmfdgbmiaaDoorTbba
import Derived.Test.YtiipdhmfdgbmiaaDoorTbaz
import Derived.Test.YtiipdhmfdgbmiaaDoorTbak
import Derived.Test.YtiipdhmfdgbmiaaDoorTbab
import Derived.Test.YtiipdhmfdgbmiaaDoorTbaw
import Derived.Test.YtiipdhmfdgbmiaaDoorTbay
section
set_option maxRecDepth 8000
set_option linter.unusedVariables false
set_option linter.unusedSimpArgs false
namespace Go.Proofs.YtiipdhmfdgbmiaaDoor
open Go.RowKit

theorem decO_head {bs : List UInt8} (h : decO bs = true) : bs.getD 0 0 = 87 ∧ bs.getD 1 0 = 83 ∧ bs.getD 2 0 = 85 := by
  rw [← ((decO_iff bs).1 h).2.2, suB_get _ 0 (by omega), suB_get _ 1 (by omega), suB_get _ 2 (by omega)]
  exact ⟨rfl, rfl, rfl⟩
theorem decO_zeros : decO (List.replicate 32 0) = false := by
  rw [← Bool.not_eq_true]
  intro h
  exact absurd (decO_head h).1 (by decide)
theorem wrap64_mod (x : Int) : wrap64 x % 256 = x % 256 := by unfold wrap64; omega
theorem decO_sector (n : Int) : decO (sectorB n) = false := by
  unfold sectorB
  split
  · exact decO_zeros
  · rw [← Bool.not_eq_true]
    intro h
    obtain ⟨h0, h1, h2⟩ := decO_head h
    have g : ∀ k, k < 32 → ((List.range 32).map (secU n)).getD k 0 = secU n k := fun k hk => by simp [List.getD_eq_getElem?_getD, hk]
    rw [g 0 (by omega)] at h0
    rw [g 1 (by omega)] at h1
    rw [g 2 (by omega)] at h2
    have v0 := secU_val n 0
    have v1 := secU_val n 1
    have v2 := secU_val n 2
    rw [h0] at v0
    rw [h1] at v1
    rw [h2] at v2
    unfold secI at v0 v1 v2
    rw [wrap64_mod] at v0 v1 v2
    have e : ∀ m x : Int, (n + wrap64 (m * x)) % 256 = (n + m * x) % 256 := fun m x => by have := wrap64_mod (m * x); omega
    rw [e] at v0 v1 v2
    generalize bits .or .i64 (n.tdiv 7) 1 = m at v0 v1 v2
    have u0 : ((87 : UInt8).toNat : Int) = 87 := rfl
    have u1 : ((83 : UInt8).toNat : Int) = 83 := rfl
    have u2 : ((85 : UInt8).toNat : Int) = 85 := rfl
    rw [u0] at v0
    rw [u1] at v1
    rw [u2] at v2
    omega
/-- One Super of a number and a generation. -/
def oneS (gen n : Int) : Su := ⟨gen, goL n, goD n, goC n, 0, 0, 0, false, 0, withinI n 100, 0⟩
theorem oneS_ok {gen : Int} (n : Int) (h : 1 ≤ gen ∧ gen ≤ 2147483647) : suOk (oneS gen n) = true := by
  have b := withinI_bd n 100 (by omega)
  have h1 : genB (oneS gen n) = true := by simp [genB, oneS, h]
  have h2 : gOk (goL n) (goD n) (goC n) = true := go_ok n
  have h3 : aimB (oneS gen n) = true := by simp [aimB, oneS]
  have h4 : epB (oneS gen n) = true := by show decide (0 ≤ withinI n 100 ∧ withinI n 100 ≤ 65535) = true; exact decide_eq_true (by omega)
  have h5 : ouB (oneS gen n) = true := by simp [ouB, oneS]
  unfold suOk
  rw [h1, h3, h4, h5]
  simp only [Bool.true_and, Bool.and_true]
  exact h2
theorem oneS_64 {gen : Int} (n : Int) (h : (-9223372036854775808 ≤ gen ∧ gen ≤ 9223372036854775807)) : Su64 (oneS gen n) := by
  have b := withinI_bd n 100 (by omega)
  have g := gOk_bd (go_ok n)
  exact ⟨h, by show _ ∧ _; simp only [oneS]; omega, by show _ ∧ _; simp only [oneS]; omega, by show _ ∧ _; simp only [oneS]; omega, by show _ ∧ _; simp only [oneS]; omega, by show _ ∧ _; simp only [oneS]; omega, by show _ ∧ _; simp only [oneS]; omega, by show _ ∧ _; simp only [oneS]; omega, by show _ ∧ _; simp only [oneS]; omega, by show _ ∧ _; simp only [oneS]; omega⟩
theorem build_one (g l d c e : Int) (w : World) : (Instr.build 32 #[(0, .int .i64 g), (1, .agg #[.int .i64 l, .int .i64 d, .int .i64 c]), (5, .int .i64 e)]).run Tryd.prog w = .ok (.agg #[.int .i64 g, .int .i64 l, .int .i64 d, .int .i64 c, .int .i64 0, .int .i64 0, .int .i64 0, .bool false, .int .i64 0, .int .i64 e, .int .i64 0]) w := by kernel_rfl
theorem one_any (gen n : Int) (w : World) (hn : (-9223372036854775808 ≤ n ∧ n ≤ 9223372036854775807)) : Calls Tryd.prog 10 #[.int .i64 gen, .int .i64 n] w fun e w' => ∃ s, s = oneS gen n ∧ e = .returned (.agg #[.int .i64 s.g, .int .i64 s.al, .int .i64 s.ad, .int .i64 s.ac, .int .i64 s.bl, .int .i64 s.bd, .int .i64 s.bc, .bool s.r, .int .i64 s.wi, .int .i64 s.ep, .int .i64 s.ou]) ∧ Below w.heap.size w w' := by
  obtain ⟨s, hs⟩ : ∃ s, s = oneS gen n := ⟨_, rfl⟩
  have Hs := Lib.hid hs
  have hbd := build_one
  have HG := Lib.hid (fun W => playGood_any n W hn)
  have HW := Lib.hid (fun W => within_any n 100 W hn (by omega))
  have Hv : Hid (s = ⟨gen, goL n, goD n, goC n, 0, 0, 0, false, 0, withinI n 100, 0⟩) := hs
  clear hs
  generalize goL n = l at HG Hv
  generalize goD n = d at HG Hv
  generalize goC n = c at HG Hv
  generalize withinI n 100 = ep at HW Hv
  go_enter Tryd.func10, Tryd.ntmps10
  go_wp2_with fail
  refine (HG.out _).mono ?_
  rintro e w1 ⟨rfl, hb⟩
  have Z1 := Lib.hid ((hb.block w.heap.size (by simp)).trans (hp_new w _ _ rfl))
  have F1 := Lib.hid ((below1 w _).trans (hb.mono (by simp)))
  clear hb
  go_wp2_with (first
    | (go_at_call 8; refine (HW.out _).mono ?_; rintro e w2 ⟨rfl, rfl⟩)
    | (refine wpList_store_blk rfl 32 _ _ (by rfl) w.heap.size 0 (.agg (suL ⟨gen, l, d, c, 0, 0, 0, false, 0, ep, 0⟩).toArray) (by rfl) (by rfl) (suL suZ) 32 Z1.out (suL ⟨gen, l, d, c, 0, 0, 0, false, 0, ep, 0⟩) rfl 11 rfl (by kernel_rfl) (Nat.le_refl 11) (suL_one _) (suL ⟨gen, l, d, c, 0, 0, 0, false, 0, ep, 0⟩) (by rfl) ?_; intro w3 h3 g3; obtain ⟨z0, z1, z2, z3, z4, z5, z6, z7, z8, z9, z10⟩ := sat_block h3))
  have F3 := F1.out.grown g3 F1.out.size (fun j e => by injection e with e; omega)
  refine bodyPost_ret (v := .agg #[.int .i64 gen, .int .i64 l, .int .i64 d, .int .i64 c, .int .i64 0, .int .i64 0, .int .i64 0, .bool false, .int .i64 0, .int .i64 ep, .int .i64 0]) (by simp [results, Tryd.results10, go_sem, z0, z1, z2, z3, z4, z5, z6, z7, z8, z9, z10]) rfl ?_
  first | exact ⟨s, Hs.out, by rw [Hv.out], F3⟩ | exact ⟨by rw [← Hs.out, Hv.out], F3⟩
theorem new_best : bestE (Bch.new 3) = 3 := by
  have h : ∀ k, k < 2 → slotL Dsk.new k = [] := fun k hk => by
    unfold slotL
    rw [if_neg (by decide), if_neg]
    rw [new_now, sec_zero (by omega), decO_zeros]
    decide
  have h2 : dskSu Dsk.new = [] := by unfold dskSu; rw [h 0 (by omega), h 1 (by omega)]; rfl
  have h3 : bestTo (Bch.new 3) 3 = suZ := by
    show (dskSu Dsk.new).foldl pickS ((dskSu Dsk.new).foldl pickS ((dskSu Dsk.new).foldl pickS suZ)) = suZ
    rw [h2]; rfl
  unfold bestE
  rw [if_neg (by decide), if_pos]
  show (bestTo (Bch.new 3) 3).g = 0
  rw [h3]; rfl
theorem wakesSl_any (W : World) (ht : TabOk W) : Calls Tryd.prog 14 #[] W fun e w' => e = .returned (.bool true) ∧ Below W.heap.size W w' := by
  have hpn := ptr_eq
  have CN := Lib.hid (bp_new 3 W W (Below.refl _ _) (by omega))
  have Ht := Lib.hid ht
  clear ht
  go_enter Tryd.func14, Tryd.ntmps14
  go_wp2_with fail
  refine CN.out.mono ?_
  rintro e w ⟨b, H, rfl, hp, _, _⟩
  have CB := Lib.hid (best_any _ b H _ w hp.at' (Ht.out.below hp.bel Ht.out.pos))
  rw [new_best] at CB
  have HB := Lib.hid hp.bel
  clear hp
  unfold ptr at CB ⊢
  go_wp2_with fail
  refine CB.out.mono ?_
  rintro e w1 ⟨v, s, hs, rfl, _, hb1⟩
  have F := Lib.hid (HB.out.trans (hb1.mono HB.out.size))
  clear hs hb1
  go_wp2_with fail
  go_ret
  exact ⟨rfl, F.out.alloc F.out.size _⟩
end Go.Proofs.YtiipdhmfdgbmiaaDoor
end
section
set_option maxRecDepth 8000
set_option linter.unusedVariables false
set_option linter.unusedSimpArgs false
namespace Go.Proofs.YtiipdhmfdgbmiaaDoor
open Go.RowKit

theorem OwT.form {w : World} {B : Nat} {v : Value} {l : List Bool} (h : OwT w B v l) (hl : 0 < l.length) : ∃ g cap, v = .slice (some ⟨g, 0, none⟩) l.length cap ∧ l.length ≤ cap ∧ B ≤ g ∧ g < w.heap.size ∧ ∀ k, k < l.length → w.cell? ⟨g, k, none⟩ = some (.bool (l.getD k false)) := by
  obtain ⟨g, cap, rfl, hB, hg⟩ := World.ownsRow.form h hl
  obtain ⟨A, c, e, hc, _⟩ := own_form h
  injection e with _ _ e
  refine ⟨g, cap, rfl, by omega, hB, hg, fun k hk => ?_⟩
  rw [own_cell_at h k (by simp; exact hk), List.getElem?_map, List.getElem?_eq_getElem hk]
  simp [List.getD_eq_getElem?_getD, hk]
theorem OwT.rdo {w : World} {B g n cap : Nat} {l : List Bool} (h : OwT w B (.slice (some ⟨g, 0, none⟩) n cap) l) (hl : l.length ≤ 1000000) : RdO w w.heap.size (some ⟨g, 0, none⟩) l :=
  ⟨by omega, fun hn => by
    obtain ⟨g', cap', e, _, _, hg, hc⟩ := h.form hn
    injection e with e _ _
    injection e with e
    injection e with e
    subst e
    exact ⟨g, 0, rfl, hg, fun k hk => by rw [Nat.zero_add]; exact hc k hk⟩⟩
theorem store_n (N : Bch) (lv : List Bool) (s : Su) : (storeS N lv s).2.n = N.n := by
  unfold storeS
  repeat' split
  · rfl
  · exact wrote_n _
  · exact (flushed_n _).trans (wrote_n _)
theorem ow3 {w : World} {B : Nat} {v : Value} {x y z : Bool} (h : OwT w B v [x, y, z]) : ∃ g cap, v = .slice (some ⟨g, 0, none⟩) 3 cap ∧ 3 ≤ cap ∧ B ≤ g ∧ g < w.heap.size ∧ w.cell? ⟨g, 0, none⟩ = some (.bool x) ∧ w.cell? ⟨g, 1, none⟩ = some (.bool y) ∧ w.cell? ⟨g, 2, none⟩ = some (.bool z) := by
  obtain ⟨g, cap, rfl, hc, hB, hl, hk⟩ := h.form (by simp)
  exact ⟨g, cap, rfl, hc, hB, hl, hk 0 (by simp), hk 1 (by simp), hk 2 (by simp)⟩
theorem KX.sat {W w : World} {b : Nat} {H : BH} {N : Bch} {K : List (Nat × Obj)} (h : KX W w b H N K) {p : Nat} {s : Su} {t : TypeId} {f : Nat × Nat} (hm : (p, Obj.cells (suL s).toArray t f) ∈ K) : SAt w p s := sat_block (h.kp _ hm).1
section
variable {W w : World} {b : Nat} {H : BH} {N : Bch} {K : List (Nat × Obj)} (h : KX W w b H N K)
include h
/-- Store where there is power and no limit; live is a kept row. -/
theorem kx_store (s : Su) (hs : suOk s = true) (h64 : Su64 s) (ht : TabOk W) (hup : N.down = false) (hlf : N.left = -1) (lv : List Bool) (g n c : Nat) (l' : List Bool) (m : Nat) (cs : Array Value) (t : TypeId) (f : Nat × Nat)
    (hm : (g, Obj.cells cs t f) ∈ K) (hcs : cs = (l'.map Value.bool).toArray) (hlv : lv = l'.take m) (hl' : l'.length ≤ 1000000) (hn : n = lv.length) (hps : ∀ i, i < N.n → (N.D i).ps = []) (hdn : N.done ≤ 1000000) :
    Calls Tryd.prog 9 #[.pointer (some ⟨b, 0, none⟩), .slice (some ⟨g, 0, none⟩) n c, .agg #[.int .i64 s.g, .int .i64 s.al, .int .i64 s.ad, .int .i64 s.ac, .int .i64 s.bl, .int .i64 s.bd, .int .i64 s.bc, .bool s.r, .int .i64 s.wi, .int .i64 s.ep, .int .i64 s.ou]] w fun e w' => e = .returned (.int .i64 0) ∧ ∃ H' N', KX W w' b H' N' K ∧ StG N N' lv s := by
  have hk := h.kp _ hm
  have hr : RdO w w.heap.size (some ⟨g, 0, none⟩) lv := by rw [hlv]; exact (rdo_row hk.1 hcs hl').take m
  obtain ⟨h0, hg⟩ := store_good (N := N) (lv := lv) hs hup hlf
  refine (store_any W w b H N h.bp s h64 ht lv (some ⟨g, 0, none⟩) n c hn hr g (fun _ a e => by injection e with e; rw [← e]) hk.2.1 (fun i hi => by rw [hps i hi]; exact Nat.zero_le _) (by omega)).mono ?_
  rintro e w' ⟨rfl, hc⟩
  rw [h0]
  obtain ⟨H', k⟩ := h.bc hc hg.n
  exact ⟨rfl, H', _, k, hg⟩
theorem kx_refused (s : Su) (hs : suOk s = false) (h64 : Su64 s) (ht : TabOk W) (lv : List Bool) (g n c : Nat) (l' : List Bool) (m : Nat) (cs : Array Value) (t : TypeId) (f : Nat × Nat)
    (hm : (g, Obj.cells cs t f) ∈ K) (hcs : cs = (l'.map Value.bool).toArray) (hlv : lv = l'.take m) (hl' : l'.length ≤ 1000000) (hn : n = lv.length) (hps : ∀ i, i < N.n → (N.D i).ps = []) (hdn : N.done ≤ 1000000) :
    Calls Tryd.prog 9 #[.pointer (some ⟨b, 0, none⟩), .slice (some ⟨g, 0, none⟩) n c, .agg #[.int .i64 s.g, .int .i64 s.al, .int .i64 s.ad, .int .i64 s.ac, .int .i64 s.bl, .int .i64 s.bd, .int .i64 s.bc, .bool s.r, .int .i64 s.wi, .int .i64 s.ep, .int .i64 s.ou]] w fun e w' => e = .returned (.int .i64 1) ∧ ∃ H', KX W w' b H' N K := by
  have hk := h.kp _ hm
  have hr : RdO w w.heap.size (some ⟨g, 0, none⟩) lv := by rw [hlv]; exact (rdo_row hk.1 hcs hl').take m
  have e : storeS N lv s = (1, N) := if_pos hs
  refine (store_any W w b H N h.bp s h64 ht lv (some ⟨g, 0, none⟩) n c hn hr g (fun _ a e => by injection e with e; rw [← e]) hk.2.1 (fun i hi => by rw [hps i hi]; exact Nat.zero_le _) (by omega)).mono ?_
  rintro e' w' ⟨rfl, hc⟩
  rw [e] at hc ⊢
  obtain ⟨H', k⟩ := h.bc hc rfl
  exact ⟨rfl, H', k⟩
theorem kx_storeAny (s : Su) (h64 : Su64 s) (ht : TabOk W) (lv : List Bool) (g n c : Nat) (l' : List Bool) (m : Nat) (cs : Array Value) (t : TypeId) (f : Nat × Nat)
    (hm : (g, Obj.cells cs t f) ∈ K) (hcs : cs = (l'.map Value.bool).toArray) (hlv : lv = l'.take m) (hl' : l'.length ≤ 1000000) (hn : n = lv.length) (hps : ∀ i, i < N.n → (N.D i).ps = []) (hdn : N.done ≤ 1000000) (z : Int) (hz : (storeS N lv s).1 = z) :
    Calls Tryd.prog 9 #[.pointer (some ⟨b, 0, none⟩), .slice (some ⟨g, 0, none⟩) n c, .agg #[.int .i64 s.g, .int .i64 s.al, .int .i64 s.ad, .int .i64 s.ac, .int .i64 s.bl, .int .i64 s.bd, .int .i64 s.bc, .bool s.r, .int .i64 s.wi, .int .i64 s.ep, .int .i64 s.ou]] w fun e w' => e = .returned (.int .i64 z) ∧ ∃ H', KX W w' b H' (storeS N lv s).2 K := by
  subst hz
  have hk := h.kp _ hm
  have hr : RdO w w.heap.size (some ⟨g, 0, none⟩) lv := by rw [hlv]; exact (rdo_row hk.1 hcs hl').take m
  refine (store_any W w b H N h.bp s h64 ht lv (some ⟨g, 0, none⟩) n c hn hr g (fun _ a e => by injection e with e; rw [← e]) hk.2.1 (fun i hi => by rw [hps i hi]; exact Nat.zero_le _) (by omega)).mono ?_
  rintro e' w' ⟨rfl, hc⟩
  obtain ⟨H', k⟩ := h.bc hc (store_n _ _ _)
  exact ⟨rfl, H', k⟩
theorem kx_best (ht : TabOk W) : Calls Tryd.prog 11 #[.pointer (some ⟨b, 0, none⟩)] w fun e w' => ∃ v s, s = bestS N ∧ e = .returned (.tuple #[.agg #[.int .i64 s.g, .int .i64 s.al, .int .i64 s.ad, .int .i64 s.ac, .int .i64 s.bl, .int .i64 s.bd, .int .i64 s.bc, .bool s.r, .int .i64 s.wi, .int .i64 s.ep, .int .i64 s.ou], v, .int .i64 (bestE N)]) ∧ OwT w' w.heap.size v (hasL N) ∧ KX W w' b H N K ∧ Below w.heap.size w w' := by
  refine (best_any _ b H N w h.bp.at' (ht.below h.bp.bel ht.pos)).mono ?_
  rintro e w' ⟨v, s, hs, rfl, ho, hb⟩
  exact ⟨v, s, hs, rfl, ho, h.below hb, hb⟩
end
end Go.Proofs.YtiipdhmfdgbmiaaDoor
end
