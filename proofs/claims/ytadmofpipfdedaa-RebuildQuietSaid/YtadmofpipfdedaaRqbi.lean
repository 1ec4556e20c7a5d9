/- Texts put together: RbdKit, RbdZero. -/
import Derived.Test.YtadmofpipfdedaaRqbh
import Derived.Test.YtadmofpipfdedaaRqbe
import Derived.Test.YtadmofpipfdedaaRqbc
section
set_option maxRecDepth 20000
set_option linter.unusedVariables false
set_option linter.unusedSimpArgs false
namespace Go.Proofs.Ytadmofpipfdedaa
open Go.RowKit

theorem rbS_n (N : Bch) (lv : List Bool) (dd : Int) (G : RG) : (rbS N lv dd G).2.n = N.n := by
  unfold rbS
  repeat' split
  · rfl
  · rfl
  · exact rbTo_n 16
  · exact (flush_n _ _).trans (rbTo_n 16)
section
variable {W w : World} {b : Nat} {H : BH} {N : Bch} {K : List (Nat × Obj)} {R : List (Option Addr × List (List UInt8))} {S : List (Option Addr × List UInt8)}
theorem ks_disk (h : KS W w b H N K R S) (lv : List Bool) (A : Option Addr) (m cp : Nat) (hm : m = lv.length) (hv : RdOX (BF b H N.n) w A lv) (dd : Int) (hd : (-9223372036854775808 ≤ dd ∧ dd ≤ 9223372036854775807)) (G : RG) (h64 : RG64 G)
    (hfo : ¬ (N.pickE dd ≠ 0 ∨ alvD N.n lv dd = true ∨ G.ok = false) → (N.D dd.toNat).f = false → RbF N lv G dd.toNat) (hps : ∀ i, i < N.n → (N.D i).ps.length ≤ 1999900) (hdn : N.done ≤ 1999900) :
    Calls Try.prog 18 #[.pointer (some ⟨b, 0, none⟩), .slice A m cp, .int .i64 dd, .agg #[.int .i64 G.l, .int .i64 G.d, .int .i64 G.c], .agg #[.int .i64 G.l', .int .i64 G.d', .int .i64 G.c'], .int .i64 G.s] w fun e w' => e = .returned (.int .i64 (rbS N lv dd G).1) ∧ ∃ H', KS W w' b H' (rbS N lv dd G).2 K R S := by
  refine (rbDisk_any h.bp lv A m cp hm hv dd hd G h64 hfo hps hdn).mono ?_
  rintro e w' ⟨rfl, ht⟩
  exact ⟨rfl, h.bc ht (rbS_n _ _ _ _)⟩
/-- What may not be asked for changes nothing. -/
theorem ks_disk_bad (h : KS W w b H N K R S) (lv : List Bool) (A : Option Addr) (m cp : Nat) (hm : m = lv.length) (hv : RdOX (BF b H N.n) w A lv) (dd : Int) (hd : (-9223372036854775808 ≤ dd ∧ dd ≤ 9223372036854775807)) (G : RG) (h64 : RG64 G)
    (hbad : N.pickE dd ≠ 0 ∨ alvD N.n lv dd = true ∨ G.ok = false) (hps : ∀ i, i < N.n → (N.D i).ps.length ≤ 1999900) (hdn : N.done ≤ 1999900) :
    Calls Try.prog 18 #[.pointer (some ⟨b, 0, none⟩), .slice A m cp, .int .i64 dd, .agg #[.int .i64 G.l, .int .i64 G.d, .int .i64 G.c], .agg #[.int .i64 G.l', .int .i64 G.d', .int .i64 G.c'], .int .i64 G.s] w fun e w' => e = .returned (.int .i64 1) ∧ ∃ H', KS W w' b H' N K R S := by
  have := ks_disk h lv A m cp hm hv dd hd G h64 (fun h _ => absurd hbad h) hps hdn
  rw [rbS_bad hbad] at this
  exact this
end
theorem rg64_3 {x y z x' y' z' s : Int} (h : ((-9223372036854775808 ≤ x ∧ x ≤ 9223372036854775807) ∧ (-9223372036854775808 ≤ y ∧ y ≤ 9223372036854775807) ∧ (-9223372036854775808 ≤ z ∧ z ≤ 9223372036854775807)) ∧ ((-9223372036854775808 ≤ x' ∧ x' ≤ 9223372036854775807) ∧ (-9223372036854775808 ≤ y' ∧ y' ≤ 9223372036854775807) ∧ (-9223372036854775808 ≤ z' ∧ z' ≤ 9223372036854775807)) ∧ (-9223372036854775808 ≤ s ∧ s ≤ 9223372036854775807)) : RG64 ⟨x, y, z, x', y', z', s⟩ := ⟨h.1.1, h.1.2.1, h.1.2.2, h.2.1.1, h.2.1.2.1, h.2.1.2.2, h.2.2⟩
def wkG : RG := ⟨5, 3, 1, 0, 0, 0, 0⟩
theorem wkG_ok : wkG.ok = true := by decide
theorem new_zero {n i j : Nat} (hj : j < 52) : secAt ((Bch.new n).D i).now j = zeroL 32 := sec_zeroS hj
theorem wk_h : RbH (Bch.new 3) [true, false, true] wkG 1 (zerR wkG) := rbh_of wkG_ok (by decide) rfl rfl rfl (rows_zer _) (zer_st wkG_ok fun i _ j _ hj => new_zero hj) OutK.new
theorem wk_ok : (rbS (Bch.new 3) [true, false, true] 1 wkG).1 = 0 := by
  obtain ⟨_, h⟩ := rb_all wk_h wkG_ok
  rcases h with h | h | h
  · exact h.1
  · exact absurd rfl h.2.2
  · obtain ⟨t, ht, hk, h7⟩ := h.2.2
    have hc := cnt_two (N := Bch.new 3) (lv := [true, false, true]) (D := 3) (d := 1) (e := 1) (by decide) (fun _ _ => rfl) (fun i hi h1 _ => by
      match i, hi with
      | 0, _ => rfl
      | 1, _ => exact absurd rfl h1
      | 2, _ => rfl)
    have h1 : cntB 3 (fun i => !srvD (Bch.new 3) [true, false, true] i) = 1 := by decide
    have e : (wkG.D t).toNat = 3 := by
      show (rg 0 3 0 t).toNat = 3
      unfold rg
      rw [if_neg (by omega)]; rfl
    have eL : wkG.L t = 5 := by
      show rg 0 5 0 t = 5
      unfold rg
      rw [if_neg (by omega)]
    have := rb_told wkG_ok (N := Bch.new 3) (lv := [true, false, true]) rfl (rows_zer _) (zer_st wkG_ok fun i _ j _ hj => new_zero hj) ht (by rw [e, h1, eL]; decide)
    rw [this] at h7; cases h7
theorem ks_disk_fok {W w : World} {b : Nat} {H : BH} {N : Bch} {K : List (Nat × Obj)} {R : List (Option Addr × List (List UInt8))} {S : List (Option Addr × List UInt8)} (h : KS W w b H N K R S) (lv : List Bool) (A : Option Addr) (m cp : Nat) (hm : m = lv.length) (hv : RdOX (BF b H N.n) w A lv) (k : Nat) (G : RG) (h64 : RG64 G) {rs : Nat → List (List UInt8)}
    (hh : RbH N lv G k rs) (hps : ∀ i, i < N.n → (N.D i).ps.length ≤ 1999900) (hdn : N.done ≤ 1999900) :
    Calls Try.prog 18 #[.pointer (some ⟨b, 0, none⟩), .slice A m cp, .int .i64 (k : Int), .agg #[.int .i64 G.l, .int .i64 G.d, .int .i64 G.c], .agg #[.int .i64 G.l', .int .i64 G.d', .int .i64 G.c'], .int .i64 G.s] w fun e w' => e = .returned (.int .i64 (rbS N lv (k : Int) G).1) ∧ ∃ H', KS W w' b H' (rbS N lv (k : Int) G).2 K R S := by
  have hn := hh.n
  have h8 := h.bp.at'.ok.n
  exact ks_disk h lv A m cp hm hv (k : Int) (by omega) G h64 (fun _ _ => by rw [Int.toNat_natCast]; exact rb_fok hh) hps hdn
set_option maxHeartbeats 1600000 in
theorem rbWakes_any (W : World) : Calls Try.prog 24 #[] W fun e w' => e = .returned (.bool true) ∧ Below W.heap.size W w' := by
  have hpn := ptr_eq
  have CN := Lib.hid (bp_new 3 W W (Below.refl _ _) (by omega))
  have h64 : RG64 wkG := rg64_3 ⟨⟨by omega, by omega, by omega⟩, ⟨by omega, by omega, by omega⟩, by omega⟩
  have C1 := Lib.hid (fun V H1 b K (k : KS W V b H1 (Bch.new 3) K [] []) (A : Option Addr) (hv : RdOX (BF b H1 3) V A [true, true, true]) => by
    have := ks_disk_bad k [true, true, true] A 3 3 rfl hv 1 (by omega) wkG h64 (.inr (.inl (by decide))) (fun i _ => Nat.zero_le _) (Nat.zero_le _)
    dsimp only [wkG] at this
    exact this)
  have C2 := Lib.hid (fun V H1 b K (k : KS W V b H1 (Bch.new 3) K [] []) (A : Option Addr) (hv : RdOX (BF b H1 3) V A [true, false, true]) => by
    have := ks_disk_fok k [true, false, true] A 3 3 rfl hv 1 wkG h64 wk_h (fun i _ => Nat.zero_le _) (Nat.zero_le _)
    rw [show (((1 : Nat) : Int)) = 1 from rfl, wk_ok] at this
    dsimp only [wkG] at this
    exact this)
  clear h64
  go_enter Try.func24, Try.ntmps24
  go_wp2_with fail
  refine CN.out.mono ?_
  rintro e w ⟨b, H, rfl, hp, _, _⟩
  unfold ptr
  have k1 := ((KX.ks ⟨hp, fun p hp => absurd hp (by simp)⟩ : KS W w b H (Bch.new 3) [] [] []).add (.cells #[.int .i64 5, .int .i64 3, .int .i64 1] 25)).add (.cells #[.bool true, .bool true, .bool true] 4)
  rw [show (w.alloc (.cells #[.int .i64 5, .int .i64 3, .int .i64 1] 25)).heap.size = w.heap.size + 1 by simp] at k1
  have CA := Lib.hid (C1.out _ _ _ _ k1 (some ⟨w.heap.size + 1, 0, none⟩) (k1.lv (g := w.heap.size + 1) (lv := [true, true, true]) (List.mem_cons_self ..) rfl (by simp)))
  clear k1 hp C1
  go_wp2_with fail
  (with_reducible refine CA.out.mono ?_); rintro e w2 ⟨rfl, H2, k2⟩
  obtain ⟨g1, g2, g3⟩ := k2.gat (g := w.heap.size) (l := 5) (d := 3) (c := 1) (t := 25) (f := (0, 0)) (by simp)
  have k3 := k2.add (.cells #[.bool true, .bool false, .bool true] 4)
  have CB := Lib.hid (C2.out _ _ _ _ k3 (some ⟨w2.heap.size, 0, none⟩) (k3.lv (g := w2.heap.size) (lv := [true, false, true]) (List.mem_cons_self ..) rfl (by simp)))
  have hgz := (Array.getElem?_eq_some_iff.1 (k2.kx.kp (w.heap.size, .cells #[.int .i64 5, .int .i64 3, .int .i64 1] 25 (0, 0)) (by simp)).1).1
  clear k2 k3 C2 CA
  go_wp2_with fail
  (with_reducible refine CB.out.mono ?_); rintro e w4 ⟨rfl, H4, k4⟩
  have F := Lib.hid k4.bp.bel
  clear k4 CB
  go_wp2_with fail
  go_ret
  exact ⟨rfl, F.out⟩
end Go.Proofs.Ytadmofpipfdedaa
end
section
set_option linter.unusedVariables false
set_option linter.unusedSimpArgs false
namespace Go.Proofs.Ytadmofpipfdedaa
open Go.RowKit

theorem rbS_done (N : Bch) (lv : List Bool) (dd : Int) (G : RG) : (rbS N lv dd G).2.done ≤ N.done + 16 := by
  have h := rbTo_done (lv := lv) (G := G) (dd := dd.toNat) (N := N) 16
  have hf : ∀ (M : Bch) (d : Int), (M.flush d).done = M.done := fun M d => by unfold Bch.flush; split <;> rfl
  unfold rbS
  repeat' split
  · exact Nat.le_add_right _ _
  · exact Nat.le_add_right _ _
  · exact h
  · show ((rbTo lv G dd.toNat N 16).2.flush dd).done ≤ _
    rw [hf]; exact h
section
variable {N : Bch} {lv : List Bool} {G : RG} {k m : Nat}
end
theorem KS.open2 {W w w' : World} {b : Nat} {H : BH} {N : Bch} (h : KS w w' b H N [] [] []) (hb : Below W.heap.size W w) {g1 g2 : Nat} {o1 o2 : Obj} (h1 : w.heap[g1]? = some o1) (h2 : w.heap[g2]? = some o2) (hW1 : W.heap.size ≤ g1) (hW2 : W.heap.size ≤ g2) : KS W w' b H N [(g1, o1), (g2, o2)] [] [] := by
  have hl1 := (Array.getElem?_eq_some_iff.1 h1).1
  have hl2 := (Array.getElem?_eq_some_iff.1 h2).1
  refine ⟨⟨⟨h.bp.at'.mono hb.size, hb.trans (h.bp.bel.mono hb.size)⟩, fun p hp => ?_⟩, fun _ hp => absurd hp (by simp), fun _ hp => absurd hp (by simp)⟩
  simp only [List.mem_cons, List.not_mem_nil, or_false] at hp
  rcases hp with rfl | rfl
  · exact ⟨(h.bp.bel.block g1 hl1).trans h1, fun e => by have := (h.bp.at'.flt e).1; omega, hW1⟩
  · exact ⟨(h.bp.bel.block g2 hl2).trans h2, fun e => by have := (h.bp.at'.flt e).1; omega, hW2⟩
end Go.Proofs.Ytadmofpipfdedaa
end
