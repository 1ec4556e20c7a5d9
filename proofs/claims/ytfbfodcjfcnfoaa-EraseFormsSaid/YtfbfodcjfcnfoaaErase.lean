/- What erase's greater functions compute: byP, byQ, byBoth, Solve. -/
import Derived.Test.YtfbfodcjfcnfoaaEraseBits
import Derived.Test.YtfbfodcjfcnfoaaGfInv
namespace Go.Proofs.Ytfbfodcjfcnfoaa
open Go.RowKit

theorem byP_any (A A' : Option Addr) (p : List UInt8) (all : List (List UInt8)) (n c n' c' : Nat) (w : World) (hn : n = p.length) (hn' : all.length = n') (hp : RdB w w.heap.size A p) (hr : RdR w w.heap.size A' all) :
    Calls Try.prog 20 #[.slice A n c, .slice A' n' c'] w fun e w' => ∃ v, e = .returned v ∧ OwB 5 w' w.heap.size v (byPB p all) ∧ Below w.heap.size w w' := by
  subst hn
  have H : Hid (byPB p all = pB [p, pB all]) := rfl
  go_enter Try.func20, Try.ntmps20
  go_wp2_with fail
  refine (p_any A' all n' c' w hn' hr).mono ?_
  rintro e w1 ⟨v1, rfl, ho1, hb1⟩
  obtain ⟨A1, c1, rfl, _, hr1⟩ := ho1.rd
  have hs1 := hb1.size
  go_wp2_with fail
  refine (add_any A A1 p (pB all) p.length _ c c1 w1.heap.size w1 rfl rfl ((hp.below hb1 (Nat.le_refl _)).more hs1) hr1 (Nat.le_refl _)).mono ?_
  rintro e w2 ⟨v2, rfl, ho2, hb2⟩
  rw [← H.out] at ho2
  go_wp2
  go_ret
  exact ⟨v2, rfl, ho2.le hs1, hb1.trans (hb2.mono hs1)⟩
theorem byQ_any (A A' : Option Addr) (q : List UInt8) (all : List (List UInt8)) (n c n' c' k : Nat) (w : World) (hn : n = q.length) (hn' : all.length = n') (hk : k ≤ 1000000) (hp : RdB w w.heap.size A q) (hr : RdR w w.heap.size A' all) :
    Calls Try.prog 21 #[.slice A n c, .slice A' n' c', .int .i64 (k : Int)] w fun e w' => ∃ v, e = .returned v ∧ OwB 5 w' w.heap.size v (byQB q all k) ∧ Below w.heap.size w w' := by
  subst hn
  have H : Hid (byQB q all k = scaleL (pB [q, qB all]) (gpow (-(k : Int)))) := rfl
  have CP := Lib.hid (fun W => pow_any (-(k : Int)) (by omega) W)
  have hf := gpow_lt (-(k : Int))
  generalize gpow (-(k : Int)) = f at H CP hf
  go_enter Try.func21, Try.ntmps21
  go_wp2_with fail
  refine (q_any A' all n' c' w hn' hr).mono ?_
  rintro e w1 ⟨v1, rfl, ho1, hb1⟩
  obtain ⟨A1, c1, rfl, _, hr1⟩ := ho1.rd
  have hs1 := hb1.size
  go_wp2_with fail
  refine (add_any A A1 q (qB all) q.length _ c c1 w1.heap.size w1 rfl rfl ((hp.below hb1 (Nat.le_refl _)).more hs1) hr1 (Nat.le_refl _)).mono ?_
  rintro e w2 ⟨v2, rfl, ho2, hb2⟩
  obtain ⟨A2, c2, rfl, _, hr2⟩ := ho2.rd
  have hs2 := hb2.size
  go_wp2_with fail
  refine (CP.out _).mono ?_
  rintro e w3 ⟨rfl, rfl⟩
  go_wp2_with fail
  refine (scale_any A2 _ _ c2 f w3 rfl hf hr2).mono ?_
  rintro e w4 ⟨v4, rfl, ho4, hb4⟩
  rw [← H.out] at ho4
  go_wp2
  go_ret
  exact ⟨v4, rfl, ho4.le (by omega), (hb1.trans (hb2.mono hs1)).trans (hb4.mono (by omega))⟩
theorem xor_gf {f g : Nat} (hf : f < 256) (hg : g < 256) : bits .xor .u8 (f : Int) (g : Int) = ((f ^^^ g : Nat) : Int) := u8_xor_nat _ _ hf hg
set_option maxHeartbeats 800000 in
theorem byBoth_any (A A' A'' : Option Addr) (p q : List UInt8) (all : List (List UInt8)) (n c n' c' m d i j : Nat) (w : World) (hn : n = p.length) (hn' : n' = q.length) (hm : all.length = m) (hi : i ≤ 1000000) (hj : j ≤ 1000000) (hp : RdB w w.heap.size A p) (hq : RdB w w.heap.size A' q) (hr : RdR w w.heap.size A'' all) :
    Calls Try.prog 19 #[.slice A n c, .slice A' n' c', .slice A'' m d, .int .i64 (i : Int), .int .i64 (j : Int)] w fun e w' => ∃ v u, e = .returned (.tuple #[v, u]) ∧ OwB 5 w' w.heap.size v (bothA p q all i j) ∧ OwB 5 w' w.heap.size u (bothB p q all i j) ∧ Below w.heap.size w w' := by
  subst hn hn'
  have HA : Hid (bothA p q all i j = pB [pB [p, pB all], bothB p q all i j]) := rfl
  have HB : Hid (bothB p q all i j = scaleL (pB [pB [q, qB all], scaleL (pB [p, pB all]) (gpow i)]) (ginv (gpow i ^^^ gpow j))) := rfl
  have CI := Lib.hid (fun W => pow_any (i : Int) (by omega) W)
  have CJ := Lib.hid (fun W => pow_any (j : Int) (by omega) W)
  have hf := gpow_lt (i : Int)
  have hg := gpow_lt (j : Int)
  generalize gpow (i : Int) = f at HB CI hf
  generalize gpow (j : Int) = g at HB CJ hg
  have ex := xor_gf hf hg
  have CV := Lib.hid (fun W => inv_any (f ^^^ g) (xor_lt8 hf hg) W)
  have hv := ginv_lt (f ^^^ g)
  generalize ginv (f ^^^ g) = iv at HB CV hv
  go_enter Try.func19, Try.ntmps19
  go_wp2_with fail
  refine (CI.out _).mono ?_
  rintro e w1 ⟨rfl, rfl⟩
  go_wp2_with fail
  refine (CJ.out _).mono ?_
  rintro e w2 ⟨rfl, rfl⟩
  go_wp2_with fail
  refine (p_any A'' all m d w2 hm hr).mono ?_
  rintro e w3 ⟨v3, rfl, ho3, hb3⟩
  obtain ⟨A3, c3, rfl, _, hr3⟩ := ho3.rd
  have hs3 := hb3.size
  go_wp2_with fail
  refine (add_any A A3 p (pB all) p.length _ c c3 w3.heap.size w3 rfl rfl ((hp.below hb3 (Nat.le_refl _)).more hs3) hr3 (Nat.le_refl _)).mono ?_
  rintro e w4 ⟨v4, rfl, ho4, hb4⟩
  have B4 := hb3.trans (hb4.mono hs3)
  have hs4 := B4.size
  obtain ⟨A4, c4, rfl, _, _⟩ := ho4.rd
  go_wp2_with fail
  refine (q_any A'' all m d w4 hm ((hr.below B4 (Nat.le_refl _)).more hs4)).mono ?_
  rintro e w5 ⟨v5, rfl, ho5, hb5⟩
  have B5 := B4.trans (hb5.mono hs4)
  have hs5 := B5.size
  obtain ⟨A5, c5, rfl, _, hr5⟩ := ho5.rd
  go_wp2_with fail
  refine (add_any A' A5 q (qB all) q.length _ c' c5 w5.heap.size w5 rfl rfl ((hq.below B5 (Nat.le_refl _)).more hs5) hr5 (Nat.le_refl _)).mono ?_
  rintro e w6 ⟨v6, rfl, ho6, hb6⟩
  have B6 := B5.trans (hb6.mono hs5)
  have hs6 := B6.size
  obtain ⟨A6, c6, rfl, _, hr6⟩ := ho6.rd
  have hoP := (ho4.below hb5).below hb6
  go_wp2_with fail
  refine (scale_any A4 _ _ c4 f w6 rfl hf hoP.rdS.1).mono ?_
  rintro e w7 ⟨v7, rfl, ho7, hb7⟩
  have B7 := B6.trans (hb7.mono hs6)
  have hs7 := B7.size
  obtain ⟨A7, c7, rfl, _, hr7⟩ := ho7.rd
  go_wp2_with fail
  refine (add_any A6 A7 _ _ _ _ c6 c7 w7.heap.size w7 rfl rfl ((hr6.below hb7 (Nat.le_refl _)).more hb7.size) hr7 (Nat.le_refl _)).mono ?_
  rintro e w8 ⟨v8, rfl, ho8, hb8⟩
  have B8 := B7.trans (hb8.mono hs7)
  have hs8 := B8.size
  obtain ⟨A8, c8, rfl, _, hr8⟩ := ho8.rd
  go_wp2_with fail
  refine (CV.out _).mono ?_
  rintro e w9 ⟨rfl, rfl⟩
  go_wp2_with fail
  refine (scale_any A8 _ _ c8 iv w9 rfl hv hr8).mono ?_
  rintro e w10 ⟨v10, rfl, ho10, hb10⟩
  have B10 := B8.trans (hb10.mono hs8)
  have hs10 := B10.size
  rw [← HB.out] at ho10
  have hoP2 := ((hoP.below hb7).below hb8).below hb10
  obtain ⟨A10, c10, rfl, _, hr10⟩ := ho10.rd
  go_wp2_with fail
  refine (add_any A4 A10 _ _ _ _ c4 c10 w10.heap.size w10 rfl rfl hoP2.rdS.1 hr10 (Nat.le_refl _)).mono ?_
  rintro e w11 ⟨v11, rfl, ho11, hb11⟩
  rw [← HA.out] at ho11
  have B11 := B10.trans (hb11.mono hs10)
  go_wp2
  go_ret2
  exact ⟨_, _, rfl, ho11.le (by omega), (ho10.le (by omega)).below hb11, B11⟩
end Go.Proofs.Ytfbfodcjfcnfoaa
