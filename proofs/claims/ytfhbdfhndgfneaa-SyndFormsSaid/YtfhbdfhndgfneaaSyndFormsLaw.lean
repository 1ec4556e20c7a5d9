/- SyndForms' walk. -/
import Derived.Test.YtfhbdfhndgfneaaRefGf
import Derived.Test.YtfhbdfhndgfneaaSyndWakes
import Derived.Test.YtfhbdfhndgfneaaSyndOwn
namespace Go.Proofs.Ytfhbdfhndgfneaa
open Go.RowKit

theorem u8_all (p : UInt8 → Bool) (h : allB 256 (fun k => p (UInt8.ofNat k)) = true) (n : UInt8) : p n = true := by
  have := allB_iff h n.toNat n.toNat_lt
  simpa using this
theorem m_p3 (n : UInt8) : pB [[1, n], [2, 0], [4, n]] = [7, 0] := of_decide_eq_true (u8_all (fun n => decide (pB [[1, n], [2, 0], [4, n]] = [7, 0])) (by decide +kernel) n)
theorem m_q3 (n : UInt8) : qB [[1, n], [2, 0], [4, n]] = [21, n ^^^ mulU 4 n.toNat] := of_decide_eq_true (u8_all (fun n => decide (qB [[1, n], [2, 0], [4, n]] = [21, n ^^^ mulU 4 n.toNat])) (by decide +kernel) n)
theorem m_p1 (n : UInt8) : pB [[1, n]] = [1, n] := of_decide_eq_true (u8_all (fun n => decide (pB [[1, n]] = [1, n])) (by decide +kernel) n)
theorem m_q1 (n : UInt8) : qB [[1, n]] = [1, n] := of_decide_eq_true (u8_all (fun n => decide (qB [[1, n]] = [1, n])) (by decide +kernel) n)
theorem m_p2 (n : UInt8) : pB [[1, n], [1]] = [] := rfl
theorem m_q2 (n : UInt8) : qB [[1], [1, n]] = [] := rfl
theorem m_a0 (n : UInt8) : pB [[1, n], []] = [] := rfl
theorem m_a2 (n : UInt8) : pB [[1, n], [4, n]] = [5, 0] := of_decide_eq_true (u8_all (fun n => decide (pB [[1, n], [4, n]] = [5, 0])) (by decide +kernel) n)
theorem m_s1 : scaleL [128, 1] 2 = [29, 2] := by decide +kernel
theorem m_s0 (n : UInt8) : scaleL [1, n] 0 = [0, 0] := of_decide_eq_true (u8_all (fun n => decide (scaleL [1, n] 0 = [0, 0])) (by decide +kernel) n)

/-- What stays as it is while the law runs. -/
def FS (w : World) (ga gb gc : Nat) (n : UInt8) (W : World) : Prop :=
  RdB W W.heap.size (some ⟨ga, 0, none⟩) [1, n] ∧ RdB W W.heap.size (some ⟨gb, 0, none⟩) [2, 0] ∧ RdB W W.heap.size (some ⟨gc, 0, none⟩) [4, n] ∧ Below w.heap.size w W
theorem FS.below {w : World} {ga gb gc : Nat} {n : UInt8} {W W' : World} (h : FS w ga gb gc n W) (hb : Below W.heap.size W W') : FS w ga gb gc n W' :=
  ⟨(h.1.below hb (Nat.le_refl _)).more hb.size, (h.2.1.below hb (Nat.le_refl _)).more hb.size, (h.2.2.1.below hb (Nat.le_refl _)).more hb.size, h.2.2.2.trans (hb.mono h.2.2.2.size)⟩
theorem FS.rows3 {w : World} {ga gb gc : Nat} {n : UInt8} {W : World} (h : FS w ga gb gc n W) :
    RdR (W.alloc (.cells #[.slice (some ⟨ga, 0, none⟩) 2 2, .slice (some ⟨gb, 0, none⟩) 2 2, .slice (some ⟨gc, 0, none⟩) 2 2] 22)) (W.alloc (.cells #[.slice (some ⟨ga, 0, none⟩) 2 2, .slice (some ⟨gb, 0, none⟩) 2 2, .slice (some ⟨gc, 0, none⟩) 2 2] 22)).heap.size (some ⟨W.heap.size, 0, none⟩) [[1, n], [2, 0], [4, n]] := by
  have h' := h.below (below1 W (.cells #[.slice (some ⟨ga, 0, none⟩) 2 2, .slice (some ⟨gb, 0, none⟩) 2 2, .slice (some ⟨gc, 0, none⟩) 2 2] 22))
  exact rdr_block3 (hp_new _ _ _ rfl) rfl rfl rfl h'.1 h'.2.1 h'.2.2.1 (Nat.le_refl _)
theorem FS.row1 {w : World} {ga gb gc : Nat} {n : UInt8} {W : World} (h : FS w ga gb gc n W) :
    RdR (W.alloc (.cells #[.slice (some ⟨ga, 0, none⟩) 2 2] 22)) (W.alloc (.cells #[.slice (some ⟨ga, 0, none⟩) 2 2] 22)).heap.size (some ⟨W.heap.size, 0, none⟩) [[1, n]] := by
  have h' := h.below (below1 W (.cells #[.slice (some ⟨ga, 0, none⟩) 2 2] 22))
  exact rdr_block1 (hp_new _ _ _ rfl) rfl h'.1 (Nat.le_refl _)
theorem FS.rowA {w : World} {ga gb gc : Nat} {n : UInt8} {W : World} (h : FS w ga gb gc n W) :
    RdR ((W.alloc (.cells #[.int .u8 1] 5)).alloc (.cells #[.slice (some ⟨ga, 0, none⟩) 2 2, .slice (some ⟨W.heap.size, 0, none⟩) 1 1] 22)) ((W.alloc (.cells #[.int .u8 1] 5)).alloc (.cells #[.slice (some ⟨ga, 0, none⟩) 2 2, .slice (some ⟨W.heap.size, 0, none⟩) 1 1] 22)).heap.size (some ⟨W.heap.size + 1, 0, none⟩) [[1, n], [1]] := by
  have h' := h.below (below2 W (.cells #[.int .u8 1] 5) (.cells #[.slice (some ⟨ga, 0, none⟩) 2 2, .slice (some ⟨W.heap.size, 0, none⟩) 1 1] 22))
  exact rdr_block2 (hp_new _ _ _ (by simp)) rfl rfl h'.1 (rdb_lit (by rw [hp_old _ _ _ (by simp)]; exact hp_new _ _ _ rfl) (by simp) rfl) (Nat.le_refl _)
theorem FS.rowB {w : World} {ga gb gc : Nat} {n : UInt8} {W : World} (h : FS w ga gb gc n W) :
    RdR ((W.alloc (.cells #[.int .u8 1] 5)).alloc (.cells #[.slice (some ⟨W.heap.size, 0, none⟩) 1 1, .slice (some ⟨ga, 0, none⟩) 2 2] 22)) ((W.alloc (.cells #[.int .u8 1] 5)).alloc (.cells #[.slice (some ⟨W.heap.size, 0, none⟩) 1 1, .slice (some ⟨ga, 0, none⟩) 2 2] 22)).heap.size (some ⟨W.heap.size + 1, 0, none⟩) [[1], [1, n]] := by
  have h' := h.below (below2 W (.cells #[.int .u8 1] 5) (.cells #[.slice (some ⟨W.heap.size, 0, none⟩) 1 1, .slice (some ⟨ga, 0, none⟩) 2 2] 22))
  exact rdr_block2 (hp_new _ _ _ (by simp)) rfl rfl (rdb_lit (by rw [hp_old _ _ _ (by simp)]; exact hp_new _ _ _ rfl) (by simp) rfl) h'.1 (Nat.le_refl _)
theorem same_lit {W : World} {A : Option Addr} {n c B m : Nat} {bs : List UInt8} {cs : Array Value} {t : TypeId} (h : OwB 5 W B (.slice A n c) bs) (hm : bs.length = m) (hcs : cs.toList = bs.map bv) :
    Calls Try.prog 7 #[.slice A n c, .slice (some ⟨W.heap.size, 0, none⟩) m m] (W.alloc (.cells cs t)) fun e w' => e = .returned (.bool true) ∧ Below W.heap.size W w' := by
  subst hm
  refine (same_any A _ n bs.length c bs.length _ bs bs _ h.rdS.2.1 rfl ((h.rdS.1.below (below1 W _) (Nat.le_refl _)).more (by simp)) (rdb_lit (hp_new _ _ _ rfl) h.2 hcs)).mono ?_
  rintro e w' ⟨rfl, k, rfl⟩
  exact ⟨by rw [decide_eq_true rfl], (below1 W _).trans (belowN _ _ _)⟩
theorem same_rd {W : World} {A A' : Option Addr} {n c B m c' : Nat} {bs : List UInt8} (h : OwB 5 W B (.slice A n c) bs) (h' : RdB W W.heap.size A' bs) (hm : bs.length = m) :
    Calls Try.prog 7 #[.slice A n c, .slice A' m c'] W fun e w' => e = .returned (.bool true) ∧ Below W.heap.size W w' := by
  subst hm
  refine (same_any A A' n bs.length c c' _ bs bs _ h.rdS.2.1 rfl h.rdS.1 h').mono ?_
  rintro e w' ⟨rfl, k, rfl⟩
  exact ⟨by rw [decide_eq_true rfl], belowN _ _ _⟩
set_option maxRecDepth 100000 in
set_option maxHeartbeats 1600000 in
theorem forms (n : UInt8) (w : World) : Calls Try.prog 3 #[.int .u8 (n.toNat : Int)] w fun e w' => e = .returned (.bool true) ∧ Below w.heap.size w w' := by
  have M1 := Lib.hid (m_p3 n)
  have M2 := Lib.hid (m_q3 n)
  have M3 := Lib.hid (m_p1 n)
  have M4 := Lib.hid (m_q1 n)
  have M5 := Lib.hid (m_p2 n)
  have M6 := Lib.hid (m_q2 n)
  have M7 := Lib.hid (m_a0 n)
  have M8 := Lib.hid (m_a2 n)
  have M9 := Lib.hid (m_s0 n)
  have CM : Hid (∀ W, Calls Try.prog 10 #[.int .u8 4, .int .u8 (n.toNat : Int)] W fun e w' => e = .returned (.int .u8 ((mulU 4 n.toNat).toNat : Int)) ∧ w' = W) := Lib.hid fun W => by
    rw [mulU_nat]
    exact refMul_any 4 n.toNat (by decide) n.toNat_lt W
  have ex := xor_u8 n (mulU 4 n.toNat)
  generalize mulU 4 n.toNat = m at M2 ex CM
  go_enter Try.func3, Try.ntmps3
  go_wp2_with fail
  have rA : RdB (((w.alloc (.cells #[.int .u8 1, .int .u8 (n.toNat : Int)] 5)).alloc (.cells #[.int .u8 2, .int .u8 0] 5)).alloc (.cells #[.int .u8 4, .int .u8 (n.toNat : Int)] 5)) (((w.alloc (.cells #[.int .u8 1, .int .u8 (n.toNat : Int)] 5)).alloc (.cells #[.int .u8 2, .int .u8 0] 5)).alloc (.cells #[.int .u8 4, .int .u8 (n.toNat : Int)] 5)).heap.size (some ⟨w.heap.size, 0, none⟩) [1, n] :=
    rdb_lit (by rw [hp_old _ _ _ (by simp; omega), hp_old _ _ _ (by simp)]; exact hp_new _ _ _ rfl) (by simp) rfl
  have rB : RdB (((w.alloc (.cells #[.int .u8 1, .int .u8 (n.toNat : Int)] 5)).alloc (.cells #[.int .u8 2, .int .u8 0] 5)).alloc (.cells #[.int .u8 4, .int .u8 (n.toNat : Int)] 5)) (((w.alloc (.cells #[.int .u8 1, .int .u8 (n.toNat : Int)] 5)).alloc (.cells #[.int .u8 2, .int .u8 0] 5)).alloc (.cells #[.int .u8 4, .int .u8 (n.toNat : Int)] 5)).heap.size (some ⟨w.heap.size + 1, 0, none⟩) [2, 0] :=
    rdb_lit (by rw [hp_old _ _ _ (by simp)]; exact hp_new _ _ _ (by simp)) (by simp) rfl
  have rC : RdB (((w.alloc (.cells #[.int .u8 1, .int .u8 (n.toNat : Int)] 5)).alloc (.cells #[.int .u8 2, .int .u8 0] 5)).alloc (.cells #[.int .u8 4, .int .u8 (n.toNat : Int)] 5)) (((w.alloc (.cells #[.int .u8 1, .int .u8 (n.toNat : Int)] 5)).alloc (.cells #[.int .u8 2, .int .u8 0] 5)).alloc (.cells #[.int .u8 4, .int .u8 (n.toNat : Int)] 5)).heap.size (some ⟨w.heap.size + 1 + 1, 0, none⟩) [4, n] :=
    rdb_lit (hp_new _ _ _ (by simp)) (by simp) rfl
  have F := below3 w (.cells #[.int .u8 1, .int .u8 (n.toNat : Int)] 5) (.cells #[.int .u8 2, .int .u8 0] 5) (.cells #[.int .u8 4, .int .u8 (n.toNat : Int)] 5)
  have hsz : Hid ((((w.alloc (.cells #[.int .u8 1, .int .u8 (n.toNat : Int)] 5)).alloc (.cells #[.int .u8 2, .int .u8 0] 5)).alloc (.cells #[.int .u8 4, .int .u8 (n.toNat : Int)] 5)).heap.size = w.heap.size + 1 + 1 + 1) := Lib.hid (by simp)
  generalize ((w.alloc (.cells #[.int .u8 1, .int .u8 (n.toNat : Int)] 5)).alloc (.cells #[.int .u8 2, .int .u8 0] 5)).alloc (.cells #[.int .u8 4, .int .u8 (n.toNat : Int)] 5) = w3 at rA rB rC F hsz ⊢
  have S3 : FS w w.heap.size (w.heap.size + 1) (w.heap.size + 1 + 1) n w3 := ⟨rA, rB, rC, F⟩
  rw [← hsz.out]
  clear rA rB rC F hsz
  generalize w.heap.size + 1 = gb at S3 ⊢
  generalize gb + 1 = gc at S3 ⊢
  refine (p_gives S3.rows3 rfl M1.out).mono ?_
  rintro e w4 ⟨A4, c4, rfl, ho4, hb4⟩
  have S4 := (S3.below (below1 w3 _)).below hb4
  go_wp2_with fail
  refine (same_lit ho4 rfl rfl).mono ?_
  rintro e w5 ⟨rfl, hb5⟩
  have S5 := S4.below hb5
  clear S3 S4 hb4 hb5 ho4
  go_wp2_with fail
  refine (q_gives S5.rows3 rfl M2.out).mono ?_
  rintro e w6 ⟨A6, c6, rfl, ho6, hb6⟩
  have S6 := (S5.below (below1 w5 _)).below hb6
  go_wp2_with fail
  refine (CM.out _).mono ?_
  rintro e w7 ⟨rfl, rfl⟩
  go_wp2_with fail
  refine (same_lit ho6 rfl rfl).mono ?_
  rintro e w8 ⟨rfl, hb8⟩
  have S8 := S6.below hb8
  clear S5 S6 hb6 hb8 ho6
  go_wp2_with fail
  refine (p_gives S8.row1 rfl M3.out).mono ?_
  rintro e w9 ⟨A9, c9, rfl, ho9, hb9⟩
  have S9 := (S8.below (below1 w8 _)).below hb9
  go_wp2_with fail
  refine (same_rd ho9 S9.1 rfl).mono ?_
  rintro e w10 ⟨rfl, hb10⟩
  have S10 := S9.below hb10
  clear S8 S9 hb9 hb10 ho9
  go_wp2_with fail
  refine (q_gives S10.row1 rfl M4.out).mono ?_
  rintro e w11 ⟨A11, c11, rfl, ho11, hb11⟩
  have S11 := (S10.below (below1 w10 _)).below hb11
  go_wp2_with fail
  refine (same_rd ho11 S11.1 rfl).mono ?_
  rintro e w12 ⟨rfl, hb12⟩
  have S12 := S11.below hb12
  clear S10 S11 hb11 hb12 ho11
  go_wp2_with fail
  refine (p_gives S12.rowA rfl M5.out).mono ?_
  rintro e w13 ⟨A13, c13, rfl, ho13, hb13⟩
  have S13 := (S12.below (below2 w12 _ _)).below hb13
  clear S12 hb13 ho13
  go_wp2_with fail
  refine (q_gives S13.rowB rfl M6.out).mono ?_
  rintro e w14 ⟨A14, c14, rfl, ho14, hb14⟩
  have S14 := (S13.below (below2 w13 _ _)).below hb14
  clear S13 hb14 ho14
  go_wp2_with fail
  refine ((add_any _ none [1, n] [] 2 0 2 0 w14.heap.size w14 rfl rfl S14.1 (RdB.nil _ _ _) (Nat.le_refl _)).mono fun _ _ h => gives_of M7.out h).mono ?_
  rintro e w15 ⟨A15, c15, rfl, ho15, hb15⟩
  have S15 := S14.below hb15
  clear S14 hb15 ho15
  go_wp2_with fail
  refine ((add_any _ _ [1, n] [4, n] 2 2 2 2 w15.heap.size w15 rfl rfl S15.1 S15.2.2.1 (Nat.le_refl _)).mono fun _ _ h => gives_of M8.out h).mono ?_
  rintro e w16 ⟨A16, c16, rfl, ho16, hb16⟩
  have S16 := S15.below hb16
  go_wp2_with fail
  refine (same_lit ho16 rfl rfl).mono ?_
  rintro e w17 ⟨rfl, hb17⟩
  have S17 := S16.below hb17
  clear S15 S16 hb16 hb17 ho16
  go_wp2_with fail
  refine ((scale_any _ [128, 1] 2 2 2 _ rfl (by decide) (rdb_lit (hp_new _ _ _ rfl) (by simp) rfl)).mono fun _ _ h => gives_of m_s1 h).mono ?_
  rintro e w18 ⟨A18, c18, rfl, ho18, hb18⟩
  have S18 := (S17.below (below1 w17 _)).below hb18
  go_wp2_with fail
  refine (same_lit ho18 rfl rfl).mono ?_
  rintro e w19 ⟨rfl, hb19⟩
  have S19 := S18.below hb19
  clear S17 S18 hb18 hb19 ho18
  go_wp2_with fail
  refine ((scale_any _ [1, n] 2 2 0 w19 rfl (by decide) S19.1).mono fun _ _ h => gives_of M9.out h).mono ?_
  rintro e w20 ⟨A20, c20, rfl, ho20, hb20⟩
  have S20 := S19.below hb20
  go_wp2_with fail
  refine (same_lit ho20 rfl rfl).mono ?_
  rintro e w21 ⟨rfl, hb21⟩
  have S21 := S20.below hb21
  clear S19 S20 hb20 hb21 ho20
  go_wp2_with fail
  refine ((scale_any none [] 0 0 7 w21 rfl (by decide) (RdB.nil _ _ _)).mono fun _ _ h => gives_of (rfl : scaleL [] 7 = []) h).mono ?_
  rintro e w22 ⟨A22, c22, rfl, ho22, hb22⟩
  have S22 := S21.below hb22
  clear S21 hb22 ho22
  go_wp2_with fail
  refine (wakesSynd_any w22).mono ?_
  rintro e w23 ⟨rfl, hb23⟩
  have S23 := S22.below hb23
  go_wp2
  go_ret
  exact ⟨rfl, S23.2.2.2⟩
end Go.Proofs.Ytfhbdfhndgfneaa
