/- What record.head tells: the first sector up to its zeros. -/
import Derived.Test.YtfgiomidlfoonaaDoorRecFind
import Derived.Test.YtfgiomidlfoonaaDoorKeep
import Derived.Test.YtfgiomidlfoonaaDoorOwnFull
set_option maxRecDepth 8000
set_option linter.unusedVariables false
set_option linter.unusedSimpArgs false
namespace Go.Proofs.YtfgiomidlfoonaaDoor
open Go.RowKit

theorem own_lit {e : TypeId} {W : World} {C : Array Value} {n : Nat} (bs : List UInt8) (hC : C.toList = bs.map bv) (hn : bs.length = n) (h : n ≤ 100000) : OwB e (W.alloc (.cells C e)) W.heap.size (.slice (some ⟨W.heap.size, 0, none⟩) n n) bs := by
  subst hn
  have hs : C.size = bs.length := by rw [← Array.length_toList, hC, List.length_map]
  have hh := World.ownsRow_lit (base := W.heap.size) (e := e) (size := 1) W C bs.length (Nat.le_refl _) (by unfold maxLen; omega) (by omega)
  rw [hC] at hh
  exact ⟨hh, by omega⟩
theorem rd_lit {e : TypeId} {W : World} {C : Array Value} {g : Nat} (bs : List UInt8) (hg : g = W.heap.size) (hC : C.toList = bs.map bv) (h : bs.length ≤ 100000) : RdB (W.alloc (.cells C e)) (W.alloc (.cells C e)).heap.size (some ⟨g, 0, none⟩) bs := by
  subst hg
  exact (own_lit (e := e) bs hC rfl h).rdS.1
theorem byN_u8 {n : Int} (hn : 0 ≤ n) (k : Nat) (hk : k < 4) : n / 256 ^ k % 256 = ((byN n k).toNat : Int) := by
  obtain ⟨m, rfl⟩ := Int.eq_ofNat_of_zero_le hn
  match k, hk with
  | 0, _ => simp only [byN, UInt8.toNat_ofNat']; omega
  | 1, _ => simp only [byN, UInt8.toNat_ofNat']; omega
  | 2, _ => simp only [byN, UInt8.toNat_ofNat']; omega
  | 3, _ => simp only [byN, UInt8.toNat_ofNat']; omega
/-- What stays while head grows its bytes. -/
def HdS (w : World) (s : Int) (A : Option Addr) (n c : Nat) (v : Value) (bs : List UInt8) (V : World) : Prop :=
  OwB 5 V (w.heap.size + 1) v bs ∧ Below w.heap.size w V ∧ V.cell? ⟨w.heap.size, 0, none⟩ = some (.int .i64 s) ∧ V.cell? ⟨w.heap.size, 1, none⟩ = some (.slice A n c)
theorem HdS.alloc {w V : World} {s : Int} {A : Option Addr} {n c : Nat} {v : Value} {bs : List UInt8} (h : HdS w s A n c v bs V) (o : Obj) : HdS w s A n c v bs (V.alloc o) := by
  obtain ⟨h0, h1, h2, h3⟩ := h
  have k := fun (a : Addr) (u : Value) (e : V.cell? a = some u) => (World.cell?_alloc_lt V o a (World.block_lt_of_cell? _ _ e)).trans e
  exact ⟨h0.below (below1 V o), h1.alloc h1.size o, k _ _ h2, k _ _ h3⟩
theorem HdS.grow {w V V' : World} {s : Int} {A : Option Addr} {n c : Nat} {v v' : Value} {bs bs' : List UInt8} (h : HdS w s A n c v bs V) (ho : OwB 5 V' (w.heap.size + 1) v' bs') (hg : V.grownBy V' v.ownBlock) : HdS w s A n c v' bs' V' := by
  obtain ⟨h0, h1, h2, h3⟩ := h
  have hne : ∀ j, v.ownBlock = some j → w.heap.size + 1 ≤ j := fun j hj => (h0.lt j hj).1
  have k := fun (i : Nat) (u : Value) (e : V.cell? ⟨w.heap.size, i, none⟩ = some u) => (World.cell?_of_block (a := ⟨w.heap.size, i, none⟩) (hg.block w.heap.size (World.block_lt_of_cell? _ _ e) (fun e' => by have := hne _ e'.symm; omega))).trans e
  exact ⟨ho, h1.grown hg h1.size (fun j hj => by have := hne j hj; omega), k _ _ h2, k _ _ h3⟩
theorem hd_box (w : World) (s : Int) (A : Option Addr) (n c : Nat) (C C2 : Array Value) (f : Nat × Nat) (bs : List UInt8) (hC : C.toList = bs.map bv) (h : bs.length ≤ 100000) :
    ∃ W, W = ((w.alloc (.cells #[.int .i64 s, .slice A n c] 32)).alloc (.cells C 5 f)).alloc (.cells C2 5) ∧ RdB W W.heap.size (some ⟨w.heap.size + 1, 0, none⟩) bs ∧ HdS w s A n c (.slice none 0 0) [] W := by
  refine ⟨_, rfl, ?_, ?_⟩
  · refine rdb_lit (cs := C) (t := 5) (f := f) ?_ (by omega) hC
    rw [heap_alloc_old _ _ (by simp)]
    exact hp_new _ _ _ (by simp)
  · have S0 : HdS w s A n c (.slice none 0 0) [] (w.alloc (.cells #[.int .i64 s, .slice A n c] 32)) := by
      have c' := fun i => cell_of_row _ _ i _ _ _ (heap_alloc_new w (.cells #[.int .i64 s, .slice A n c] 32))
      exact ⟨OwB.nil _ _ _, below1 _ _, c' 0, c' 1⟩
    exact (S0.alloc _).alloc _
theorem hdB_take (s : Int) (l : List It) : hdB s l = [87, 82, 69, 67] ++ [byN s 3, byN s 2, byN s 1, byN s 0] ++ [UInt8.ofNat l.length] ++ plcB l := rfl
theorem plcB_take {l : List It} {j : Nat} (hj : j < l.length) : plcB (l.take (j + 1)) = plcB (l.take j) ++ [byN (itN l j).d 0, byN (itN l j).a 0] := by
  rw [its_take hj, plcB_snoc]
set_option maxHeartbeats 2000000 in
theorem head_any (A : Option Addr) (n c : Nat) (s : Int) (l : List It) (w : World) (hn : l.length = n) (hnc : n ≤ c) (h : RdI w w.heap.size A l) (hk : recOk s l = true) :
    Calls Tryd.prog 21 #[.agg #[.int .i64 s, .slice A n c]] w fun e w' => ∃ v, e = .returned v ∧ OwB 5 w' w.heap.size v (hdB s l) ∧ Below w.heap.size w w' := by
  subst hn
  have H := Lib.hid h
  obtain ⟨⟨hs1, hs2, hs3⟩, _⟩ := (recOk_iff s l).1 hk
  have HK := Lib.hid (fun (j : Nat) (hj : j < l.length) => recOk_may hk _ (itN_mem hj))
  clear h hk
  have HH := Lib.hid (hdB_take s l)
  have HT := Lib.hid (fun (j : Nat) (hj : j < l.length) => plcB_take hj)
  have e3 : s / 16777216 = ((byN s 3).toNat : Int) := by have := byN_u8 (n := s) (by omega) 3 (by omega); omega
  have e2 : s / 65536 % 256 = ((byN s 2).toNat : Int) := byN_u8 (by omega) 2 (by omega)
  have e1 : s / 256 % 256 = ((byN s 1).toNat : Int) := byN_u8 (by omega) 1 (by omega)
  have e0 : s % 256 = ((byN s 0).toNat : Int) := by have := byN_u8 (n := s) (by omega) 0 (by omega); omega
  generalize byN s 3 = b3 at e3 HH
  generalize byN s 2 = b2 at e2 HH
  generalize byN s 1 = b1 at e1 HH
  generalize byN s 0 = b0 at e0 HH
  have el : (l.length : Int) = ((UInt8.ofNat l.length).toNat : Int) := by rw [UInt8.toNat_ofNat']; omega
  generalize UInt8.ofNat l.length = bl at el HH
  have El := Lib.hid el
  clear el
  have hcv := conv_const (w.alloc (.cells #[.int .i64 s, .slice A l.length c] 32)) (w.heap.size + 1) #[.int .u8 87, .int .u8 82, .int .u8 69, .int .u8 67] 4 4 (by simp)
  obtain ⟨W, hW, hrd, hs0⟩ := hd_box w s A l.length c #[.int .u8 87, .int .u8 82, .int .u8 69, .int .u8 67] #[.int .u8 (b3.toNat : Int), .int .u8 (b2.toNat : Int), .int .u8 (b1.toNat : Int), .int .u8 (b0.toNat : Int)] (4, 5) [87, 82, 69, 67] rfl (by simp)
  have hrd2 : RdB W W.heap.size (some ⟨w.heap.size + 2, 0, none⟩) [b3, b2, b1, b0] := by subst hW; exact rd_lit _ (by simp) rfl (by simp)
  have HW := Lib.hid hW
  have HR := Lib.hid hrd
  have HR2 := Lib.hid hrd2
  have S0 := Lib.hid hs0
  clear hW hrd hrd2 hs0
  go_enter Tryd.func21, Tryd.ntmps21
  go_wp2_with (first
    | ((with_reducible refine (id ?_ : wpList _ _ _ (⟨some 25, _, _, _, _, _⟩ :: _) _ _)); rw [← show W = _ from HW.out]; refine wpList_append_F _ rfl _ _ _ rfl 5 Tryd.underlying22 info_u8 (some ⟨w.heap.size + 1, 0, none⟩) 4 _ _ rfl rfl (by omega) HR.out (some ⟨w.heap.size + 2, 0, none⟩) 4 4 _ [b3, b2, b1, b0] rfl rfl (by simp) HR2.out (by simp) ?_
       intro v1 w1 O1 hb1
       have H1 := Lib.hid (show HdS w s A l.length c v1 ([87, 82, 69, 67] ++ [b3, b2, b1, b0]) w1 from (S0.out.grow (v' := v1) (O1.le (by have := S0.out.2.1.size; have := World.block_lt_of_cell? _ _ S0.out.2.2.1; exact this)) (grown_none hb1)))
       clear hcv HW HR HR2 S0 O1 hb1 e3 e2 e1 e0
       obtain ⟨C1, F1, q0, q1⟩ := H1.out
       have hz1 := World.block_lt_of_cell? _ _ q0
       have hz2 : w.heap.size + 1 ≤ w1.heap.size := hz1
       clear C1)
    | ((with_reducible refine (id ?_ : wpList _ _ _ (⟨some 32, _, _, _, _, _⟩ :: _) _ _)); refine wpList_append_B _ rfl _ _ _ rfl (w.heap.size + 1) 5 Tryd.underlying22 info_u8 _ _ rfl (H1.out.alloc _).1 _ (some ⟨w1.heap.size, 0, none⟩) 1 1 [bl] rfl rfl (rd_lit _ rfl (by simp [bv, El.out]) (by simp)) (by simp) (by simp; omega) ?_
       intro v2 w2 O2 g2 _
       have H2 := Lib.hid ((H1.out.alloc _).grow O2 g2)
       clear O2 g2 q0 q1 hz1 hz2 F1 H1
       obtain ⟨C1, F1, q0, q1⟩ := H2.out
       have hz1 := World.block_lt_of_cell? _ _ q0
       have hz2 : w.heap.size + 1 ≤ w2.heap.size := hz1
       clear C1))
  go_loopw [3, 36] (fun v i wr => ∃ j : Nat, j ≤ l.length ∧ i = .int .i64 j ∧ HdS w s A l.length c v ([87, 82, 69, 67] ++ [b3, b2, b1, b0] ++ [bl] ++ plcB (l.take j)) wr) (fun _ i _ => l.length - (intOf i).toNat)
  case atStart => exact ⟨0, Nat.zero_le _, rfl, by rw [List.take_zero, show plcB [] = [] from rfl, List.append_nil]; exact H2.out⟩
  case round =>
    obtain ⟨j, hj, rfl, hst⟩ := hrel
    have Hst := Lib.hid hst
    obtain ⟨C3, F3, q0', q1'⟩ := hst
    have hz3 := World.block_lt_of_cell? _ _ q0'
    have hz4 : w.heap.size + 1 ≤ wr.heap.size := hz3
    clear C3 H2 q0 q1 hz1 hz2 F1
    by_cases hlt : j < l.length
    · obtain ⟨g, rfl, hg, hc⟩ := (H.out.below F3 (Nat.le_refl _)).2 (by omega)
      obtain ⟨D', c', hrp, _⟩ := hc j hlt
      clear hc
      have hk := HK.out j hlt
      have Ht := Lib.hid (HT.out j hlt)
      generalize itN l j = y at hrp hk Ht
      obtain ⟨d, a, b⟩ := y
      dsimp only at hrp hk Ht
      have ed : d = ((byN d 0).toNat : Int) := by have := byX_one (n := d) (by omega); omega
      have ea : a = ((byN a 0).toNat : Int) := by have := byX_one (n := a) (by omega); omega
      generalize byN d 0 = ub at ed Ht
      generalize byN a 0 = uc at ea Ht
      subst ed ea
      have Hrp := Lib.hid hrp
      have mu : (ub.toNat : Int) % 256 = (ub.toNat : Int) := by have : ub.toNat < 256 := ub.toNat_lt; omega
      have mc : (uc.toNat : Int) % 256 = (uc.toNat : Int) := by have : uc.toNat < 256 := uc.toNat_lt; omega
      have HA := Lib.hid (Hst.out.alloc (.cells #[.int .i64 (ub.toNat : Int), .int .i64 (uc.toNat : Int), .slice D' b.length c'] 29))
      have HA2 := Lib.hid (HA.out.alloc (.cells #[.int .u8 (ub.toNat : Int), .int .u8 (uc.toNat : Int)] 5))
      have k0 : (0 : Int) ≤ (j : Int) := by omega
      have k1 : (j : Int) < (l.length : Int) := by omega
      have hpl : (plcB (l.take j)).length ≤ 6 := by rw [plcB_len]; simp; omega
      clear hrp hk HA
      go_wp2_with (first
        | ((with_reducible refine (id ?_ : wpList _ _ _ (⟨some 39, _, _, _, _, _⟩ :: _) _ _)); refine wpList_load_mid rfl 29 _ (by rfl) g (j * 3) (by rfl) [.int .i64 (ub.toNat : Int), .int .i64 (uc.toNat : Int), .slice D' b.length c'] _ Hrp.out Tryd.underlying29 rfl (by kernel_rfl) ?_)
        | ((with_reducible refine (id ?_ : wpList _ _ _ (⟨some 48, _, _, _, _, _⟩ :: _) _ _)); refine wpList_append_B _ rfl _ _ _ rfl (w.heap.size + 1) 5 Tryd.underlying22 info_u8 _ _ rfl HA2.out.1 _ (some ⟨wr.heap.size + 1, 0, none⟩) 2 2 [ub, uc] rfl rfl (rd_lit _ (by simp) rfl (by simp)) (by simp; omega) (by simp; omega) ?_
           intro v4 w4 O4 g4 _
           have H4 := Lib.hid (HA2.out.grow O4 g4)
           clear O4 g4))
      go_roundw
      case rel => exact ⟨j + 1, by omega, by go_num, by rw [Ht.out, ← List.append_assoc]; exact H4.out⟩
      case measure => simp [intOf]; omega
    · obtain rfl : j = l.length := by omega
      go_wp2
      go_ret
      exact ⟨_, rfl, by rw [HH.out]; have := Hst.out.1.le (Nat.le_succ _); rwa [List.take_length] at this, F3⟩
end Go.Proofs.YtfgiomidlfoonaaDoor
