/- Texts put together: RecEnc, RecDec, RecSame, RecWakes, RecKit. -/
import Derived.Test.YtoomdgidpplpfaaDoorLbak
import Derived.Test.YtoomdgidpplpfaaDoorLbai
import Derived.Test.YtoomdgidpplpfaaDoorLbah
import Derived.Test.YtoomdgidpplpfaaDoorLbac
import Derived.Test.YtoomdgidpplpfaaDoorLbaj
section
set_option maxRecDepth 8000
set_option linter.unusedVariables false
set_option linter.unusedSimpArgs false
namespace Go.Proofs.YtoomdgidpplpfaaDoor
open Go.RowKit

theorem copyB_zeros {b : List UInt8} (h : b.length ≤ 32) : copyB z32 b = b ++ List.replicate (32 - b.length) 0 := by
  unfold copyB z32
  rw [List.length_replicate, List.take_of_length_le h, List.drop_replicate]
theorem copyB_32 {b : List UInt8} (h : b.length = 32) : copyB z32 b = b := by
  rw [copyB_zeros (by omega), h]; simp
theorem copyB_head {s : Int} {l : List It} (h : l.length ≤ 3) : copyB z32 (hdB s l) = fullB s l := by
  rw [copyB_zeros (by rw [hdB_len]; omega)]; rfl
/-- The sectors, with the Data of the first j Items, not sealed yet. -/
def stgB (s : Int) (l : List It) (j : Nat) : List (List UInt8) := fullB s l :: partsB (l.take j)
theorem stgB_len (s : Int) (l : List It) {j : Nat} (h : l.length ≤ 3) : (stgB s l j).length = 4 := by
  show (partsB (l.take j)).length + 1 = 4
  rw [partsB_len (by simp; omega)]
theorem stgB_zero {s : Int} {l : List It} (h : l.length ≤ 3) : (List.replicate 4 z32).set 0 (copyB z32 (hdB s l)) = stgB s l 0 := by
  rw [copyB_head h]; rfl
theorem stgB_get {s : Int} {l : List It} {j : Nat} (h : l.length ≤ 3) (hj : j < l.length) : (stgB s l j).getD (1 + j) [] = z32 := by
  have e : (stgB s l j).getD (1 + j) [] = (partsB (l.take j)).getD j [] := by rw [Nat.add_comm]; simp [stgB, List.getD_eq_getElem?_getD]
  rw [e]
  unfold partsB
  have hl : (List.map (fun x => x.b) (l.take j)).length = j := by simp; omega
  rw [List.getD_eq_getElem?_getD, List.getElem?_append_right (by omega), hl, Nat.sub_self, List.getElem?_replicate, if_pos (by simp; omega)]
  rfl
theorem stgB_succ {s : Int} {l : List It} {j : Nat} (h : l.length ≤ 3) (hj : j < l.length) : (stgB s l j).set (1 + j) (itN l j).b = stgB s l (j + 1) := by
  have hl : (List.map (fun x => x.b) (l.take j)).length = j := by simp; omega
  have hlt : (l.take j).length = j := by simp; omega
  have hlt2 : (l.take (j + 1)).length = j + 1 := by simp; omega
  show (fullB s l :: partsB (l.take j)).set (1 + j) _ = fullB s l :: partsB (l.take (j + 1))
  rw [Nat.add_comm, List.set_cons_succ]
  congr 1
  unfold partsB
  rw [hlt, hlt2, List.set_append_right _ _ (by omega), hl, Nat.sub_self, show 3 - j = (3 - (j + 1)) + 1 by omega, List.replicate_succ, List.set_cons_zero, its_take hj, List.map_append, List.append_assoc]
  rfl
theorem stgB_all {s : Int} {l : List It} : (stgB s l l.length).set 0 (stamped (fullB s l) (partsB l)) = recB s l := by
  unfold stgB; rw [List.take_length]; rfl
theorem rep_snoc (k : Nat) : List.replicate k z32 ++ [List.replicate 32 (0 : UInt8)] = List.replicate (k + 1) z32 := by
  show List.replicate k z32 ++ [z32] = _
  exact List.replicate_succ'.symm
/-- What stays while Encode makes its sectors. -/
def EnS (w : World) (s : Int) (A : Option Addr) (n c g : Nat) (bk : Nat → Nat) (rs : List (List UInt8)) (V : World) : Prop :=
  P4 (w.heap.size + 1) V g bk rs ∧ Below w.heap.size w V ∧ V.cell? ⟨w.heap.size, 0, none⟩ = some (.int .i64 s) ∧ V.cell? ⟨w.heap.size, 1, none⟩ = some (.slice A n c)
section
variable {w V V' : World} {s : Int} {A : Option Addr} {n c g : Nat} {bk : Nat → Nat} {rs : List (List UInt8)}
theorem EnS.drew (h : EnS w s A n c g bk rs V) : EnS w s A n c g bk rs V.drew := ⟨h.1.below ((Below.refl _ _).drew), h.2.1.drew, h.2.2.1, h.2.2.2⟩
theorem EnS.plt (h : EnS w s A n c g bk rs V) : w.heap.size < V.heap.size := World.block_lt_of_cell? _ _ h.2.2.1
theorem EnS.below (h : EnS w s A n c g bk rs V) (hb : Below V.heap.size V V') : EnS w s A n c g bk rs V' :=
  ⟨h.1.below hb, h.2.1.trans (hb.mono h.2.1.size), (hb.cell (p := ⟨w.heap.size, 0, none⟩) h.plt).trans h.2.2.1, (hb.cell (p := ⟨w.heap.size, 1, none⟩) h.plt).trans h.2.2.2⟩
theorem EnS.c0 (h : EnS w s A n c g bk rs V) (hn : 0 < rs.length) : V.cell? ⟨g, 0, none⟩ = some (.slice (some ⟨bk 0, 0, none⟩) 32 32) := by
  have := h.1.row 0 (by omega); rwa [slv_yes hn] at this
theorem EnS.cj {j : Nat} (h : EnS w s A n c g bk rs V) (hn : 1 + j < rs.length) : V.cell? ⟨g, 1 + j, none⟩ = some (.slice (some ⟨bk (1 + j), 0, none⟩) 32 32) := by
  have := h.1.row (1 + j) (by have := h.1.n; omega); rwa [slv_yes hn] at this
theorem EnS.far {row : Nat} (h : EnS w s A n c g bk rs V) (hg : V.grownBy V' (some row)) (hr : w.heap.size + 1 ≤ row) : Below w.heap.size w V' ∧ V'.cell? ⟨w.heap.size, 0, none⟩ = some (.int .i64 s) ∧ V'.cell? ⟨w.heap.size, 1, none⟩ = some (.slice A n c) := by
  have hne : ∀ i, some (⟨w.heap.size, i, none⟩ : Addr).block ≠ some row := fun i e => by injection e with e; have : w.heap.size = row := e; omega
  exact ⟨h.2.1.grown hg h.2.1.size (fun k e => by injection e with e; omega), (hg.cell_far _ h.plt (hne 0)).trans h.2.2.1, (hg.cell_far _ h.plt (hne 1)).trans h.2.2.2⟩
theorem EnS.set (h : EnS w s A n c g bk rs V) (k : Nat) (hk : k < rs.length) {b : List UInt8} (ho : OwB 5 V' (w.heap.size + 1) (.slice (some ⟨bk k, 0, none⟩) 32 32) b) (hb : b.length = 32) (hg : V.grownBy V' (some (bk k))) : EnS w s A n c g bk (rs.set k b) V' :=
  ⟨h.1.set k hk ho hb hg, h.far hg (h.1.blt k hk).1⟩
theorem EnS.push (h : EnS w s A n c g bk rs V) (k : Nat) (hk : rs.length = k) (hk4 : k < 4) :
    EnS w s A n c g (fun j => if j = k then V.heap.size else bk j) (rs ++ [List.replicate 32 0]) ((V.alloc (.cells (zcells 32) 5)).setCell ⟨g, k, none⟩ (.slice (some ⟨V.heap.size, 0, none⟩) 32 32)) := by
  refine ⟨h.1.push h.plt k hk hk4, ?_⟩
  have h1 := h.below (below1 V (.cells (zcells 32) 5))
  have hgr : (V.alloc (.cells (zcells 32) 5)).grownBy ((V.alloc (.cells (zcells 32) 5)).setCell ⟨g, k, none⟩ (.slice (some ⟨V.heap.size, 0, none⟩) 32 32)) (some g) := ⟨rfl, rfl, rfl, by simp, fun k _ hne => Below.heap_setCell _ _ _ k (fun e => hne (by rw [e]))⟩
  exact h1.far hgr h.1.gl
theorem EnS.start {W : World} (h0 : W.cell? ⟨w.heap.size, 0, none⟩ = some (.int .i64 s)) (h1 : W.cell? ⟨w.heap.size, 1, none⟩ = some (.slice A n c)) (hb : Below w.heap.size w W) (bk : Nat → Nat) :
    EnS w s A n c W.heap.size bk [] (W.alloc (.cells (madeCells #[.slice none 0 0] 4) 41)) := by
  have hp := World.block_lt_of_cell? _ _ h0
  have k := fun (i : Nat) (u : Value) (e : W.cell? ⟨w.heap.size, i, none⟩ = some u) => (World.cell?_alloc_lt W (.cells (madeCells #[.slice none 0 0] 4) 41) ⟨w.heap.size, i, none⟩ hp).trans e
  exact ⟨(p4_new W).le hp, hb.alloc hb.size _, k _ _ h0, k _ _ h1⟩
/-- With an Item's box beside it. -/
def EnJ (w : World) (s : Int) (A : Option Addr) (n c g : Nat) (bk : Nat → Nat) (rs : List (List UInt8)) (q : Nat) (D : Option Addr) (cd : Nat) (V : World) : Prop :=
  EnS w s A n c g bk rs V ∧ V.cell? ⟨q, 2, none⟩ = some (.slice D 32 cd)
end
theorem EnJ.drew {w V : World} {s : Int} {A : Option Addr} {n c g : Nat} {bk : Nat → Nat} {rs : List (List UInt8)} {q : Nat} {D : Option Addr} {cd : Nat} (h : EnJ w s A n c g bk rs q D cd V) : EnJ w s A n c g bk rs q D cd V.drew := ⟨h.1.drew, h.2⟩
theorem encode_no (A : Option Addr) (n c : Nat) (s : Int) (l : List It) (w : World) (hn : l.length = n) (hnc : n ≤ c) (hs : (-9223372036854775808 ≤ s ∧ s ≤ 9223372036854775807)) (h : RdI w w.heap.size A l) (h64 : Its64 l) (hk : Hid (recOk s l = false)) :
    Calls Tryd.prog 32 #[.agg #[.int .i64 s, .slice A n c]] w fun e w' => e = .returned (.tuple #[.slice none 0 0, .int .i64 1]) ∧ Below w.heap.size w w' := by
  have CC := Lib.hid fun W (hW : Below w.heap.size w W) => check_no A n c s l W hn hnc hs (h.keep hW.size fun p hp => hW.cell hp) h64 hk
  have B1 := Lib.hid (below1 w (.cells #[.int .i64 s, .slice A n c] 29))
  clear h h64 hk hn
  go_enter Tryd.func32, Tryd.ntmps32
  go_wp2_with fail
  refine (CC.out _ B1.out).mono ?_
  rintro e w1 ⟨rfl, hb⟩
  have B2 := B1.out.trans (hb.mono B1.out.size)
  go_wp2
  go_ret2
  exact ⟨rfl, B2⟩
set_option maxHeartbeats 4000000 in
theorem encode_yes (A : Option Addr) (n c : Nat) (s : Int) (l : List It) (w : World) (hn : l.length = n) (hnc : n ≤ c) (hs : (-9223372036854775808 ≤ s ∧ s ≤ 9223372036854775807)) (h : RdI w w.heap.size A l) (h64 : Its64 l) (hk : Hid (recOk s l = true)) (ht : TabOk w) :
    Calls Tryd.prog 32 #[.agg #[.int .i64 s, .slice A n c]] w fun e w' => ∃ g bk, e = .returned (.tuple #[.slice (some ⟨g, 0, none⟩) 4 4, .int .i64 0]) ∧ P4 w.heap.size w' g bk (recB s l) ∧ Below w.heap.size w w' := by
  subst hn
  have hs3 := ((recOk_iff s l).1 hk.out).1.2.2
  have CC := Lib.hid fun W (hW : Below w.heap.size w W) => check_yes A l.length c s l W rfl hnc hs (h.keep hW.size fun p hp => hW.cell hp) h64 hk
  have CH := Lib.hid fun W (hW : Below w.heap.size w W) => head_any A l.length c s l W rfl hnc (h.keep hW.size fun p hp => hW.cell hp) hk.out
  have HK := Lib.hid (fun (j : Nat) (hj : j < l.length) => (recOk_may hk.out _ (itN_mem hj)).2.2.2.2)
  have H := Lib.hid h
  have HT := Lib.hid fun W (hW : Below w.heap.size w W) => ht.below hW ht.pos
  have B1 := Lib.hid (below1 w (.cells #[.int .i64 s, .slice A l.length c] 29))
  have c' := fun i => cell_of_row _ _ i _ _ _ (heap_alloc_new w (.cells #[.int .i64 s, .slice A l.length c] 29))
  have hm4 := make_four
  have hmk : ∀ w, (Instr.makeSlice 41 (.int .i64 32) (.int .i64 32)).run Tryd.prog w = .ok (.slice (some ⟨w.heap.size, 0, none⟩) 32 32) (w.alloc (.cells (zcells 32) 5)) := make_bytes 32 (by omega)
  have C0 := Lib.hid (c' 0)
  have C1 := Lib.hid (c' 1)
  clear h h64 hk ht c'
  go_enter Tryd.func32, Tryd.ntmps32
  go_wp2_with fail
  refine (CC.out _ B1.out).mono ?_
  rintro e w1 ⟨rfl, hb⟩
  have B2 := Lib.hid (B1.out.trans (hb.mono B1.out.size))
  have S0 := Lib.hid (EnS.start ((hb.cell (by simp)).trans C0.out) ((hb.cell (by simp)).trans C1.out) B2.out (fun _ => 0))
  clear C0 C1 CC B1 hb
  obtain ⟨g, hg⟩ : ∃ g, w1.heap.size = g := ⟨_, rfl⟩
  rw [hg] at S0
  have Hg := Lib.hid hg
  go_wp2
  clear hg
  go_loopw [17] (fun i wr => ∃ (k : Nat) (bk : Nat → Nat), k ≤ 4 ∧ i = .int .i64 k ∧ EnS w s A l.length c g bk (List.replicate k z32) wr) (fun i _ => 4 - (intOf i).toNat)
  case atStart => exact ⟨0, _, by omega, rfl, S0.out⟩
  case round =>
    obtain ⟨k, bk, hk, rfl, hst⟩ := hrel
    have Hst := Lib.hid hst
    clear hst
    clear S0 B2 hm4
    by_cases hlt : k < 4
    · have hc : wr.cell? ⟨g, k, none⟩ = some (.slice none 0 0) := by have := Hst.out.1.row k hlt; rwa [slv_no (by simp)] at this
      have hf : wr.frozen? ⟨g, k, none⟩ = false := Hst.out.1.fz k
      have hgl := Hst.out.1.lt
      have HP := Lib.hid (Hst.out.push k (by simp) hlt)
      rw [rep_snoc] at HP
      go_wp2
      go_roundw
      case rel =>
        have HP2 := HP.out
        rw [World.setCell_alloc_past _ _ _ _ hgl] at HP2
        exact ⟨k + 1, _, by omega, by go_num, HP2⟩
      case measure => simp [intOf]; omega
    · obtain rfl : k = 4 := by omega
      clear hmk
      have CP := Lib.hid (@copyB_head s l hs3)
      go_wp2
      refine wp_region_noPanic (region_ord 5 [] (fun V => EnS w s A l.length c g bk (List.replicate 4 z32) V) (by kernel_rfl) (by kernel_rfl) (fun _ _ _ _ _ h => h) fun R => ?_)
      change anyI _ _ _ _ _ _ 6 _ _ wr.drew
      have HS0 := Lib.hid (show (fun V => EnS w s A l.length c g bk (List.replicate 4 z32) V) wr.drew from EnS.drew Hst.out)
      refine' anyI_take R 0 rfl (v := ?_) (by kernel_rfl) (by rfl) (fun V hV => ?hy) HS0.out ?_
      case hy => ((try dsimp only at hV);  have r0 := EnS.c0 hV (by simp); obtain ⟨_, _, q0, q1⟩ := hV; go_simp; try with_reducible rfl)
      try simp only [Act.put, List.getElem_toArray, List.getElem_cons_succ, List.getElem_cons_zero, List.setIfInBounds_toArray, List.set_cons_zero, List.set_cons_succ]
      refine' anyI_take R 1 rfl (v := ?_) (by kernel_rfl) (by rfl) (fun V hV => ?hy) HS0.out ?_
      case hy => ((try dsimp only at hV);  have r0 := EnS.c0 hV (by simp); obtain ⟨_, _, q0, q1⟩ := hV; go_simp; try with_reducible rfl)
      try simp only [Act.put, List.getElem_toArray, List.getElem_cons_succ, List.getElem_cons_zero, List.setIfInBounds_toArray, List.set_cons_zero, List.set_cons_succ]
      refine' anyI_take R 2 rfl (v := ?_) (by kernel_rfl) (by rfl) (fun V hV => ?hy) HS0.out ?_
      case hy => ((try dsimp only at hV);  have r0 := EnS.c0 hV (by simp); obtain ⟨_, _, q0, q1⟩ := hV; go_simp; try with_reducible rfl)
      try simp only [Act.put, List.getElem_toArray, List.getElem_cons_succ, List.getElem_cons_zero, List.setIfInBounds_toArray, List.set_cons_zero, List.set_cons_succ]
      refine' anyI_take R 3 rfl (v := ?_) (by kernel_rfl) (by rfl) (fun V hV => ?hy) HS0.out ?_
      case hy => ((try dsimp only at hV);  have r0 := EnS.c0 hV (by simp); obtain ⟨_, _, q0, q1⟩ := hV; go_simp; try with_reducible rfl)
      try simp only [Act.put, List.getElem_toArray, List.getElem_cons_succ, List.getElem_cons_zero, List.setIfInBounds_toArray, List.set_cons_zero, List.set_cons_succ]
      refine anyI_one 4 (by kernel_rfl) rfl ?_
      try simp only [List.getElem_toArray, List.getElem_cons_succ, List.getElem_cons_zero]
      refine opE_step ?_
      rw [if_pos (by rfl)]
      go_simp
      go_at_call 48
      refine (CH.out _ HS0.out.2.1).mono ?_
      rintro e w1 ⟨v1, rfl, OV, hb⟩
      replace HS0 := Lib.hid (EnS.below HS0.out hb)
      clear hb
      dsimp only
      refine ⟨HS0.out, ?_⟩
      try simp only [Act.put, List.getElem_toArray, List.getElem_cons_succ, List.getElem_cons_zero, List.setIfInBounds_toArray, List.set_cons_zero, List.set_cons_succ]
      refine anyI_tail (by kernel_rfl) ?_
      try simp only [List.drop_succ_cons, List.drop_zero]
      clear R
      obtain ⟨A1, cap1, rfl, _, hr1⟩ := OV.rd
      clear OV
      refine wpList_copy_B rfl _ _ _ rfl 5 Tryd.underlying41 (by kernel_rfl) (bk 0) 32 32 (w.heap.size + 1) z32 rfl (HS0.out.1.own 0 (by simp)) rfl _ A1 (hdB s l).length cap1 (hdB s l) rfl rfl hr1 ?_
      intro w3 O3 g3 _
      have HS3 := Lib.hid (EnS.set HS0.out 0 (by simp) O3 (by rw [copyB_len]; rfl) g3)
      rw [stgB_zero hs3] at HS3
      clear HS0 O3 g3 hr1
      go_wp2_with fail
      refine NoPanic.normal ?_
      refine ‹∀ (a : Act) (w : World), Code.wp _ (Code.seq _ _) _ a w → _› _ _ ?_
      obtain ⟨_, _, q0, q1⟩ := HS3.out
      go_wp2
      clear q0 q1 Hst
      go_loopw [34] (fun i wr => ∃ j : Nat, j ≤ l.length ∧ i = .int .i64 j ∧ EnS w s A l.length c g bk (stgB s l j) wr) (fun i _ => l.length - (intOf i).toNat)
      case atStart => exact ⟨0, Nat.zero_le _, rfl, HS3.out⟩
      case round =>
        obtain ⟨j, hj, rfl, hst⟩ := hrel
        have Hst := Lib.hid hst
        clear hst HS3
        by_cases hlt : j < l.length
        · obtain ⟨ga, rfl, hg, hc⟩ := (H.out.below Hst.out.2.1 (Nat.le_refl _)).2 (by omega)
          obtain ⟨D', c', hrp, hrd⟩ := hc j hlt
          clear hc
          have hx := HK.out j hlt
          have Hsu := Lib.hid (stgB_succ (s := s) hs3 hlt)
          have Hge := Lib.hid (stgB_get (s := s) hs3 hlt)
          generalize itN l j = y at hrp hrd hx Hsu
          rw [hx] at hrp
          have Hrp := Lib.hid hrp
          have Hrd := Lib.hid hrd
          have HB := Lib.hid (below1 wr (.cells #[.int .i64 y.d, .int .i64 y.a, .slice D' 32 c'] 43))
          have HJ : Hid (EnJ w s (some ⟨ga, 0, none⟩) l.length c g bk (stgB s l j) wr.heap.size D' c' (wr.alloc (.cells #[.int .i64 y.d, .int .i64 y.a, .slice D' 32 c'] 43))) := ⟨Hst.out.below HB.out, cell_of_row _ _ 2 _ _ _ (heap_alloc_new wr _)⟩
          have HL := Lib.hid Hst.out.2.1.size
          obtain ⟨q, hq⟩ : ∃ q, wr.heap.size = q := ⟨_, rfl⟩
          have k0 : (0 : Int) ≤ (j : Int) := by omega
          have k1 : (j : Int) < (l.length : Int) := by omega
          have k2 : IntKind.i64.wrap (1 + (j : Int)) = 1 + (j : Int) := by rw [IntKind.wrap_i64]; omega
          have k3 : 0 ≤ 1 + (j : Int) ∧ 1 + (j : Int) < 4 := by omega
          have k4 : (1 + (j : Int)).toNat = 1 + j := by omega
          clear hrp hrd
          go_wp2_with (
              ((with_reducible refine (id ?_ : wpList _ _ _ (⟨some 38, _, _, _, _, _⟩ :: _) _ _)); refine wpList_load_mid rfl 43 _ (by rfl) ga (j * 3) (by rfl) [.int .i64 y.d, .int .i64 y.a, .slice D' 32 c'] _ Hrp.out Tryd.underlying43 rfl (by kernel_rfl) ?_))
          rw [hq] at HJ
          try rw [hq]
          go_name_world wz hwz
          have Hwz := Lib.hid hwz
          rw [hwz] at HJ HB
          clear hwz
          refine wp_region_noPanic (region_ord 7 [] (fun V => EnJ w s (some ⟨ga, 0, none⟩) l.length c g bk (stgB s l j) q D' c' V) (by kernel_rfl) (by kernel_rfl) (fun _ _ _ _ _ h => h) fun R => ?_)
          change anyI _ _ _ _ _ _ 8 _ _ wz.drew
          have HS0 := Lib.hid (show (fun V => EnJ w s (some ⟨ga, 0, none⟩) l.length c g bk (stgB s l j) q D' c' V) wz.drew from HJ.out.drew)
          refine' anyI_take R 0 rfl (v := ?_) (by kernel_rfl) (by rfl) (fun V hV => ?hy) HS0.out ?_
          case hy => ((try dsimp only at hV);  have r0 := EnS.cj hV.1 (j := j) (by rw [stgB_len _ _ (by omega)]; omega); obtain ⟨_, q2⟩ := hV; go_simp; try with_reducible rfl)
          try simp only [Act.put, List.getElem_toArray, List.getElem_cons_succ, List.getElem_cons_zero, List.setIfInBounds_toArray, List.set_cons_zero, List.set_cons_succ]
          refine' anyI_take R 1 rfl (v := ?_) (by kernel_rfl) (by rfl) (fun V hV => ?hy) HS0.out ?_
          case hy => ((try dsimp only at hV);  have r0 := EnS.cj hV.1 (j := j) (by rw [stgB_len _ _ (by omega)]; omega); obtain ⟨_, q2⟩ := hV; go_simp; try with_reducible rfl)
          try simp only [Act.put, List.getElem_toArray, List.getElem_cons_succ, List.getElem_cons_zero, List.setIfInBounds_toArray, List.set_cons_zero, List.set_cons_succ]
          refine' anyI_take R 2 rfl (v := ?_) (by kernel_rfl) (by rfl) (fun V hV => ?hy) HS0.out ?_
          case hy => ((try dsimp only at hV);  have r0 := EnS.cj hV.1 (j := j) (by rw [stgB_len _ _ (by omega)]; omega); obtain ⟨_, q2⟩ := hV; go_simp; try with_reducible rfl)
          try simp only [Act.put, List.getElem_toArray, List.getElem_cons_succ, List.getElem_cons_zero, List.setIfInBounds_toArray, List.set_cons_zero, List.set_cons_succ]
          refine' anyI_take R 3 rfl (v := ?_) (by kernel_rfl) (by rfl) (fun V hV => ?hy) HS0.out ?_
          case hy => ((try dsimp only at hV);  have r0 := EnS.cj hV.1 (j := j) (by rw [stgB_len _ _ (by omega)]; omega); obtain ⟨_, q2⟩ := hV; go_simp; try with_reducible rfl)
          try simp only [Act.put, List.getElem_toArray, List.getElem_cons_succ, List.getElem_cons_zero, List.setIfInBounds_toArray, List.set_cons_zero, List.set_cons_succ]
          refine' anyI_take R 4 rfl (v := ?_) (by kernel_rfl) (by rfl) (fun V hV => ?hy) HS0.out ?_
          case hy => ((try dsimp only at hV);  have r0 := EnS.cj hV.1 (j := j) (by rw [stgB_len _ _ (by omega)]; omega); obtain ⟨_, q2⟩ := hV; go_simp; try with_reducible rfl)
          try simp only [Act.put, List.getElem_toArray, List.getElem_cons_succ, List.getElem_cons_zero, List.setIfInBounds_toArray, List.set_cons_zero, List.set_cons_succ]
          refine' anyI_take R 5 rfl (v := ?_) (by kernel_rfl) (by rfl) (fun V hV => ?hy) HS0.out ?_
          case hy => ((try dsimp only at hV);  have r0 := EnS.cj hV.1 (j := j) (by rw [stgB_len _ _ (by omega)]; omega); obtain ⟨_, q2⟩ := hV; go_simp; try with_reducible rfl)
          try simp only [Act.put, List.getElem_toArray, List.getElem_cons_succ, List.getElem_cons_zero, List.setIfInBounds_toArray, List.set_cons_zero, List.set_cons_succ]
          refine' anyI_take R 6 rfl (v := ?_) (by kernel_rfl) (by rfl) (fun V hV => ?hy) HS0.out ?_
          case hy => ((try dsimp only at hV);  have r0 := EnS.cj hV.1 (j := j) (by rw [stgB_len _ _ (by omega)]; omega); obtain ⟨_, q2⟩ := hV; go_simp; try with_reducible rfl)
          try simp only [Act.put, List.getElem_toArray, List.getElem_cons_succ, List.getElem_cons_zero, List.setIfInBounds_toArray, List.set_cons_zero, List.set_cons_succ]
          refine anyI_tail (by kernel_rfl) ?_
          try simp only [List.drop_succ_cons, List.drop_zero]
          clear R
          refine wpList_copy_B rfl _ _ _ rfl 5 Tryd.underlying41 (by kernel_rfl) (bk (1 + j)) 32 32 (w.heap.size + 1) z32 rfl (by have := HS0.out.1.1.own (1 + j) (by rw [stgB_len _ _ hs3]; omega); rwa [Hge.out] at this) rfl _ D' 32 c' y.b rfl hx.symm ((Hrd.out.below HB.out HL.out).below (Below.refl w.heap.size _).drew (Nat.le_refl _)) ?_
          intro w3 O3 g3 _
          have HS3 := Lib.hid (EnS.set HS0.out.1 (1 + j) (by rw [stgB_len _ _ hs3]; omega) O3 (by rw [copyB_len]; rfl) g3)
          rw [copyB_32 hx, Hsu.out] at HS3
          clear HS0 O3 g3 HJ
          go_wp2_with fail
          refine NoPanic.normal ?_
          go_wp2
          go_roundw
          case rel => exact ⟨j + 1, by omega, by go_num, HS3.out⟩
          case measure => simp [intOf]; omega
        · obtain rfl : j = l.length := by omega
          have CS := Lib.hid fun V (hV : EnS w s A l.length c g bk (stgB s l l.length) V) => stamp_any (bk 0) 32 (w.heap.size + 1) (some ⟨g, 1, none⟩) 3 (fullB s l) (partsB l) 3 V (partsB_len hs3) (hV.1.own 0 (by rw [stgB_len _ _ hs3]; omega)) (fullB_len hs3) (by have := hV.1.rdr1; rwa [show (stgB s l l.length).drop 1 = partsB l by unfold stgB; rw [List.take_length]; rfl] at this) (HT.out _ hV.2.1)
          go_wp2
          refine wp_region_noPanic (region_ord 6 [] (fun V => V.cell? ⟨g, 0, none⟩ = some (.slice (some ⟨bk 0, 0, none⟩) 32 32)) (by kernel_rfl) (by kernel_rfl) (fun _ _ _ _ _ h => h) fun R => ?_)
          change anyI _ _ _ _ _ _ 6 _ _ wr.drew
          have HS0 := Lib.hid (show (fun V => V.cell? ⟨g, 0, none⟩ = some (.slice (some ⟨bk 0, 0, none⟩) 32 32)) wr.drew from EnS.c0 Hst.out.drew (by rw [stgB_len _ _ hs3]; omega))
          refine' anyI_take R 0 rfl (v := ?_) (by kernel_rfl) (by rfl) (fun V hV => ?hy) HS0.out ?_
          case hy => ((try dsimp only at hV);  have r0 := hV; go_simp; try with_reducible rfl)
          try simp only [Act.put, List.getElem_toArray, List.getElem_cons_succ, List.getElem_cons_zero, List.setIfInBounds_toArray, List.set_cons_zero, List.set_cons_succ]
          refine' anyI_take R 1 rfl (v := ?_) (by kernel_rfl) (by rfl) (fun V hV => ?hy) HS0.out ?_
          case hy => ((try dsimp only at hV);  have r0 := hV; go_simp; try with_reducible rfl)
          try simp only [Act.put, List.getElem_toArray, List.getElem_cons_succ, List.getElem_cons_zero, List.setIfInBounds_toArray, List.set_cons_zero, List.set_cons_succ]
          refine' anyI_take R 2 rfl (v := ?_) (by kernel_rfl) (by rfl) (fun V hV => ?hy) HS0.out ?_
          case hy => ((try dsimp only at hV);  have r0 := hV; go_simp; try with_reducible rfl)
          try simp only [Act.put, List.getElem_toArray, List.getElem_cons_succ, List.getElem_cons_zero, List.setIfInBounds_toArray, List.set_cons_zero, List.set_cons_succ]
          refine' anyI_take R 3 rfl (v := ?_) (by kernel_rfl) (by rfl) (fun V hV => ?hy) HS0.out ?_
          case hy => ((try dsimp only at hV);  have r0 := hV; go_simp; try with_reducible rfl)
          try simp only [Act.put, List.getElem_toArray, List.getElem_cons_succ, List.getElem_cons_zero, List.setIfInBounds_toArray, List.set_cons_zero, List.set_cons_succ]
          refine' anyI_take R 4 rfl (v := ?_) (by kernel_rfl) (by rfl) (fun V hV => ?hy) HS0.out ?_
          case hy => ((try dsimp only at hV);  have r0 := hV; go_simp; try with_reducible rfl)
          try simp only [Act.put, List.getElem_toArray, List.getElem_cons_succ, List.getElem_cons_zero, List.setIfInBounds_toArray, List.set_cons_zero, List.set_cons_succ]
          refine anyI_one 5 (by kernel_rfl) rfl ?_
          try simp only [List.getElem_toArray, List.getElem_cons_succ, List.getElem_cons_zero]
          refine opE_step ?_
          rw [if_pos (by rfl)]
          go_simp
          go_at_call 49
          refine (CS.out _ Hst.out.drew).mono ?_
          rintro e w5 ⟨rfl, O5, g5⟩
          have HS5 := Lib.hid (EnS.set Hst.out.drew 0 (by rw [stgB_len _ _ hs3]; omega) O5 (stamped_len _ _ (fullB_len hs3)) g5)
          replace HS0 := Lib.hid (EnS.c0 HS5.out (by rw [List.length_set, stgB_len _ _ hs3]; omega))
          clear g5 O5
          dsimp only
          refine ⟨HS0.out, ?_⟩
          try simp only [Act.put, List.getElem_toArray, List.getElem_cons_succ, List.getElem_cons_zero, List.setIfInBounds_toArray, List.set_cons_zero, List.set_cons_succ]
          refine anyI_tail (by kernel_rfl) ?_
          try simp only [List.drop_succ_cons, List.drop_zero]
          clear R
          go_wp2_with fail
          refine NoPanic.normal ?_
          rw [stgB_all] at HS5
          go_wp2
          go_ret2
          exact ⟨g, bk, rfl, HS5.out.1.le (Nat.le_succ _), HS5.out.2.1⟩
end Go.Proofs.YtoomdgidpplpfaaDoor
end
section
set_option maxRecDepth 8000
set_option linter.unusedVariables false
set_option linter.unusedSimpArgs false
namespace Go.Proofs.YtoomdgidpplpfaaDoor
open Go.RowKit

theorem its64_O (rs : List (List UInt8)) : Its64 (itsO rs) := by
  intro k hk
  have hk' : k < min (cnO rs) 3 := by unfold itsO at hk; rwa [itsN_len] at hk
  unfold itsO
  rw [itsN_at rs _ k hk']
  have a := ((rs.getD 0 []).getD (9 + 2 * k) 0).toNat_lt
  have b := ((rs.getD 0 []).getD (10 + 2 * k) 0).toNat_lt
  exact ⟨by show (_ : Int) ≤ _ ∧ _; dsimp only [itO]; omega, by dsimp only [itO]; omega⟩
theorem sqO_64 (rs : List (List UInt8)) : (-9223372036854775808 ≤ sqO rs ∧ sqO rs ≤ 9223372036854775807) := by
  have h := (numB_lt [(rs.getD 0 []).getD 4 0, (rs.getD 0 []).getD 5 0, (rs.getD 0 []).getD 6 0, (rs.getD 0 []).getD 7 0] 4 (by simp) (by omega)).1
  have e : sqO rs = (numB ([(rs.getD 0 []).getD 4 0, (rs.getD 0 []).getD 5 0, (rs.getD 0 []).getD 6 0, (rs.getD 0 []).getD 7 0].take 4) : Nat) := rfl
  rw [e]; omega
theorem any_unl (rs : List (List UInt8)) (h4 : rs.length = 4) : sect rs = !(rs.any unl) := by
  rw [Bool.eq_iff_iff]
  simp only [sect_iff, h4, true_and, Bool.not_eq_true', List.any_eq_false]
  refine ⟨fun h x hx => by simp [unl, h x hx], fun h x hx => ?_⟩
  have := h x hx
  simp only [unl] at this
  have h2 : (x.length : Int) = 32 := by simpa [bne_iff_ne] using this
  omega
/-- The answer's own box, and what was before it. -/
def DcS (w V : World) : Prop := Below w.heap.size w V ∧ V.cell? ⟨w.heap.size, 0, none⟩ = some (.int .i64 0) ∧ V.cell? ⟨w.heap.size, 1, none⟩ = some (.slice none 0 0) ∧ (∀ i, V.frozen? ⟨w.heap.size, i, none⟩ = false)
theorem DcS.plt {w V : World} (h : DcS w V) : w.heap.size < V.heap.size := World.block_lt_of_cell? _ _ h.2.1
theorem DcS.below {w V V' : World} (h : DcS w V) (hb : Below V.heap.size V V') : DcS w V' := by
  have hg := grown_none hb
  have n0 : ∀ i, some (⟨w.heap.size, i, none⟩ : Addr).block ≠ none := fun i => by simp
  exact ⟨h.1.trans (hb.mono h.1.size), (hb.cell (p := ⟨w.heap.size, 0, none⟩) h.plt).trans h.2.1, (hb.cell (p := ⟨w.heap.size, 1, none⟩) h.plt).trans h.2.2.1, fun i => (hg.frozen_far _ h.plt (n0 i)).trans (h.2.2.2 i)⟩
theorem DcS.start (w : World) (t : TypeId) : DcS w (w.alloc (.cells #[.int .i64 0, .slice none 0 0] t)) := by
  have c0 := fun i => cell_of_row _ _ i _ _ _ (heap_alloc_new w (.cells #[.int .i64 0, .slice none 0 0] t))
  exact ⟨below1 w _, c0 0, c0 1, fun i => World.frozen?_alloc_new w #[.int .i64 0, .slice none 0 0] t i⟩
theorem DcS.put {w V : World} (h : DcS w V) (y : Int) (v : Value) : ((V.setCell ⟨w.heap.size, 0, none⟩ (.int .i64 y)).setCell ⟨w.heap.size, 1, none⟩ v).cell? ⟨w.heap.size, 0, none⟩ = some (.int .i64 y) ∧ ((V.setCell ⟨w.heap.size, 0, none⟩ (.int .i64 y)).setCell ⟨w.heap.size, 1, none⟩ v).cell? ⟨w.heap.size, 1, none⟩ = some v
    ∧ Below w.heap.size w ((V.setCell ⟨w.heap.size, 0, none⟩ (.int .i64 y)).setCell ⟨w.heap.size, 1, none⟩ v)
    ∧ ∀ l, OwIt 43 V (w.heap.size + 1) (w.heap.size + 1) v l → OwIt 43 ((V.setCell ⟨w.heap.size, 0, none⟩ (.int .i64 y)).setCell ⟨w.heap.size, 1, none⟩ v) w.heap.size w.heap.size v l := by
  obtain ⟨h1, h5, h6, h7⟩ := h
  have g1 := grown_cell V w.heap.size 0 (.int .i64 y)
  have g2 := grown_cell (V.setCell ⟨w.heap.size, 0, none⟩ (.int .i64 y)) w.heap.size 1 v
  have k6 : (V.setCell ⟨w.heap.size, 0, none⟩ (.int .i64 y)).cell? ⟨w.heap.size, 1, none⟩ = some (.slice none 0 0) := (World.cell?_setCell_other _ _ _ _ (by intro e; injection e with _ e; cases e)).trans h6
  exact ⟨(World.cell?_setCell_other _ _ _ _ (by intro e; injection e with _ e; cases e)).trans (World.cell?_setCell_same _ _ _ h5), World.cell?_setCell_same _ _ _ k6, (h1.setCell (p := ⟨w.heap.size, 0, none⟩) (Nat.le_refl _) _).setCell (p := ⟨w.heap.size, 1, none⟩) (Nat.le_refl _) _, fun l h0 => ((h0.far g1 (by omega) (by omega)).far g2 (by omega) (by omega)).le (by omega) (by omega)⟩
theorem decode_not (A : Option Addr) (n c : Nat) (rs : List (List UInt8)) (w : World) (hn : rs.length = n) (h : RdR w w.heap.size A rs) (hs : sect rs = false) :
    Calls Tryd.prog 53 #[.slice A n c] w fun e w' => e = .returned (.tuple #[.agg #[.int .i64 0, .slice none 0 0], .int .i64 2]) ∧ Below w.heap.size w w' := by
  have CU := Lib.hid fun W (hW : Below w.heap.size w W) => anyU_any A n c rs W hn ((h.below hW (Nat.le_refl _)).more hW.size)
  have S0 := Lib.hid (DcS.start w 29)
  have HA := Lib.hid (fun h4 : n = 4 => show rs.any unl = true by
    have := any_unl rs (hn.trans h4)
    rw [hs] at this
    cases e : rs.any unl with
    | true => rfl
    | false => rw [e] at this; cases this)
  clear h hs hn
  obtain ⟨W0, hW0⟩ : ∃ W, (w.alloc (.cells #[.int .i64 0, .slice none 0 0] 29)) = W := ⟨_, rfl⟩
  rw [hW0] at S0
  by_cases h4 : n = 4
  · subst h4
    rw [HA.out rfl] at CU
    clear HA
    go_enter Tryd.func53, Tryd.ntmps53
    go_wp2_with fail
    refine (CU.out _ S0.out.1).mono ?_
    rintro e w1 ⟨rfl, hb⟩
    have S1 := S0.out.below hb
    obtain ⟨p0, p1, pb, _⟩ := S1.put 0 (.slice none 0 0)
    obtain ⟨q0, q1, q2, q3⟩ := id S1
    obtain ⟨q4, q5⟩ := And.intro (q3 0) (q3 1)
    clear hb CU S0 S1
    go_wp2
    refine bodyPost_ret (v := .tuple #[.agg #[.int .i64 0, .slice none 0 0], .int .i64 2]) (by simp [results, Tryd.results53, go_sem, p0, p1]) rfl ⟨rfl, pb⟩
  · have e0 : ((n : Int) != 4) = true := by rw [bne_iff_ne]; omega
    clear HA CU
    obtain ⟨p0, p1, pb, _⟩ := S0.out.put 0 (.slice none 0 0)
    obtain ⟨q0, q1, q2, q3⟩ := S0.out
    obtain ⟨q4, q5⟩ := And.intro (q3 0) (q3 1)
    clear S0
    go_enter Tryd.func53, Tryd.ntmps53
    go_wp2
    refine bodyPost_ret (v := .tuple #[.agg #[.int .i64 0, .slice none 0 0], .int .i64 2]) (by simp [results, Tryd.results53, go_sem, p0, p1]) rfl ⟨rfl, pb⟩
set_option maxHeartbeats 4000000 in
theorem decode_yes (A : Option Addr) (c : Nat) (rs : List (List UInt8)) (w : World) (hc4 : 4 ≤ c) (h : RdC w w.heap.size A rs) (hs : sect rs = true) (ht : TabOk w) :
    Calls Tryd.prog 53 #[.slice A 4 c] w fun e w' => ∃ v, e = .returned (.tuple #[.agg #[.int .i64 (rcS rs), v], .int .i64 (rcE rs)]) ∧ OwIt 43 w' w.heap.size w.heap.size v (rcL rs) ∧ Below w.heap.size w w' := by
  have hl4 := ((sect_iff rs).1 hs).1
  have CU := Lib.hid fun W (hW : Below w.heap.size w W) => anyU_any A 4 c rs W hl4 ((h.rdr.below hW (Nat.le_refl _)).more hW.size)
  rw [show rs.any unl = false by have := any_unl rs hl4; rw [hs] at this; cases e : rs.any unl with
    | false => rfl
    | true => rw [e] at this; cases this] at CU
  obtain ⟨b, off, rfl, hb, _⟩ := h.2 (by omega)
  have CF := Lib.hid fun W (hW : Below w.heap.size w W) => fields_at b off c rs (rs.getD 0 []) _ _ _ _ _ W ((h.below hW (Nat.le_refl _)).more hW.size) hc4 hs rfl ⟨rfl, rfl, rfl, rfl⟩ rfl
  have CQ := Lib.hid fun (g : Nat) (bk : Nat → Nat) (W : World) (lo : Nat) (hp : P4 lo W g bk (recB (sqO rs) (itsO rs))) (ho : recOk (sqO rs) (itsO rs) = true) (hW : Below w.heap.size w W) =>
    equalR_any (some ⟨g, 0, none⟩) (some ⟨b, off, none⟩) 4 4 4 c (recB (sqO rs) (itsO rs)) rs W (recB_len ((recOk_iff _ _).1 ho).1.2.2) hl4 hp.rdr ((h.rdr.below hW (Nat.le_refl _)).more hW.size)
  have HT := Lib.hid fun W (hW : Below w.heap.size w W) => ht.below hW ht.pos
  have h64 := its64_O rs
  have hy64 := sqO_64 rs
  have Hno := Lib.hid (show recOk (sqO rs) (itsO rs) = false → rcO rs = false from fun q => rcO_not fun h => by rw [q] at h; cases h.2.1)
  have Hyes := Lib.hid (show recOk (sqO rs) (itsO rs) = true → rcO rs = decide (recB (sqO rs) (itsO rs) = rs) from fun q => by unfold rcO; rw [hs, q]; rfl)
  have R := Lib.hid (show rcO rs = true → rcS rs = sqO rs ∧ rcL rs = itsO rs ∧ rcE rs = 0 from fun q => ⟨if_pos q, if_pos q, if_pos q⟩)
  have R' := Lib.hid (show rcO rs = false → rcS rs = 0 ∧ rcL rs = [] ∧ rcE rs = 2 from fun q => by unfold rcS rcL rcE; rw [q]; exact ⟨rfl, rfl, rfl⟩)
  clear h hs ht hl4
  generalize rcS rs = fs at R R'
  generalize rcL rs = fl at R R'
  generalize rcE rs = fe at R R'
  generalize rcO rs = dec at Hno Hyes R R'
  generalize hkb : recB (sqO rs) (itsO rs) = kb at CQ Hyes
  generalize decide (kb = rs) = eqb at CQ Hyes
  generalize sqO rs = y at CF CQ Hno Hyes R hy64 hkb
  generalize itsO rs = L at CF CQ Hno Hyes R h64 hkb
  have S0 := Lib.hid (DcS.start w 29)
  obtain ⟨W0, hW0⟩ : ∃ W, (w.alloc (.cells #[.int .i64 0, .slice none 0 0] 29)) = W := ⟨_, rfl⟩
  rw [hW0] at S0
  go_enter Tryd.func53, Tryd.ntmps53
  go_wp2_with fail
  refine (CU.out _ S0.out.1).mono ?_
  rintro e w1 ⟨rfl, hb1⟩
  have S1 := Lib.hid (S0.out.below hb1)
  clear hb1 CU hW0 S0
  go_wp2_with fail
  refine (CF.out _ S1.out.1).mono ?_
  rintro e w2 ⟨v, rfl, ho, hb2⟩
  have S2 := Lib.hid (S1.out.below hb2)
  replace ho := ho.le (B' := w.heap.size + 1) (lo' := w.heap.size + 1) S1.out.plt S1.out.plt
  clear hb2 CF S1
  have B3 := below1 w2 (.cells #[.int .i64 y, v] 29)
  have S3 := Lib.hid (S2.out.below B3)
  have O3 := Lib.hid (ho.below B3)
  obtain ⟨A3, c3, rfl, hLc, hrd⟩ := ho.rd
  have k3 := fun i => cell_of_row _ _ i _ _ _ (heap_alloc_new w2 (.cells #[.int .i64 y, .slice A3 L.length c3] 29))
  have HK := Lib.hid (And.intro (k3 0) (k3 1))
  have hsz : w2.heap.size < (w2.alloc (.cells #[.int .i64 y, .slice A3 L.length c3] 29)).heap.size := by simp
  replace hrd := (hrd.below B3 (Nat.le_refl _)).more (Nat.le_of_lt hsz)
  obtain ⟨p, hp⟩ : ∃ p, w2.heap.size = p := ⟨_, rfl⟩
  rw [hp] at HK hsz
  clear B3 k3 S2
  obtain ⟨W3, hW3⟩ : ∃ W, (w2.alloc (.cells #[.int .i64 y, .slice A3 L.length c3] 29)) = W := ⟨_, rfl⟩
  rw [hW3] at HK hsz hrd S3 O3
  have CN := Lib.hid fun (q : recOk y L = false) => encode_no A3 L.length c3 y L W3 rfl hLc hy64 hrd h64 (Lib.hid q)
  have CY := Lib.hid fun (q : recOk y L = true) => encode_yes A3 L.length c3 y L W3 rfl hLc hy64 hrd h64 (Lib.hid q) (HT.out _ S3.out.1)
  rw [hkb] at CY
  obtain ⟨k0, k1⟩ := HK.out
  clear hrd
  generalize recOk y L = ok at CN CY Hno Hyes CQ
  cases ok
  · obtain ⟨rfl, rfl, rfl⟩ := R'.out (Hno.out rfl)
    clear R R' Hno Hyes CQ CY
    go_wp2_with fail
    refine (CN.out trivial).mono ?_
    rintro e w4 ⟨rfl, hb4⟩
    have S4 := S3.out.below hb4
    obtain ⟨p0, p1, pb, po⟩ := S4.put 0 (.slice none 0 0)
    obtain ⟨q0, q1, q2, q3⟩ := S4
    obtain ⟨q4, q5⟩ := And.intro (q3 0) (q3 1)
    have Hpo := Lib.hid (po [] (OwIt.nil _ _ _ _))
    clear hb4 CN S3 O3 po k0 k1 HK
    go_wp2
    refine bodyPost_ret (v := .tuple #[.agg #[.int .i64 0, .slice none 0 0], .int .i64 2]) (by simp [results, Tryd.results53, go_sem, p0, p1]) rfl ⟨_, rfl, Hpo.out, pb⟩
  · have hdec := Hyes.out rfl
    clear CN Hno Hyes
    go_wp2_with fail
    refine (CY.out trivial).mono ?_
    rintro e w4 ⟨g, bk, rfl, hp4, hb4⟩
    have S4 := Lib.hid (S3.out.below hb4)
    have O4 := Lib.hid (O3.out.below hb4)
    have K4 := Lib.hid (And.intro ((hb4.cell (p := ⟨p, 0, none⟩) hsz).trans HK.out.1) ((hb4.cell (p := ⟨p, 1, none⟩) hsz).trans HK.out.2))
    have hp4lt : p < w4.heap.size := Nat.lt_of_lt_of_le hsz hb4.size
    have CE := Lib.hid (CQ.out g bk w4 _ hp4 trivial S4.out.1)
    clear hb4 CY CQ S3 O3 k0 k1 HK hp4
    cases eqb
    · obtain ⟨rfl, rfl, rfl⟩ := R'.out hdec
      clear R R' hdec
      go_wp2_with fail
      refine CE.out.mono ?_
      rintro e w5 ⟨rfl, hb5⟩
      have S5 := S4.out.below hb5
      obtain ⟨p0, p1, pb, po⟩ := S5.put 0 (.slice none 0 0)
      obtain ⟨q0, q1, q2, q3⟩ := S5
      obtain ⟨q4, q5⟩ := And.intro (q3 0) (q3 1)
      have Hpo := Lib.hid (po [] (OwIt.nil _ _ _ _))
      clear hb5 CE S4 O4 po
      go_wp2
      refine bodyPost_ret (v := .tuple #[.agg #[.int .i64 0, .slice none 0 0], .int .i64 2]) (by simp [results, Tryd.results53, go_sem, p0, p1]) rfl ⟨_, rfl, Hpo.out, pb⟩
    · obtain ⟨rfl, rfl, rfl⟩ := R.out hdec
      clear R R' hdec
      go_wp2_with fail
      refine CE.out.mono ?_
      rintro e w5 ⟨rfl, hb5⟩
      have S5 := S4.out.below hb5
      have k0 := (hb5.cell (p := ⟨p, 0, none⟩) hp4lt).trans K4.out.1
      have k1 := (hb5.cell (p := ⟨p, 1, none⟩) hp4lt).trans K4.out.2
      obtain ⟨p0, p1, pb, po⟩ := S5.put fs (.slice A3 fl.length c3)
      obtain ⟨q0, q1, q2, q3⟩ := S5
      obtain ⟨q4, q5⟩ := And.intro (q3 0) (q3 1)
      have Hpo := Lib.hid (po fl (O4.out.below hb5))
      clear hb5 CE S4 O4 po K4
      go_wp2
      refine bodyPost_ret (v := .tuple #[.agg #[.int .i64 fs, .slice A3 fl.length c3], .int .i64 0]) (by simp [results, Tryd.results53, go_sem, p0, p1]) rfl ⟨_, rfl, Hpo.out, pb⟩
theorem decode_any (A : Option Addr) (n c : Nat) (rs : List (List UInt8)) (w : World) (hn : rs.length = n) (hnc : n ≤ c) (h : RdC w w.heap.size A rs) (ht : TabOk w) :
    Calls Tryd.prog 53 #[.slice A n c] w fun e w' => ∃ v, e = .returned (.tuple #[.agg #[.int .i64 (rcS rs), v], .int .i64 (rcE rs)]) ∧ OwIt 43 w' w.heap.size w.heap.size v (rcL rs) ∧ Below w.heap.size w w' := by
  cases hs : sect rs with
  | true =>
    obtain rfl : n = 4 := hn.symm.trans ((sect_iff rs).1 hs).1
    exact decode_yes A c rs w hnc h hs ht
  | false =>
    refine (decode_not A n c rs w hn h.rdr hs).mono ?_
    rintro e w' ⟨rfl, hb⟩
    have q : rcO rs = false := by unfold rcO; rw [hs]; rfl
    have e1 : rcS rs = 0 := by unfold rcS; rw [q]; rfl
    have e2 : rcL rs = [] := by unfold rcL; rw [q]; rfl
    have e3 : rcE rs = 2 := by unfold rcE; rw [q]; rfl
    rw [e1, e2, e3]
    exact ⟨_, rfl, OwIt.nil _ _ _ _, hb⟩
end Go.Proofs.YtoomdgidpplpfaaDoor
end
section
set_option maxRecDepth 8000
set_option linter.unusedVariables false
set_option linter.unusedSimpArgs false
namespace Go.Proofs.YtoomdgidpplpfaaDoor
open Go.RowKit

instance itDec : DecidableEq It := fun x y => decidable_of_iff (x.d = y.d ∧ x.a = y.a ∧ x.b = y.b) ⟨fun h => It.ext' h.1 h.2.1 h.2.2, fun h => by subst h; exact ⟨rfl, rfl, rfl⟩⟩
theorem its_eq {l m : List It} (hl : l.length = m.length) (h : ∀ k, k < l.length → itN l k = itN m k) : l = m := by
  apply List.ext_getElem hl
  intro k h1 h2
  have := h k h1
  simpa [itN, List.getD_eq_getElem?_getD, h1, h2] using this
theorem its_ne {s t : Int} {l m : List It} (j : Nat) (h : itN l j ≠ itN m j) : decide (s = t ∧ l = m) = false := decide_eq_false fun e => h (by rw [e.2])
/-- Bytes compared, told as what stays. -/
theorem same_below (A A' : Option Addr) (n n' c c' B : Nat) (bs bs' : List UInt8) (w : World) (hn : n = bs.length) (hn' : n' = bs'.length) (hr : RdB w B A bs) (hr' : RdB w B A' bs') :
    Calls Tryd.prog 22 #[.slice A n c, .slice A' n' c'] w fun e w' => e = .returned (.bool (decide (bs = bs'))) ∧ Below w.heap.size w w' :=
  (same_any A A' n n' c c' B bs bs' w hn hn' hr hr').mono fun e w' h => by
    obtain ⟨h1, k, rfl⟩ := h
    exact ⟨h1, belowN _ _ _⟩
set_option maxHeartbeats 4000000 in
theorem sameRec_any (s t : Int) (A A' : Option Addr) (n n' c c' : Nat) (l m : List It) (w : World) (hn : l.length = n) (hn' : m.length = n') (h : RdI w w.heap.size A l) (h' : RdI w w.heap.size A' m) :
    Calls Tryd.prog 14 #[.agg #[.int .i64 s, .slice A n c], .agg #[.int .i64 t, .slice A' n' c']] w fun e w' => e = .returned (.bool (decide (s = t ∧ l = m))) ∧ Below w.heap.size w w' := by
  subst hn hn'
  have H := Lib.hid h
  have H' := Lib.hid h'
  have hmx := h.1
  have hmx' := h'.1
  have B2 := Lib.hid (below2 w (.cells #[.int .i64 s, .slice A l.length c] 29) (.cells #[.int .i64 t, .slice A' m.length c'] 29))
  clear h h'
  by_cases h1 : s = t
  · subst h1
    by_cases h2 : l.length = m.length
    · have Hyes := Lib.hid (show (∀ k, k < l.length → itN l k = itN m k) → decide (s = s ∧ l = m) = true from fun q => decide_eq_true ⟨rfl, its_eq h2 q⟩)
      have Hno := Lib.hid (fun j q => its_ne (s := s) (t := s) (l := l) (m := m) j q)
      generalize decide (s = s ∧ l = m) = res at Hyes Hno
      have e0 : ((l.length : Int) != (m.length : Int)) = false := by rw [h2]; exact bne_self_eq_false _
      have Hl := Lib.hid h2
      clear h2
      go_enter Tryd.func14, Tryd.ntmps14
      go_wp2
      go_loopw [25] (fun i wr => ∃ j : Nat, j ≤ l.length ∧ i = .int .i64 j ∧ (∀ k, k < j → itN l k = itN m k) ∧ Below w.heap.size w wr ∧ wr.cell? ⟨w.heap.size + 1, 1, none⟩ = some (.slice A' m.length c')) (fun i _ => l.length - (intOf i).toNat)
      case atStart =>
        have c1 := fun i => cell_of_row _ _ i _ _ _ (heap_alloc_new (w.alloc (.cells #[.int .i64 s, .slice A l.length c] 29)) (.cells #[.int .i64 s, .slice A' m.length c'] 29))
        have hsz : (w.alloc (.cells #[.int .i64 s, .slice A l.length c] 29)).heap.size = w.heap.size + 1 := by simp
        rw [hsz] at c1
        exact ⟨0, Nat.zero_le _, rfl, fun k hk => absurd hk (Nat.not_lt_zero _), B2.out, c1 1⟩
      case round =>
        obtain ⟨j, hj, rfl, hall, hbr, hp1⟩ := hrel
        have Hall := Lib.hid hall
        clear hall
        by_cases hlt : j < l.length
        · have hlt' : j < m.length := by have := Hl.out; omega
          obtain ⟨g, rfl, hg, hc⟩ := H.out.2 (by omega)
          obtain ⟨D, cd, hrp, hrd⟩ := hc j hlt
          obtain ⟨g', rfl, hg', hc'⟩ := H'.out.2 (by omega)
          obtain ⟨D', cd', hrp', hrd'⟩ := hc' j hlt'
          have CS := Lib.hid fun V (hV : Below w.heap.size w V) => same_below D D' _ _ cd cd' _ (itN l j).b (itN m j).b V rfl rfl (hrd.below hV (Nat.le_refl _)) (hrd'.below hV (Nat.le_refl _))
          have Hne := Lib.hid (fun (q : itN l j ≠ itN m j) => Hno.out j q)
          have Hgo := Lib.hid (fun (q : itN l j = itN m j) => show ∀ k, k < j + 1 → itN l k = itN m k from fun k hk => by
            by_cases e : k = j
            · subst e; exact q
            · exact Hall.out k (by omega))
          generalize itN l j = y at hrp CS Hne Hgo
          generalize itN m j = z at hrp' CS Hne Hgo
          have Hrp := Lib.hid (rangeAt_keep (w' := wr) hrp fun k => hbr.cell hg)
          have B1 := hbr.alloc hbr.size (.cells #[.int .i64 y.d, .int .i64 y.a, .slice D y.b.length cd] 43)
          have Hrp' := Lib.hid (rangeAt_keep hrp' fun k => B1.cell hg')
          have BB := Lib.hid (B1.alloc B1.size (.cells #[.int .i64 z.d, .int .i64 z.a, .slice D' z.b.length cd'] 43))
          have hlt1 := World.block_lt_of_cell? _ _ hp1
          have hp2 := (World.cell?_alloc_lt wr (.cells #[.int .i64 y.d, .int .i64 y.a, .slice D y.b.length cd] 43) _ hlt1).trans hp1
          have HP := Lib.hid (And.intro hlt1 hp1)
          have k0 : (0 : Int) ≤ (j : Int) := by omega
          have k1 : (j : Int) < (l.length : Int) := by omega
          have k2 : (j : Int) < (m.length : Int) := by omega
          have HX := Lib.hid (show ((y.d != z.d) = false ∧ (y.a != z.a) = false ∧ decide (y.b = z.b) = true) → y = z from fun ⟨a, b, c⟩ => It.ext' (by simpa using a) (by simpa using b) (by simpa using c))
          have HX1 := Lib.hid (show (y.d != z.d) = true → y ≠ z from fun a e => by rw [e] at a; simp at a)
          have HX2 := Lib.hid (show (y.a != z.a) = true → y ≠ z from fun a e => by rw [e] at a; simp at a)
          have HX3 := Lib.hid (show decide (y.b = z.b) = false → y ≠ z from fun a e => by rw [e] at a; simp at a)
          generalize decide (y.b = z.b) = x3 at CS HX HX3
          clear hrp hrp' hc hc' B1 hrd hrd' hp1 hlt1
          cases x1 : (y.d != z.d)
          · cases x2 : (y.a != z.a)
            · cases x3
              · have R := Lib.hid (Hne.out (HX3.out rfl))
                go_wp2_with (first
                  | ((with_reducible refine (id ?_ : wpList _ _ _ (⟨some 29, _, _, _, _, _⟩ :: _) _ _)); refine wpList_load_mid rfl 43 _ (by rfl) g (j * 3) (by rfl) [.int .i64 y.d, .int .i64 y.a, .slice D y.b.length cd] _ Hrp.out Tryd.underlying43 rfl (by kernel_rfl) ?_)
                  | ((with_reducible refine (id ?_ : wpList _ _ _ (⟨some 34, _, _, _, _, _⟩ :: _) _ _)); refine wpList_load_mid rfl 43 _ (by rfl) g' (j * 3) (by rfl) [.int .i64 z.d, .int .i64 z.a, .slice D' z.b.length cd'] _ Hrp'.out Tryd.underlying43 rfl (by kernel_rfl) ?_)
                  | (go_at_call 22; refine (CS.out _ BB.out).mono ?_; rintro e w1 ⟨rfl, hb1⟩))
                go_ret
                exact ⟨by rw [R.out]; rfl, BB.out.trans (hb1.mono BB.out.size)⟩
              · have R := Lib.hid (Hgo.out (HX.out ⟨x1, x2, rfl⟩))
                go_wp2_with (first
                  | ((with_reducible refine (id ?_ : wpList _ _ _ (⟨some 29, _, _, _, _, _⟩ :: _) _ _)); refine wpList_load_mid rfl 43 _ (by rfl) g (j * 3) (by rfl) [.int .i64 y.d, .int .i64 y.a, .slice D y.b.length cd] _ Hrp.out Tryd.underlying43 rfl (by kernel_rfl) ?_)
                  | ((with_reducible refine (id ?_ : wpList _ _ _ (⟨some 34, _, _, _, _, _⟩ :: _) _ _)); refine wpList_load_mid rfl 43 _ (by rfl) g' (j * 3) (by rfl) [.int .i64 z.d, .int .i64 z.a, .slice D' z.b.length cd'] _ Hrp'.out Tryd.underlying43 rfl (by kernel_rfl) ?_)
                  | (go_at_call 22; refine (CS.out _ BB.out).mono ?_; rintro e w1 ⟨rfl, hb1⟩))
                go_roundw
                case rel =>
                  have hz : w.heap.size + 1 < ((wr.alloc (.cells #[.int .i64 y.d, .int .i64 y.a, .slice D y.b.length cd] 43)).alloc (.cells #[.int .i64 z.d, .int .i64 z.a, .slice D' z.b.length cd'] 43)).heap.size := by have := HP.out.1; simp at this ⊢; omega
                  exact ⟨j + 1, by omega, by go_num, R.out, BB.out.trans (hb1.mono BB.out.size), (hb1.cell (p := ⟨w.heap.size + 1, 1, none⟩) hz).trans ((World.cell?_alloc_lt _ _ _ (by have := HP.out.1; simp at this ⊢; omega)).trans hp2)⟩
                case measure => simp [intOf]; omega
            · have R := Lib.hid (Hne.out (HX2.out x2))
              clear CS
              go_wp2_with (first
                | ((with_reducible refine (id ?_ : wpList _ _ _ (⟨some 29, _, _, _, _, _⟩ :: _) _ _)); refine wpList_load_mid rfl 43 _ (by rfl) g (j * 3) (by rfl) [.int .i64 y.d, .int .i64 y.a, .slice D y.b.length cd] _ Hrp.out Tryd.underlying43 rfl (by kernel_rfl) ?_)
                | ((with_reducible refine (id ?_ : wpList _ _ _ (⟨some 34, _, _, _, _, _⟩ :: _) _ _)); refine wpList_load_mid rfl 43 _ (by rfl) g' (j * 3) (by rfl) [.int .i64 z.d, .int .i64 z.a, .slice D' z.b.length cd'] _ Hrp'.out Tryd.underlying43 rfl (by kernel_rfl) ?_))
              go_ret
              exact ⟨by rw [R.out]; rfl, BB.out⟩
          · have R := Lib.hid (Hne.out (HX1.out x1))
            clear CS
            go_wp2_with (first
              | ((with_reducible refine (id ?_ : wpList _ _ _ (⟨some 29, _, _, _, _, _⟩ :: _) _ _)); refine wpList_load_mid rfl 43 _ (by rfl) g (j * 3) (by rfl) [.int .i64 y.d, .int .i64 y.a, .slice D y.b.length cd] _ Hrp.out Tryd.underlying43 rfl (by kernel_rfl) ?_)
              | ((with_reducible refine (id ?_ : wpList _ _ _ (⟨some 34, _, _, _, _, _⟩ :: _) _ _)); refine wpList_load_mid rfl 43 _ (by rfl) g' (j * 3) (by rfl) [.int .i64 z.d, .int .i64 z.a, .slice D' z.b.length cd'] _ Hrp'.out Tryd.underlying43 rfl (by kernel_rfl) ?_))
            go_ret
            exact ⟨by rw [R.out]; rfl, BB.out⟩
        · obtain rfl : j = l.length := by omega
          have R := Lib.hid (Hyes.out Hall.out)
          go_wp2
          go_ret
          exact ⟨by rw [R.out]; rfl, hbr⟩
    · have R := Lib.hid (show decide (s = s ∧ l = m) = false from decide_eq_false fun e => h2 (by rw [e.2]))
      have e0 : ((l.length : Int) != (m.length : Int)) = true := by rw [bne_iff_ne]; omega
      generalize decide (s = s ∧ l = m) = res at R
      clear h2
      go_enter Tryd.func14, Tryd.ntmps14
      go_wp2
      go_ret
      exact ⟨by rw [R.out]; rfl, B2.out⟩
  · have R := Lib.hid (show decide (s = t ∧ l = m) = false from decide_eq_false fun e => h1 e.1)
    have e0 : (s != t) = true := by rw [bne_iff_ne]; exact h1
    generalize decide (s = t ∧ l = m) = res at R
    clear h1
    go_enter Tryd.func14, Tryd.ntmps14
    go_wp2
    go_ret
    exact ⟨by rw [R.out]; rfl, B2.out⟩
end Go.Proofs.YtoomdgidpplpfaaDoor
end
section
set_option linter.unusedVariables false
set_option linter.unusedSimpArgs false
namespace Go.Proofs.YtoomdgidpplpfaaDoor
open Go.RowKit

theorem recNil_ok : recOk 1 [] = true := by decide
theorem head4 : ((recB 1 []).getD 0 []).take 4 = [87, 82, 69, 67] := by
  rw [recB_get0]
  unfold stamped
  rw [List.take_append_of_le_length (by rw [List.length_take, fullB_len (by simp)]; omega), List.take_take]
  rfl
end Go.Proofs.YtoomdgidpplpfaaDoor
end
section
set_option maxRecDepth 8000
set_option linter.unusedVariables false
set_option linter.unusedSimpArgs false
namespace Go.Proofs.YtoomdgidpplpfaaDoor
open Go.RowKit

theorem P4.rdc {lo : Nat} {W : World} {g : Nat} {bk : Nat → Nat} {rs : List (List UInt8)} (h : P4 lo W g bk rs) : RdC W W.heap.size (some ⟨g, 0, none⟩) rs :=
  ⟨by have := h.n; omega, fun _ => ⟨g, 0, rfl, h.lt, fun k hk => by
    have := h.n
    have hc := h.row k (by omega)
    rw [slv_yes hk] at hc
    exact ⟨_, 32, by rw [Nat.zero_add, h.len k hk]; exact hc, by rw [h.len k hk]; omega, h.rd k hk⟩⟩⟩
theorem OwIt.rdS {e : TypeId} {w : World} {B lo n c : Nat} {A : Option Addr} {l : List It} (h : OwIt e w B lo (.slice A n c) l) : n = l.length ∧ l.length ≤ c ∧ RdI w w.heap.size A l := by
  obtain ⟨A', c', e, h1, h2⟩ := h.rd
  injection e with e1 e2 e3
  subst e1 e2 e3
  exact ⟨rfl, h1, h2⟩
/-- A box that holds a Record. -/
def RxB (W : World) (p : Nat) (s : Int) (A : Option Addr) (n c : Nat) : Prop := W.cell? ⟨p, 0, none⟩ = some (.int .i64 s) ∧ W.cell? ⟨p, 1, none⟩ = some (.slice A n c)
theorem RxB.lt {W : World} {p : Nat} {s : Int} {A : Option Addr} {n c : Nat} (h : RxB W p s A n c) : p < W.heap.size := World.block_lt_of_cell? _ _ h.1
theorem RxB.below {W W' : World} {p : Nat} {s : Int} {A : Option Addr} {n c : Nat} (h : RxB W p s A n c) (hb : Below W.heap.size W W') : RxB W' p s A n c := ⟨(hb.cell (p := ⟨p, 0, none⟩) h.lt).trans h.1, (hb.cell (p := ⟨p, 1, none⟩) h.lt).trans h.2⟩
theorem rxb_new (W : World) (s : Int) (A : Option Addr) (n c : Nat) (t : TypeId) : RxB (W.alloc (.cells #[.int .i64 s, .slice A n c] t)) W.heap.size s A n c :=
  ⟨cell_of_row _ _ 0 _ _ _ (heap_alloc_new W (.cells #[.int .i64 s, .slice A n c] t)), cell_of_row _ _ 1 _ _ _ (heap_alloc_new W (.cells #[.int .i64 s, .slice A n c] t))⟩
section
variable {lo : Nat} {W : World} {g : Nat} {bk : Nat → Nat} {rs : List (List UInt8)}
theorem P4.cell (h : P4 lo W g bk rs) (k : Nat) (hk : k < rs.length) : W.cell? ⟨g, k, none⟩ = some (.slice (some ⟨bk k, 0, none⟩) 32 32) := by
  have := h.row k (by have := h.n; omega); rwa [slv_yes hk] at this
theorem P4.byte (h : P4 lo W g bk rs) (k : Nat) (hk : k < rs.length) (i : Nat) (hi : i < 32) : W.cell? ⟨bk k, i, none⟩ = some (.int .u8 (((rs.getD k []).getD i 0).toNat : Int)) ∧ W.frozen? ⟨bk k, i, none⟩ = false :=
  (h.own k hk).cell (h.len k hk) i (by omega)
/-- One byte of a sector set. -/
theorem P4.put (h : P4 lo W g bk rs) (k : Nat) (hk : k < rs.length) (i : Nat) (x : UInt8) : P4 lo (W.setCell ⟨bk k, i, none⟩ (.int .u8 (x.toNat : Int))) g bk (rs.set k ((rs.getD k []).set i x)) ∧ W.grownBy (W.setCell ⟨bk k, i, none⟩ (.int .u8 (x.toNat : Int))) (some (bk k)) := by
  obtain ⟨h1, h2⟩ := (h.own k hk).set (h.len k hk) i x
  exact ⟨h.set k hk h1 (by rw [List.length_set]; exact h.len k hk) h2, h2⟩
theorem P4.drew (h : P4 lo W g bk rs) : P4 lo W.drew g bk rs := h.below (Below.refl _ _).drew
end
theorem turnB_len (rs : List (List UInt8)) (k i : Nat) (c : UInt8) : (turnB rs k i c).length = rs.length := by simp [turnB]
end Go.Proofs.YtoomdgidpplpfaaDoor
end
