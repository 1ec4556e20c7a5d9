/- Texts put together: RecDec, RecWakes, RecKit. -/
import Derived.Test.YtkbhnbkjpnigkaaDoorLdaj
import Derived.Test.YtkbhnbkjpnigkaaDoorLdam
import Derived.Test.YtkbhnbkjpnigkaaDoorLdag
import Derived.Test.YtkbhnbkjpnigkaaDoorLdal
section
set_option maxRecDepth 8000
set_option linter.unusedVariables false
set_option linter.unusedSimpArgs false
namespace Go.Proofs.YtkbhnbkjpnigkaaDoor
open Go.RowKit

theorem its64_O (rs : List (List UInt8)) : Its64 (itsO rs) := by
  intro k hk
  have hk' : k < min (cnO rs) 3 := by unfold itsO at hk; rwa [itsN_len] at hk
  unfold itsO
  rw [itsN_at rs _ k hk']
  have a := ((rs.getD 0 []).getD (9 + 2 * k) 0).toNat_lt
  have b := ((rs.getD 0 []).getD (10 + 2 * k) 0).toNat_lt
  exact ⟨by show (_ : Int) ≤ _ ∧ _; dsimp only [itO]; omega, by dsimp only [itO]; omega⟩
theorem sqO_64 (rs : List (List UInt8)) : (-9223372036854775808 ≤ sqO rs ∧ sqO rs ≤ 9223372036854775807) := by
  have h := (numB_lt [(rs.getD 0 []).getD 4 0, (rs.getD 0 []).getD 5 0, (rs.getD 0 []).getD 6 0, (rs.getD 0 []).getD 7 0] 4 (by simp) (by omega)).1
  have e : sqO rs = (numB ([(rs.getD 0 []).getD 4 0, (rs.getD 0 []).getD 5 0, (rs.getD 0 []).getD 6 0, (rs.getD 0 []).getD 7 0].take 4) : Nat) := rfl
  rw [e]; omega
theorem any_unl (rs : List (List UInt8)) (h4 : rs.length = 4) : sect rs = !(rs.any unl) := by
  rw [Bool.eq_iff_iff]
  simp only [sect_iff, h4, true_and, Bool.not_eq_true', List.any_eq_false]
  refine ⟨fun h x hx => by simp [unl, h x hx], fun h x hx => ?_⟩
  have := h x hx
  simp only [unl] at this
  have h2 : (x.length : Int) = 32 := by simpa [bne_iff_ne] using this
  omega
/-- The answer's own box, and what was before it. -/
def DcS (w V : World) : Prop := Below w.heap.size w V ∧ V.cell? ⟨w.heap.size, 0, none⟩ = some (.int .i64 0) ∧ V.cell? ⟨w.heap.size, 1, none⟩ = some (.slice none 0 0) ∧ (∀ i, V.frozen? ⟨w.heap.size, i, none⟩ = false)
theorem DcS.plt {w V : World} (h : DcS w V) : w.heap.size < V.heap.size := World.block_lt_of_cell? _ _ h.2.1
theorem DcS.below {w V V' : World} (h : DcS w V) (hb : Below V.heap.size V V') : DcS w V' := by
  have hg := grown_none hb
  have n0 : ∀ i, some (⟨w.heap.size, i, none⟩ : Addr).block ≠ none := fun i => by simp
  exact ⟨h.1.trans (hb.mono h.1.size), (hb.cell (p := ⟨w.heap.size, 0, none⟩) h.plt).trans h.2.1, (hb.cell (p := ⟨w.heap.size, 1, none⟩) h.plt).trans h.2.2.1, fun i => (hg.frozen_far _ h.plt (n0 i)).trans (h.2.2.2 i)⟩
theorem DcS.start (w : World) (t : TypeId) : DcS w (w.alloc (.cells #[.int .i64 0, .slice none 0 0] t)) := by
  have c0 := fun i => cell_of_row _ _ i _ _ _ (heap_alloc_new w (.cells #[.int .i64 0, .slice none 0 0] t))
  exact ⟨below1 w _, c0 0, c0 1, fun i => World.frozen?_alloc_new w #[.int .i64 0, .slice none 0 0] t i⟩
theorem DcS.put {w V : World} (h : DcS w V) (y : Int) (v : Value) : ((V.setCell ⟨w.heap.size, 0, none⟩ (.int .i64 y)).setCell ⟨w.heap.size, 1, none⟩ v).cell? ⟨w.heap.size, 0, none⟩ = some (.int .i64 y) ∧ ((V.setCell ⟨w.heap.size, 0, none⟩ (.int .i64 y)).setCell ⟨w.heap.size, 1, none⟩ v).cell? ⟨w.heap.size, 1, none⟩ = some v
    ∧ Below w.heap.size w ((V.setCell ⟨w.heap.size, 0, none⟩ (.int .i64 y)).setCell ⟨w.heap.size, 1, none⟩ v)
    ∧ ∀ l, OwIt 43 V (w.heap.size + 1) (w.heap.size + 1) v l → OwIt 43 ((V.setCell ⟨w.heap.size, 0, none⟩ (.int .i64 y)).setCell ⟨w.heap.size, 1, none⟩ v) w.heap.size w.heap.size v l := by
  obtain ⟨h1, h5, h6, h7⟩ := h
  have g1 := grown_cell V w.heap.size 0 (.int .i64 y)
  have g2 := grown_cell (V.setCell ⟨w.heap.size, 0, none⟩ (.int .i64 y)) w.heap.size 1 v
  have k6 : (V.setCell ⟨w.heap.size, 0, none⟩ (.int .i64 y)).cell? ⟨w.heap.size, 1, none⟩ = some (.slice none 0 0) := (World.cell?_setCell_other _ _ _ _ (by intro e; injection e with _ e; cases e)).trans h6
  exact ⟨(World.cell?_setCell_other _ _ _ _ (by intro e; injection e with _ e; cases e)).trans (World.cell?_setCell_same _ _ _ h5), World.cell?_setCell_same _ _ _ k6, (h1.setCell (p := ⟨w.heap.size, 0, none⟩) (Nat.le_refl _) _).setCell (p := ⟨w.heap.size, 1, none⟩) (Nat.le_refl _) _, fun l h0 => ((h0.far g1 (by omega) (by omega)).far g2 (by omega) (by omega)).le (by omega) (by omega)⟩
theorem decode_not (A : Option Addr) (n c : Nat) (rs : List (List UInt8)) (w : World) (hn : rs.length = n) (h : RdR w w.heap.size A rs) (hs : sect rs = false) :
    Calls Tryd.prog 53 #[.slice A n c] w fun e w' => e = .returned (.tuple #[.agg #[.int .i64 0, .slice none 0 0], .int .i64 2]) ∧ Below w.heap.size w w' := by
  have CU := Lib.hid fun W (hW : Below w.heap.size w W) => anyU_any A n c rs W hn ((h.below hW (Nat.le_refl _)).more hW.size)
  have S0 := Lib.hid (DcS.start w 29)
  have HA := Lib.hid (fun h4 : n = 4 => show rs.any unl = true by
    have := any_unl rs (hn.trans h4)
    rw [hs] at this
    cases e : rs.any unl with
    | true => rfl
    | false => rw [e] at this; cases this)
  clear h hs hn
  obtain ⟨W0, hW0⟩ : ∃ W, (w.alloc (.cells #[.int .i64 0, .slice none 0 0] 29)) = W := ⟨_, rfl⟩
  rw [hW0] at S0
  by_cases h4 : n = 4
  · subst h4
    rw [HA.out rfl] at CU
    clear HA
    go_enter Tryd.func53, Tryd.ntmps53
    go_wp2_with fail
    refine (CU.out _ S0.out.1).mono ?_
    rintro e w1 ⟨rfl, hb⟩
    have S1 := S0.out.below hb
    obtain ⟨p0, p1, pb, _⟩ := S1.put 0 (.slice none 0 0)
    obtain ⟨q0, q1, q2, q3⟩ := id S1
    obtain ⟨q4, q5⟩ := And.intro (q3 0) (q3 1)
    clear hb CU S0 S1
    go_wp2
    refine bodyPost_ret (v := .tuple #[.agg #[.int .i64 0, .slice none 0 0], .int .i64 2]) (by simp [results, Tryd.results53, go_sem, p0, p1]) rfl ⟨rfl, pb⟩
  · have e0 : ((n : Int) != 4) = true := by rw [bne_iff_ne]; omega
    clear HA CU
    obtain ⟨p0, p1, pb, _⟩ := S0.out.put 0 (.slice none 0 0)
    obtain ⟨q0, q1, q2, q3⟩ := S0.out
    obtain ⟨q4, q5⟩ := And.intro (q3 0) (q3 1)
    clear S0
    go_enter Tryd.func53, Tryd.ntmps53
    go_wp2
    refine bodyPost_ret (v := .tuple #[.agg #[.int .i64 0, .slice none 0 0], .int .i64 2]) (by simp [results, Tryd.results53, go_sem, p0, p1]) rfl ⟨rfl, pb⟩
set_option maxHeartbeats 4000000 in
theorem decode_yes (A : Option Addr) (c : Nat) (rs : List (List UInt8)) (w : World) (hc4 : 4 ≤ c) (h : RdC w w.heap.size A rs) (hs : sect rs = true) (ht : TabOk w) :
    Calls Tryd.prog 53 #[.slice A 4 c] w fun e w' => ∃ v, e = .returned (.tuple #[.agg #[.int .i64 (rcS rs), v], .int .i64 (rcE rs)]) ∧ OwIt 43 w' w.heap.size w.heap.size v (rcL rs) ∧ Below w.heap.size w w' := by
  have hl4 := ((sect_iff rs).1 hs).1
  have CU := Lib.hid fun W (hW : Below w.heap.size w W) => anyU_any A 4 c rs W hl4 ((h.rdr.below hW (Nat.le_refl _)).more hW.size)
  rw [show rs.any unl = false by have := any_unl rs hl4; rw [hs] at this; cases e : rs.any unl with
    | false => rfl
    | true => rw [e] at this; cases this] at CU
  obtain ⟨b, off, rfl, hb, _⟩ := h.2 (by omega)
  have CF := Lib.hid fun W (hW : Below w.heap.size w W) => fields_at b off c rs (rs.getD 0 []) _ _ _ _ _ W ((h.below hW (Nat.le_refl _)).more hW.size) hc4 hs rfl ⟨rfl, rfl, rfl, rfl⟩ rfl
  have CQ := Lib.hid fun (g : Nat) (bk : Nat → Nat) (W : World) (lo : Nat) (hp : P4 lo W g bk (recB (sqO rs) (itsO rs))) (ho : recOk (sqO rs) (itsO rs) = true) (hW : Below w.heap.size w W) =>
    equalR_any (some ⟨g, 0, none⟩) (some ⟨b, off, none⟩) 4 4 4 c (recB (sqO rs) (itsO rs)) rs W (recB_len ((recOk_iff _ _).1 ho).1.2.2) hl4 hp.rdr ((h.rdr.below hW (Nat.le_refl _)).more hW.size)
  have HT := Lib.hid fun W (hW : Below w.heap.size w W) => ht.below hW ht.pos
  have h64 := its64_O rs
  have hy64 := sqO_64 rs
  have Hno := Lib.hid (show recOk (sqO rs) (itsO rs) = false → rcO rs = false from fun q => rcO_not fun h => by rw [q] at h; cases h.2.1)
  have Hyes := Lib.hid (show recOk (sqO rs) (itsO rs) = true → rcO rs = decide (recB (sqO rs) (itsO rs) = rs) from fun q => by unfold rcO; rw [hs, q]; rfl)
  have R := Lib.hid (show rcO rs = true → rcS rs = sqO rs ∧ rcL rs = itsO rs ∧ rcE rs = 0 from fun q => ⟨if_pos q, if_pos q, if_pos q⟩)
  have R' := Lib.hid (show rcO rs = false → rcS rs = 0 ∧ rcL rs = [] ∧ rcE rs = 2 from fun q => by unfold rcS rcL rcE; rw [q]; exact ⟨rfl, rfl, rfl⟩)
  clear h hs ht hl4
  generalize rcS rs = fs at R R'
  generalize rcL rs = fl at R R'
  generalize rcE rs = fe at R R'
  generalize rcO rs = dec at Hno Hyes R R'
  generalize hkb : recB (sqO rs) (itsO rs) = kb at CQ Hyes
  generalize decide (kb = rs) = eqb at CQ Hyes
  generalize sqO rs = y at CF CQ Hno Hyes R hy64 hkb
  generalize itsO rs = L at CF CQ Hno Hyes R h64 hkb
  have S0 := Lib.hid (DcS.start w 29)
  obtain ⟨W0, hW0⟩ : ∃ W, (w.alloc (.cells #[.int .i64 0, .slice none 0 0] 29)) = W := ⟨_, rfl⟩
  rw [hW0] at S0
  go_enter Tryd.func53, Tryd.ntmps53
  go_wp2_with fail
  refine (CU.out _ S0.out.1).mono ?_
  rintro e w1 ⟨rfl, hb1⟩
  have S1 := Lib.hid (S0.out.below hb1)
  clear hb1 CU hW0 S0
  go_wp2_with fail
  refine (CF.out _ S1.out.1).mono ?_
  rintro e w2 ⟨v, rfl, ho, hb2⟩
  have S2 := Lib.hid (S1.out.below hb2)
  replace ho := ho.le (B' := w.heap.size + 1) (lo' := w.heap.size + 1) S1.out.plt S1.out.plt
  clear hb2 CF S1
  have B3 := below1 w2 (.cells #[.int .i64 y, v] 29)
  have S3 := Lib.hid (S2.out.below B3)
  have O3 := Lib.hid (ho.below B3)
  obtain ⟨A3, c3, rfl, hLc, hrd⟩ := ho.rd
  have k3 := fun i => cell_of_row _ _ i _ _ _ (heap_alloc_new w2 (.cells #[.int .i64 y, .slice A3 L.length c3] 29))
  have HK := Lib.hid (And.intro (k3 0) (k3 1))
  have hsz : w2.heap.size < (w2.alloc (.cells #[.int .i64 y, .slice A3 L.length c3] 29)).heap.size := by simp
  replace hrd := (hrd.below B3 (Nat.le_refl _)).more (Nat.le_of_lt hsz)
  obtain ⟨p, hp⟩ : ∃ p, w2.heap.size = p := ⟨_, rfl⟩
  rw [hp] at HK hsz
  clear B3 k3 S2
  obtain ⟨W3, hW3⟩ : ∃ W, (w2.alloc (.cells #[.int .i64 y, .slice A3 L.length c3] 29)) = W := ⟨_, rfl⟩
  rw [hW3] at HK hsz hrd S3 O3
  have CN := Lib.hid fun (q : recOk y L = false) => encode_no A3 L.length c3 y L W3 rfl hLc hy64 hrd h64 (Lib.hid q)
  have CY := Lib.hid fun (q : recOk y L = true) => encode_yes A3 L.length c3 y L W3 rfl hLc hy64 hrd h64 (Lib.hid q) (HT.out _ S3.out.1)
  rw [hkb] at CY
  obtain ⟨k0, k1⟩ := HK.out
  clear hrd
  generalize recOk y L = ok at CN CY Hno Hyes CQ
  cases ok
  · obtain ⟨rfl, rfl, rfl⟩ := R'.out (Hno.out rfl)
    clear R R' Hno Hyes CQ CY
    go_wp2_with fail
    refine (CN.out trivial).mono ?_
    rintro e w4 ⟨rfl, hb4⟩
    have S4 := S3.out.below hb4
    obtain ⟨p0, p1, pb, po⟩ := S4.put 0 (.slice none 0 0)
    obtain ⟨q0, q1, q2, q3⟩ := S4
    obtain ⟨q4, q5⟩ := And.intro (q3 0) (q3 1)
    have Hpo := Lib.hid (po [] (OwIt.nil _ _ _ _))
    clear hb4 CN S3 O3 po k0 k1 HK
    go_wp2
    refine bodyPost_ret (v := .tuple #[.agg #[.int .i64 0, .slice none 0 0], .int .i64 2]) (by simp [results, Tryd.results53, go_sem, p0, p1]) rfl ⟨_, rfl, Hpo.out, pb⟩
  · have hdec := Hyes.out rfl
    clear CN Hno Hyes
    go_wp2_with fail
    refine (CY.out trivial).mono ?_
    rintro e w4 ⟨g, bk, rfl, hp4, hb4⟩
    have S4 := Lib.hid (S3.out.below hb4)
    have O4 := Lib.hid (O3.out.below hb4)
    have K4 := Lib.hid (And.intro ((hb4.cell (p := ⟨p, 0, none⟩) hsz).trans HK.out.1) ((hb4.cell (p := ⟨p, 1, none⟩) hsz).trans HK.out.2))
    have hp4lt : p < w4.heap.size := Nat.lt_of_lt_of_le hsz hb4.size
    have CE := Lib.hid (CQ.out g bk w4 _ hp4 trivial S4.out.1)
    clear hb4 CY CQ S3 O3 k0 k1 HK hp4
    cases eqb
    · obtain ⟨rfl, rfl, rfl⟩ := R'.out hdec
      clear R R' hdec
      go_wp2_with fail
      refine CE.out.mono ?_
      rintro e w5 ⟨rfl, hb5⟩
      have S5 := S4.out.below hb5
      obtain ⟨p0, p1, pb, po⟩ := S5.put 0 (.slice none 0 0)
      obtain ⟨q0, q1, q2, q3⟩ := S5
      obtain ⟨q4, q5⟩ := And.intro (q3 0) (q3 1)
      have Hpo := Lib.hid (po [] (OwIt.nil _ _ _ _))
      clear hb5 CE S4 O4 po
      go_wp2
      refine bodyPost_ret (v := .tuple #[.agg #[.int .i64 0, .slice none 0 0], .int .i64 2]) (by simp [results, Tryd.results53, go_sem, p0, p1]) rfl ⟨_, rfl, Hpo.out, pb⟩
    · obtain ⟨rfl, rfl, rfl⟩ := R.out hdec
      clear R R' hdec
      go_wp2_with fail
      refine CE.out.mono ?_
      rintro e w5 ⟨rfl, hb5⟩
      have S5 := S4.out.below hb5
      have k0 := (hb5.cell (p := ⟨p, 0, none⟩) hp4lt).trans K4.out.1
      have k1 := (hb5.cell (p := ⟨p, 1, none⟩) hp4lt).trans K4.out.2
      obtain ⟨p0, p1, pb, po⟩ := S5.put fs (.slice A3 fl.length c3)
      obtain ⟨q0, q1, q2, q3⟩ := S5
      obtain ⟨q4, q5⟩ := And.intro (q3 0) (q3 1)
      have Hpo := Lib.hid (po fl (O4.out.below hb5))
      clear hb5 CE S4 O4 po K4
      go_wp2
      refine bodyPost_ret (v := .tuple #[.agg #[.int .i64 fs, .slice A3 fl.length c3], .int .i64 0]) (by simp [results, Tryd.results53, go_sem, p0, p1]) rfl ⟨_, rfl, Hpo.out, pb⟩
theorem decode_any (A : Option Addr) (n c : Nat) (rs : List (List UInt8)) (w : World) (hn : rs.length = n) (hnc : n ≤ c) (h : RdC w w.heap.size A rs) (ht : TabOk w) :
    Calls Tryd.prog 53 #[.slice A n c] w fun e w' => ∃ v, e = .returned (.tuple #[.agg #[.int .i64 (rcS rs), v], .int .i64 (rcE rs)]) ∧ OwIt 43 w' w.heap.size w.heap.size v (rcL rs) ∧ Below w.heap.size w w' := by
  cases hs : sect rs with
  | true =>
    obtain rfl : n = 4 := hn.symm.trans ((sect_iff rs).1 hs).1
    exact decode_yes A c rs w hnc h hs ht
  | false =>
    refine (decode_not A n c rs w hn h.rdr hs).mono ?_
    rintro e w' ⟨rfl, hb⟩
    have q : rcO rs = false := by unfold rcO; rw [hs]; rfl
    have e1 : rcS rs = 0 := by unfold rcS; rw [q]; rfl
    have e2 : rcL rs = [] := by unfold rcL; rw [q]; rfl
    have e3 : rcE rs = 2 := by unfold rcE; rw [q]; rfl
    rw [e1, e2, e3]
    exact ⟨_, rfl, OwIt.nil _ _ _ _, hb⟩
end Go.Proofs.YtkbhnbkjpnigkaaDoor
end
section
set_option linter.unusedVariables false
set_option linter.unusedSimpArgs false
namespace Go.Proofs.YtkbhnbkjpnigkaaDoor
open Go.RowKit

end Go.Proofs.YtkbhnbkjpnigkaaDoor
end
section
set_option maxRecDepth 8000
set_option linter.unusedVariables false
set_option linter.unusedSimpArgs false
namespace Go.Proofs.YtkbhnbkjpnigkaaDoor
open Go.RowKit

theorem OwIt.rdS {e : TypeId} {w : World} {B lo n c : Nat} {A : Option Addr} {l : List It} (h : OwIt e w B lo (.slice A n c) l) : n = l.length ∧ l.length ≤ c ∧ RdI w w.heap.size A l := by
  obtain ⟨A', c', e, h1, h2⟩ := h.rd
  injection e with e1 e2 e3
  subst e1 e2 e3
  exact ⟨rfl, h1, h2⟩
section
variable {lo : Nat} {W : World} {g : Nat} {bk : Nat → Nat} {rs : List (List UInt8)}
theorem P4.cell (h : P4 lo W g bk rs) (k : Nat) (hk : k < rs.length) : W.cell? ⟨g, k, none⟩ = some (.slice (some ⟨bk k, 0, none⟩) 32 32) := by
  have := h.row k (by have := h.n; omega); rwa [slv_yes hk] at this
end
end Go.Proofs.YtkbhnbkjpnigkaaDoor
end
