/- Texts put together: RefRecKit, RefRecLoop. -/
import Derived.Test.YtkbhnbkjpnigkaaDoorLdam
import Derived.Test.YtkbhnbkjpnigkaaDoorLdan
import Derived.Test.YtkbhnbkjpnigkaaDoorLdac
import Derived.Test.YtkbhnbkjpnigkaaDoorLdad
import Derived.Test.YtkbhnbkjpnigkaaDoorLdaa
import Derived.Test.YtkbhnbkjpnigkaaDoorLdag
import Derived.Carry
section
set_option maxRecDepth 8000
set_option linter.unusedVariables false
set_option linter.unusedSimpArgs false
namespace Go.Proofs.YtkbhnbkjpnigkaaDoor
open Go.RowKit

theorem refFour_any (n : Int) (w : World) (hn : 0 ≤ n ∧ n ≤ 2147483647) :
    Calls Tryd.prog 59 #[.int .i64 n] w fun e w' => ∃ g : Nat, e = .returned (.slice (some ⟨g, 0, none⟩) 4 4) ∧ OwB 5 w' w.heap.size (.slice (some ⟨g, 0, none⟩) 4 4) [byN n 3, byN n 2, byN n 1, byN n 0] ∧ Below w.heap.size w w' := by
  have e3 : n / 16777216 = ((byN n 3).toNat : Int) := by have := byN_u8 hn.1 3 (by omega); omega
  have e2 : n / 65536 % 256 = ((byN n 2).toNat : Int) := byN_u8 hn.1 2 (by omega)
  have e1 : n / 256 % 256 = ((byN n 1).toNat : Int) := byN_u8 hn.1 1 (by omega)
  have e0 : n % 256 = ((byN n 0).toNat : Int) := by have := byN_u8 hn.1 0 (by omega); omega
  generalize byN n 3 = b3 at e3
  generalize byN n 2 = b2 at e2
  generalize byN n 1 = b1 at e1
  generalize byN n 0 = b0 at e0
  go_enter Tryd.func59, Tryd.ntmps59
  go_wp2
  go_ret
  exact ⟨_, rfl, own_lit [b3, b2, b1, b0] rfl rfl (by omega), below1 _ _⟩
theorem refFull_n (v : Value) (bs : List UInt8) (n B : Nat) (w : World) (h : OwB 5 w B v bs) (hl : bs.length = n) (hn : n < 32) (hB : B ≤ w.heap.size) :
    Calls Tryd.prog 61 #[v] w fun e w' => ∃ v', e = .returned v' ∧ OwB 5 w' B v' (bs ++ List.replicate (32 - n) 0) ∧ w.grownBy w' v.ownBlock := by
  obtain ⟨A, c, rfl, hc, hr⟩ := h.rd
  have Hh := Lib.hid h
  have HL := Lib.hid hl
  rw [hl]
  rw [hl] at Hh
  obtain ⟨m, hm⟩ : ∃ m, 32 - n = m := ⟨_, rfl⟩
  have kz : IntKind.i64.wrap (32 - (n : Int)) = (m : Int) := by rw [IntKind.wrap_i64]; omega
  have hm32 : 0 < m ∧ m ≤ 32 := by omega
  rw [hm]
  clear h hl hr hc hm
  go_enter Tryd.func61, Tryd.ntmps61
  go_wp2_with (refine wpList_append_Z _ rfl _ _ _ _ rfl B 5 .i64 Tryd.underlying41 Tryd.underlying3 info_u8 (.slice A n c) bs rfl Hh.out .i64 m rfl (by omega) (by rw [HL.out]; omega) hB ?_; intro v1 w1 o1 g1 h1)
  go_ret
  exact ⟨_, rfl, o1, g1⟩
/-- One row ahead of others, in a row of one's own. -/
theorem rw_cons {lo : Nat} {W6 W8 : World} {g cap n : Nat} {bk cp : Nat → Nat} {rs : List (List UInt8)} {gs cs : Nat} {b : List UInt8} {v' : Value} (h : Rw lo W6 g cap n bk cp rs) (ho : OwB 5 W6 lo (.slice (some ⟨gs, 0, none⟩) 32 cs) b) (hb : b.length = 32) (hgs : ∀ k, k < n → gs ≠ bk k) (hn : n < 9)
    (hr : W8.ownsRow lo 41 1 v' (1 + n) ([.slice (some ⟨gs, 0, none⟩) 32 cs] ++ rwvs bk cp n)) (hB : Below W6.heap.size W6 W8) (hv : ∀ q, v'.ownBlock = some q → W6.heap.size ≤ q) :
    ∃ g' cap' bk' cp', v' = .slice (some ⟨g', 0, none⟩) (1 + n) cap' ∧ Rw lo W8 g' cap' (1 + n) bk' cp' (b :: rs) := by
  obtain ⟨A, c, rfl, hc, hg⟩ := rx_form hr
  obtain ⟨g', rfl, hB'⟩ := hg (by omega)
  have hg' := hv g' rfl
  have e : [.slice (some ⟨gs, 0, none⟩) 32 cs] ++ rwvs bk cp n = rwvs (fun k => if k = 0 then gs else bk (k - 1)) (fun k => if k = 0 then cs else cp (k - 1)) (1 + n) := by
    apply List.ext_getElem (by simp [rwvs]; omega)
    intro k h1 h2
    match k with
    | 0 => simp [rwvs, rwv]
    | k + 1 => simp [rwvs, rwv]
  rw [e] at hr
  have hgl := (ho.lt gs rfl).2
  refine ⟨g', c, _, _, rfl, hr, by simp [h.nn]; omega, by omega, fun k hk => ?_, fun k hk => ?_, fun k hk => ?_, fun j k hj hk hjk => ?_⟩
  · match k with
    | 0 => exact hb
    | k + 1 => exact h.len k (by omega)
  · match k with
    | 0 => exact ho.below hB
    | k + 1 => exact (h.own k (by omega)).below hB
  · match k with
    | 0 => show gs ≠ g'; omega
    | k + 1 =>
      have := (h.blt k (by omega)).2
      show bk k ≠ g'; omega
  · match j, k with
    | 0, 0 => rfl
    | 0, k + 1 => exact absurd hjk (hgs k (by omega))
    | j + 1, 0 => exact absurd hjk.symm (hgs j (by omega))
    | j + 1, k + 1 => have := h.inj j k (by omega) (by omega) hjk; omega
theorem partsB_next {l : List It} {j : Nat} (h : l.length ≤ 3) (hj : j < l.length) : (partsB (l.take j)).getD j [] = z32 ∧ (partsB (l.take j)).set j (itN l j).b = partsB (l.take (j + 1)) := by
  have h1 := stgB_get (s := 0) h hj
  have h2 := stgB_succ (s := 0) h hj
  rw [Nat.add_comm 1 j] at h1 h2
  refine ⟨?_, ?_⟩
  · have e : (stgB 0 l j).getD (j + 1) [] = (partsB (l.take j)).getD j [] := by simp [stgB, List.getD_eq_getElem?_getD]
    rw [← e]; exact h1
  · have e : (stgB 0 l j).set (j + 1) (itN l j).b = fullB 0 l :: (partsB (l.take j)).set j (itN l j).b := rfl
    rw [e] at h2
    exact (List.cons.inj h2).2
/-- What stays while the document makes its sectors. -/
def ErS (w : World) (g cap : Nat) (bk cp : Nat → Nat) (v : Value) (bs : List UInt8) (ps : List (List UInt8)) (V : World) : Prop :=
  OwB 5 V w.heap.size v bs ∧ Rw w.heap.size V g cap 3 bk cp ps ∧ (∀ k, v.ownBlock = some k → k ≠ g ∧ ∀ j, j < 3 → k ≠ bk j) ∧ Below w.heap.size w V
section
variable {w V V' : World} {g cap : Nat} {bk cp : Nat → Nat} {v v' : Value} {bs bs' : List UInt8} {ps : List (List UInt8)}
theorem ErS.below (h : ErS w g cap bk cp v bs ps V) (hb : Below V.heap.size V V') : ErS w g cap bk cp v bs ps V' := ⟨h.1.below hb, h.2.1.below hb, h.2.2.1, h.2.2.2.trans (hb.mono h.2.2.2.size)⟩
theorem ErS.drew (h : ErS w g cap bk cp v bs ps V) : ErS w g cap bk cp v bs ps V.drew := h.below (Below.refl _ _).drew
/-- The bytes grow. -/
theorem ErS.grow (h : ErS w g cap bk cp v bs ps V) (ho : OwB 5 V' w.heap.size v' bs') (hg : V.grownBy V' v.ownBlock) (hat : v'.ownBlock = v.ownBlock ∨ v'.ownBlock = some V.heap.size) : ErS w g cap bk cp v' bs' ps V' := by
  obtain ⟨h1, h2, h3, h4⟩ := h
  refine ⟨ho, h2.grown hg (fun e => (h3 g e).1 rfl) (fun k hk e => (h3 _ e).2 k hk rfl), fun k e => ?_, h4.grown hg h4.size (fun k e => (h1.lt k e).1)⟩
  rcases hat with hat | hat
  · rw [hat] at e; exact h3 k e
  · rw [hat] at e
    injection e with e
    have := h2.glt.2
    exact ⟨by omega, fun j hj => by have := (h2.blt j hj).2; omega⟩
/-- One sector written. -/
theorem ErS.copy (h : ErS w g cap bk cp v bs ps V) (k : Nat) (hk : k < 3) {b : List UInt8} (ho : OwB 5 V' w.heap.size (.slice (some ⟨bk k, 0, none⟩) 32 (cp k)) b) (hb : b.length = 32) (hg : V.grownBy V' (some (bk k))) : ErS w g cap bk cp v bs (ps.set k b) V' := by
  obtain ⟨h1, h2, h3, h4⟩ := h
  exact ⟨h1.grown hg (by
    rcases hv : v.ownBlock with _ | q
    · exact .inl rfl
    · exact .inr fun e => by injection e with e; exact (h3 q hv).2 k hk e), h2.set k hk ho hb hg, h3, h4.grown hg h4.size (fun j e => by injection e with e; subst e; exact (h2.blt k hk).1)⟩
end
end Go.Proofs.YtkbhnbkjpnigkaaDoor
end
section
set_option linter.unusedVariables false
set_option linter.unusedSimpArgs false
namespace Go.Proofs.YtkbhnbkjpnigkaaDoor
open Go.RowKit

noncomputable def codeER : Code := Tryd.f44.body.getD .skip
set_option maxRecDepth 100000 in
set_option maxHeartbeats 3200000 in
theorem erRb {w0 : World} {A : Option Addr} {c g cap : Nat} {bk cp : Nat → Nat} {l : List It} {b0 : List UInt8} {j : Nat} {v : Value} {w : World} (u0 u1 u2 u3 u4 u5 u8 u9 u10 u11 u12 u13 u14 u15 u16 u17 u18 u19 u20 u21 u22 u23 u24 u25 u26 u27 u31 u32 u33 u34 u35 u36 u37 u38 u39 u40 u41 u42 u43 u44 u45 u46 u47 u48 u49 u50 u51 u52 u53 u54 u55 u56 u57 u58 : Value) (K : Act → World → Prop) (Q0 : Exit → Act → World → Prop) (hr : RdI w0 w0.heap.size A l) (hl : l.length ≤ 3) (hb0 : b0.length = 9) (hm : ∀ x ∈ l, 0 ≤ x.d ∧ x.d < 8 ∧ 36 ≤ x.a ∧ x.a < 52 ∧ x.b.length = 32) (hI : (j ≤ l.length ∧ ErS w0 g cap bk cp v (b0 ++ plcB (l.take j)) (partsB (l.take j)) w))
    (hK : ∀ (v8 v9 v31 v32 v33 v34 v35 v36 v37 v38 v39 v40 v41 v42 v43 v44 v45 v46 v47 v48 v49 v50 v51 : Value) (v2 : Value) (V : World), ((j + 1) ≤ l.length ∧ ErS w0 g cap bk cp v2 (b0 ++ plcB (l.take (j + 1))) (partsB (l.take (j + 1))) V) → l.length - (j + 1) < l.length - j → K ⟨List.toArray (u0 :: u1 :: u2 :: u3 :: u4 :: u5 :: v2 :: (.slice (some ⟨g, 0, none⟩) 3 cap) :: v8 :: v9 :: u10 :: u11 :: u12 :: u13 :: u14 :: u15 :: u16 :: u17 :: u18 :: u19 :: u20 :: u21 :: u22 :: u23 :: u24 :: u25 :: u26 :: u27 :: (.slice A l.length c) :: (.int .i64 (l.length : Int)) :: (.int .i64 (((j + 1) : Nat) : Int)) :: v31 :: v32 :: v33 :: v34 :: v35 :: v36 :: v37 :: v38 :: v39 :: v40 :: v41 :: v42 :: v43 :: v44 :: v45 :: v46 :: v47 :: v48 :: v49 :: v50 :: v51 :: u52 :: u53 :: u54 :: u55 :: u56 :: u57 :: u58 :: []), []⟩ V)
    (hX : ∀ (v8 v9 v31 v32 v33 v34 v35 v36 v37 v38 v39 v40 v41 v42 v43 v44 v45 v46 v47 v48 v49 v50 v51 : Value), (j = l.length) → Q0 (.exit 0) ⟨List.toArray (u0 :: u1 :: u2 :: u3 :: u4 :: u5 :: v :: (.slice (some ⟨g, 0, none⟩) 3 cap) :: v8 :: v9 :: u10 :: u11 :: u12 :: u13 :: u14 :: u15 :: u16 :: u17 :: u18 :: u19 :: u20 :: u21 :: u22 :: u23 :: u24 :: u25 :: u26 :: u27 :: (.slice A l.length c) :: (.int .i64 (l.length : Int)) :: (.int .i64 ((j : Nat) : Int)) :: v31 :: v32 :: v33 :: v34 :: v35 :: v36 :: v37 :: v38 :: v39 :: v40 :: v41 :: v42 :: v43 :: v44 :: v45 :: v46 :: v47 :: v48 :: v49 :: v50 :: v51 :: u52 :: u53 :: u54 :: u55 :: u56 :: u57 :: u58 :: []), []⟩ w) :
    Code.wp Tryd.prog (sub [1, 1, 1, 1, 0, 1, 0, 0] codeER) (Exit.then K Q0) ⟨List.toArray (u0 :: u1 :: u2 :: u3 :: u4 :: u5 :: v :: (.slice (some ⟨g, 0, none⟩) 3 cap) :: u8 :: u9 :: u10 :: u11 :: u12 :: u13 :: u14 :: u15 :: u16 :: u17 :: u18 :: u19 :: u20 :: u21 :: u22 :: u23 :: u24 :: u25 :: u26 :: u27 :: (.slice A l.length c) :: (.int .i64 (l.length : Int)) :: (.int .i64 ((j : Nat) : Int)) :: u31 :: u32 :: u33 :: u34 :: u35 :: u36 :: u37 :: u38 :: u39 :: u40 :: u41 :: u42 :: u43 :: u44 :: u45 :: u46 :: u47 :: u48 :: u49 :: u50 :: u51 :: u52 :: u53 :: u54 :: u55 :: u56 :: u57 :: u58 :: []), []⟩ w := by
  have HK := Lib.hid hK
  have HX := Lib.hid hX
  clear hK hX
  conv => arg 2; whnf
  obtain ⟨hj, hst⟩ := hI
  by_cases hlt : j < l.length
  · obtain ⟨ga, rfl, hga, hc⟩ := hr.2 (by omega)
    obtain ⟨D, cd, hrp, hrd⟩ := hc j hlt
    have hk := hm _ (itN_mem hlt)
    have Ht := Lib.hid (plcB_take hlt)
    obtain ⟨hz, hset⟩ := partsB_next hl hlt
    have hpl : (b0 ++ plcB (l.take j)).length ≤ 15 := by rw [List.length_append, plcB_len, hb0]; simp; omega
    generalize itN l j = y at hrp hrd hk Ht hset
    obtain ⟨d, a, b⟩ := y
    dsimp only at hrp hrd hk Ht hset
    obtain ⟨hd0, hd1, ha0, ha1, hb32⟩ := hk
    rw [hb32] at hrp
    have ed : d = ((byN d 0).toNat : Int) := by have := byX_one (n := d) (by omega); omega
    have ea : a = ((byN a 0).toNat : Int) := by have := byX_one (n := a) (by omega); omega
    generalize byN d 0 = ub at ed Ht
    generalize byN a 0 = uc at ea Ht
    subst ed ea
    have mu : (ub.toNat : Int) % 256 = (ub.toNat : Int) := by have : ub.toNat < 256 := ub.toNat_lt; omega
    have mc : (uc.toNat : Int) % 256 = (uc.toNat : Int) := by have : uc.toNat < 256 := uc.toNat_lt; omega
    have Hrp := Lib.hid (rangeAt_keep (w' := w) hrp fun k => hst.2.2.2.cell hga)
    obtain ⟨q, hq⟩ : ∃ q, w.heap.size = q := ⟨_, rfl⟩
    have hx2 := cell_of_row _ _ 2 _ _ _ (heap_alloc_new w (.cells #[.int .i64 (ub.toNat : Int), .int .i64 (uc.toNat : Int), .slice D 32 cd] 60))
    rw [hq] at hx2
    have hvq := fun k e => (hst.1.lt k e).2
    rw [hq] at hvq
    have HA := Lib.hid (hst.below (below1 w (.cells #[.int .i64 (ub.toNat : Int), .int .i64 (uc.toNat : Int), .slice D 32 cd] 60)))
    have hsz1 : (w.alloc (.cells #[.int .i64 (ub.toNat : Int), .int .i64 (uc.toNat : Int), .slice D 32 cd] 60)).heap.size = q + 1 := by simp [hq]
    have HA2 := Lib.hid (HA.out.below (below1 (w.alloc (.cells #[.int .i64 (ub.toNat : Int), .int .i64 (uc.toNat : Int), .slice D 32 cd] 60)) (.cells #[.int .u8 (ub.toNat : Int), .int .u8 (uc.toNat : Int)] 5)))
    have HX2 := Lib.hid ((World.cell?_alloc_lt (w.alloc (.cells #[.int .i64 (ub.toNat : Int), .int .i64 (uc.toNat : Int), .slice D 32 cd] 60)) (.cells #[.int .u8 (ub.toNat : Int), .int .u8 (uc.toNat : Int)] 5) ⟨q, 2, none⟩ (by show q < _; rw [hsz1]; omega)).trans hx2)
    have RL := Lib.hid (rd_lit (W := w.alloc (.cells #[.int .i64 (ub.toNat : Int), .int .i64 (uc.toNat : Int), .slice D 32 cd] 60)) (e := 5) (C := #[.int .u8 (ub.toNat : Int), .int .u8 (uc.toNat : Int)]) [ub, uc] rfl rfl (by simp))
    rw [hsz1] at RL
    obtain ⟨W2, hW2⟩ : ∃ W, (w.alloc (.cells #[.int .i64 (ub.toNat : Int), .int .i64 (uc.toNat : Int), .slice D 32 cd] 60)).alloc (.cells #[.int .u8 (ub.toNat : Int), .int .u8 (uc.toNat : Int)] 5) = W := ⟨_, rfl⟩
    rw [hW2] at HA2 HX2 RL
    have HVq := Lib.hid hvq
    have Hq := Lib.hid (show q < W2.heap.size from World.block_lt_of_cell? _ _ HX2.out)
    have HZ := Lib.hid hz
    have HSet := Lib.hid hset
    have HRd := Lib.hid hrd
    have H32 := Lib.hid hb32
    have k0 : (0 : Int) ≤ (j : Int) := by omega
    have k1 : (j : Int) < (l.length : Int) := by omega
    have k3 : (j : Int) < 3 := by omega
    have HL3 := Lib.hid hl
    have HB0 := Lib.hid hpl
    generalize hbs : b0 ++ plcB (l.take j) = bs at HA2 HB0
    have Hbs := Lib.hid hbs
    generalize partsB (l.take j) = ps at HA2 HZ HSet
    clear hbs hr hl hb0 hm hst hc hrp hrd hz hset hpl HX HA hx2 hvq hb32
    go_wp2_with (first
      | ((with_reducible refine (id ?_ : wpList _ _ _ (⟨some 34, _, _, _, _, _⟩ :: _) _ _)); refine wpList_load_mid rfl 60 _ (by rfl) ga (j * 3) (by rfl) [.int .i64 (ub.toNat : Int), .int .i64 (uc.toNat : Int), .slice D 32 cd] _ Hrp.out Tryd.underlying60 rfl (by kernel_rfl) ?_)
      | ((with_reducible refine (id ?_ : wpList _ _ _ (⟨some 43, _, _, _, _, _⟩ :: _) _ _)); refine wpList_append_B _ rfl _ _ _ rfl w0.heap.size 5 Tryd.underlying41 info_u8 v bs rfl HA2.out.1 _ (some ⟨q + 1, 0, none⟩) 2 2 [ub, uc] rfl rfl RL.out (by have := HB0.out; simp; omega) HA2.out.2.2.2.size ?_
         intro v4 w4 O4 g4 hat4
         have H4 := Lib.hid (HA2.out.grow O4 g4 hat4)
         have C4 := Lib.hid ((g4.cell_far ⟨q, 2, none⟩ Hq.out (fun e => by have := HVq.out q e.symm; omega)).trans HX2.out)
         clear O4 g4 hat4))
    generalize hbq : bs ++ [ub, uc] = bq at H4
    have Hbq := Lib.hid hbq
    generalize hpj : ps = pj at H4 HZ HSet
    clear hbq hpj HA2 HX2 RL hW2 HVq Hq HB0
    refine wp_region_noPanic (region_ord 6 [] (fun V => ErS w0 g cap bk cp v4 bq pj V ∧ V.cell? ⟨q, 2, none⟩ = some (.slice D 32 cd)) (by kernel_rfl) (by kernel_rfl) (fun _ _ _ _ _ h => h) fun R => ?_)
    change anyI _ _ _ _ _ _ 7 _ _ w4.drew
    have HS0 := Lib.hid (show (fun V => ErS w0 g cap bk cp v4 bq pj V ∧ V.cell? ⟨q, 2, none⟩ = some (.slice D 32 cd)) w4.drew from ⟨H4.out.drew, C4.out⟩)
    refine' anyI_take R 0 rfl (v := ?_) (by kernel_rfl) (by rfl) (fun V hV => ?hy) HS0.out ?_
    case hy => ((try dsimp only at hV);  have p0 := hV.1.2.1.cell j (by omega); have p1 := hV.2; go_simp; try with_reducible rfl)
    try simp only [Act.put, List.getElem_toArray, List.getElem_cons_succ, List.getElem_cons_zero, List.setIfInBounds_toArray, List.set_cons_zero, List.set_cons_succ]
    refine' anyI_take R 1 rfl (v := ?_) (by kernel_rfl) (by rfl) (fun V hV => ?hy) HS0.out ?_
    case hy => ((try dsimp only at hV);  have p0 := hV.1.2.1.cell j (by omega); have p1 := hV.2; go_simp; try with_reducible rfl)
    try simp only [Act.put, List.getElem_toArray, List.getElem_cons_succ, List.getElem_cons_zero, List.setIfInBounds_toArray, List.set_cons_zero, List.set_cons_succ]
    refine' anyI_take R 2 rfl (v := ?_) (by kernel_rfl) (by rfl) (fun V hV => ?hy) HS0.out ?_
    case hy => ((try dsimp only at hV);  have p0 := hV.1.2.1.cell j (by omega); have p1 := hV.2; go_simp; try with_reducible rfl)
    try simp only [Act.put, List.getElem_toArray, List.getElem_cons_succ, List.getElem_cons_zero, List.setIfInBounds_toArray, List.set_cons_zero, List.set_cons_succ]
    refine' anyI_take R 3 rfl (v := ?_) (by kernel_rfl) (by rfl) (fun V hV => ?hy) HS0.out ?_
    case hy => ((try dsimp only at hV);  have p0 := hV.1.2.1.cell j (by omega); have p1 := hV.2; go_simp; try with_reducible rfl)
    try simp only [Act.put, List.getElem_toArray, List.getElem_cons_succ, List.getElem_cons_zero, List.setIfInBounds_toArray, List.set_cons_zero, List.set_cons_succ]
    refine' anyI_take R 4 rfl (v := ?_) (by kernel_rfl) (by rfl) (fun V hV => ?hy) HS0.out ?_
    case hy => ((try dsimp only at hV);  have p0 := hV.1.2.1.cell j (by omega); have p1 := hV.2; go_simp; try with_reducible rfl)
    try simp only [Act.put, List.getElem_toArray, List.getElem_cons_succ, List.getElem_cons_zero, List.setIfInBounds_toArray, List.set_cons_zero, List.set_cons_succ]
    refine' anyI_take R 5 rfl (v := ?_) (by kernel_rfl) (by rfl) (fun V hV => ?hy) HS0.out ?_
    case hy => ((try dsimp only at hV);  have p0 := hV.1.2.1.cell j (by omega); have p1 := hV.2; go_simp; try with_reducible rfl)
    try simp only [Act.put, List.getElem_toArray, List.getElem_cons_succ, List.getElem_cons_zero, List.setIfInBounds_toArray, List.set_cons_zero, List.set_cons_succ]
    refine anyI_tail (by kernel_rfl) ?_
    try simp only [List.drop_succ_cons, List.drop_zero]
    clear R
    have h5 := HS0.out.1.2.1.own j (by omega)
    rw [HZ.out] at h5
    refine wpList_copy_B rfl _ _ _ rfl 5 Tryd.underlying41 (by kernel_rfl) (bk j) 32 (cp j) w0.heap.size z32 rfl h5 rfl _ D 32 cd b rfl H32.out.symm ((HRd.out.below HS0.out.1.2.2.2 (Nat.le_refl _))) ?_
    intro w6 O6 g6 _
    rw [copyB_32 H32.out] at O6
    have H6 := Lib.hid (HS0.out.1.copy j (by omega) O6 H32.out g6)
    rw [HSet.out, ← Hbq.out] at H6
    clear O6 g6 HS0 h5 C4
    go_wp2_with fail
    refine NoPanic.normal ?_
    go_wp2_with fail
    exact HK.out _ _ _ _ _ _ _ _ _ _ _ _ _ _ _ _ _ _ _ _ _ _ _ _ _ ⟨by omega, by rw [Ht.out, ← List.append_assoc, Hbs.out]; exact H6.out⟩ (by omega)
  · obtain rfl : j = l.length := by omega
    clear HK hr hl hb0 hm hst
    go_wp2_with fail
    exact HX.out _ _ _ _ _ _ _ _ _ _ _ _ _ _ _ _ _ _ _ _ _ _ _ (by trivial)
set_option maxRecDepth 100000 in
set_option maxHeartbeats 3200000 in
theorem erR {w0 : World} {A : Option Addr} {c g cap : Nat} {bk cp : Nat → Nat} {l : List It} {b0 : List UInt8} {v0 : Value} {w : World} (u0 u1 u2 u3 u4 u5 u8 u9 u10 u11 u12 u13 u14 u15 u16 u17 u18 u19 u20 u21 u22 u23 u24 u25 u26 u27 u31 u32 u33 u34 u35 u36 u37 u38 u39 u40 u41 u42 u43 u44 u45 u46 u47 u48 u49 u50 u51 u52 u53 u54 u55 u56 u57 u58 : Value) (Q : Exit → Act → World → Prop) (hr : RdI w0 w0.heap.size A l) (hl : l.length ≤ 3) (hb0 : b0.length = 9) (hm : ∀ x ∈ l, 0 ≤ x.d ∧ x.d < 8 ∧ 36 ≤ x.a ∧ x.a < 52 ∧ x.b.length = 32) (hI : (0 ≤ l.length ∧ ErS w0 g cap bk cp v0 (b0 ++ plcB (l.take 0)) (partsB (l.take 0)) w))
    (hX : ∀ (v8 v9 v31 v32 v33 v34 v35 v36 v37 v38 v39 v40 v41 v42 v43 v44 v45 v46 v47 v48 v49 v50 v51 : Value) (j : Nat) (v : Value) (V : World), (j ≤ l.length ∧ ErS w0 g cap bk cp v (b0 ++ plcB (l.take j)) (partsB (l.take j)) V) → (j = l.length) → Q (.exit 0) ⟨List.toArray (u0 :: u1 :: u2 :: u3 :: u4 :: u5 :: v :: (.slice (some ⟨g, 0, none⟩) 3 cap) :: v8 :: v9 :: u10 :: u11 :: u12 :: u13 :: u14 :: u15 :: u16 :: u17 :: u18 :: u19 :: u20 :: u21 :: u22 :: u23 :: u24 :: u25 :: u26 :: u27 :: (.slice A l.length c) :: (.int .i64 (l.length : Int)) :: (.int .i64 ((j : Nat) : Int)) :: v31 :: v32 :: v33 :: v34 :: v35 :: v36 :: v37 :: v38 :: v39 :: v40 :: v41 :: v42 :: v43 :: v44 :: v45 :: v46 :: v47 :: v48 :: v49 :: v50 :: v51 :: u52 :: u53 :: u54 :: u55 :: u56 :: u57 :: u58 :: []), []⟩ V) :
    Code.wp Tryd.prog (.loop (sub [1, 1, 1, 1, 0, 1, 0, 0] codeER)) Q ⟨List.toArray (u0 :: u1 :: u2 :: u3 :: u4 :: u5 :: v0 :: (.slice (some ⟨g, 0, none⟩) 3 cap) :: u8 :: u9 :: u10 :: u11 :: u12 :: u13 :: u14 :: u15 :: u16 :: u17 :: u18 :: u19 :: u20 :: u21 :: u22 :: u23 :: u24 :: u25 :: u26 :: u27 :: (.slice A l.length c) :: (.int .i64 (l.length : Int)) :: (.int .i64 ((0 : Nat) : Int)) :: u31 :: u32 :: u33 :: u34 :: u35 :: u36 :: u37 :: u38 :: u39 :: u40 :: u41 :: u42 :: u43 :: u44 :: u45 :: u46 :: u47 :: u48 :: u49 :: u50 :: u51 :: u52 :: u53 :: u54 :: u55 :: u56 :: u57 :: u58 :: []), []⟩ w := by
  refine wp_loop_ghost (fun gk a V => ∀ C : Prop, (∀ (u8 u9 u31 u32 u33 u34 u35 u36 u37 u38 u39 u40 u41 u42 u43 u44 u45 u46 u47 u48 u49 u50 u51 : Value) (j : Nat) (v : Value), gk = l.length - j → (j ≤ l.length ∧ ErS w0 g cap bk cp v (b0 ++ plcB (l.take j)) (partsB (l.take j)) V) → a = ⟨List.toArray (u0 :: u1 :: u2 :: u3 :: u4 :: u5 :: v :: (.slice (some ⟨g, 0, none⟩) 3 cap) :: u8 :: u9 :: u10 :: u11 :: u12 :: u13 :: u14 :: u15 :: u16 :: u17 :: u18 :: u19 :: u20 :: u21 :: u22 :: u23 :: u24 :: u25 :: u26 :: u27 :: (.slice A l.length c) :: (.int .i64 (l.length : Int)) :: (.int .i64 ((j : Nat) : Int)) :: u31 :: u32 :: u33 :: u34 :: u35 :: u36 :: u37 :: u38 :: u39 :: u40 :: u41 :: u42 :: u43 :: u44 :: u45 :: u46 :: u47 :: u48 :: u49 :: u50 :: u51 :: u52 :: u53 :: u54 :: u55 :: u56 :: u57 :: u58 :: []), []⟩ → C) → C) (l.length - 0) ?_ ?_
  · intro C hC
    exact hC _ _ _ _ _ _ _ _ _ _ _ _ _ _ _ _ _ _ _ _ _ _ _ (0) (v0) rfl hI rfl
  · intro gk a V hI'
    refine hI' _ ?_
    intro u8 u9 u31 u32 u33 u34 u35 u36 u37 u38 u39 u40 u41 u42 u43 u44 u45 u46 u47 u48 u49 u50 u51 j v hk hinv ha
    subst ha
    subst hk
    refine erRb _ _ _ _ _ _ _ _ _ _ _ _ _ _ _ _ _ _ _ _ _ _ _ _ _ _ _ _ _ _ _ _ _ _ _ _ _ _ _ _ _ _ _ _ _ _ _ _ _ _ _ _ _ _ _ _ hr hl hb0 hm hinv (fun v8 v9 v31 v32 v33 v34 v35 v36 v37 v38 v39 v40 v41 v42 v43 v44 v45 v46 v47 v48 v49 v50 v51 v2 V2 h2 hm => ?_) (fun v8 v9 v31 v32 v33 v34 v35 v36 v37 v38 v39 v40 v41 v42 v43 v44 v45 v46 v47 v48 v49 v50 v51 hx => hX v8 v9 v31 v32 v33 v34 v35 v36 v37 v38 v39 v40 v41 v42 v43 v44 v45 v46 v47 v48 v49 v50 v51 j v V hinv hx)
    refine ⟨_, hm, fun C hC => ?_⟩
    exact hC v8 v9 v31 v32 v33 v34 v35 v36 v37 v38 v39 v40 v41 v42 v43 v44 v45 v46 v47 v48 v49 v50 v51 ((j + 1)) (v2) rfl h2 rfl
end Go.Proofs.YtkbhnbkjpnigkaaDoor
end
