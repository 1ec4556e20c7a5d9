/- Texts put together: UpdKit, UpdWnt, UpdCrash, UpdWakes. -/
import Derived.Test.YtenkkdnepmoihaaGreatDoorUdbj
import Derived.Test.YtenkkdnepmoihaaGreatDoorUdbi
import Derived.Test.YtenkkdnepmoihaaGreatDoorUdbh
import Derived.Test.YtenkkdnepmoihaaGreatDoorUdbk
import Derived.Test.YtenkkdnepmoihaaGreatDoorUdak
section
set_option maxRecDepth 20000
set_option linter.unusedVariables false
set_option linter.unusedSimpArgs false
namespace Go.Proofs.YtenkkdnepmoihaaGreatDoor
open Go.RowKit

section
variable {W w w' : World} {b : Nat} {H : BH} {N : Bch} {K : List (Nat × Obj)} {R : List (Option Addr × List (List UInt8))} {S : List (Option Addr × List UInt8)}
/-- A block of one's own is written, that is none of the bench's, nor kept. -/
theorem KS.far (h : KS W w b H N K [] []) {ob : Option Nat} (hg : w.grownBy w' ob) (ho : ∀ p, ob = some p → W.heap.size ≤ p ∧ ¬ BF b H N.n p ∧ ∀ q ∈ K, q.1 ≠ p) : KS W w' b H N K [] [] := by
  have hch := chg_grown hg
  refine ⟨⟨h.bp.chg hch (fun k e => (ho k e).1) (fun k hk e => (ho k e).2.1 hk), fun p hp => ?_⟩, fun _ hp => absurd hp (by simp), fun _ hp => absurd hp (by simp)⟩
  obtain ⟨h1, h2, h3⟩ := h.kx.kp p hp
  exact ⟨(hg.block _ (Array.getElem?_eq_some_iff.1 h1).1 (fun e => (ho _ e.symm).2.2 p hp rfl)).trans h1, h2, h3⟩
end
end Go.Proofs.YtenkkdnepmoihaaGreatDoor
end
section
set_option maxRecDepth 20000
set_option linter.unusedVariables false
set_option linter.unusedSimpArgs false
namespace Go.Proofs.YtenkkdnepmoihaaGreatDoor
open Go.RowKit

/-- Each entry is a sector of the array, told by a slice of S. -/
def Wnt (l : Int) (D : Nat) (c : Int) (W : Nat) (ds : Nat → List (List UInt8)) (F : Int → Option Value) (S : List (Option Addr × List UInt8)) : Prop :=
  ∀ x v, F x = some v → ∃ (ρ k : Nat) (A : Option Addr) (cc : Nat), ρ < 16 ∧ k < W ∧ x = plN l (D : Int) c (ρ : Int) (k : Int) ∧ v = .slice A 32 cc ∧ (A, (ds ρ).getD k []) ∈ S
section
variable {l : Int} {D : Nat} {c : Int} {W : Nat} {ds : Nat → List (List UInt8)} {F : Int → Option Value} {S S' : List (Option Addr × List UInt8)}
theorem Wnt.nil : Wnt l D c W ds (fun _ => none) S := fun x v h => by cases h
theorem Wnt.mono (h : Wnt l D c W ds F S) (hs : ∀ p ∈ S, p ∈ S') : Wnt l D c W ds F S' := fun x v hx => by
  obtain ⟨ρ, k, A, cc, h1, h2, h3, h4, h5⟩ := h x v hx
  exact ⟨ρ, k, A, cc, h1, h2, h3, h4, hs _ h5⟩
theorem Wnt.put (h : Wnt l D c W ds F S) {ρ k cc : Nat} {A : Option Addr} (hρ : ρ < 16) (hk : k < W) (hm : (A, (ds ρ).getD k []) ∈ S) : Wnt l D c W ds (putF F (plN l (D : Int) c (ρ : Int) (k : Int)) (.slice A 32 cc)) S := fun x v hx => by
  unfold putF at hx
  split at hx
  · next e => injection hx with hx; exact ⟨ρ, k, A, cc, hρ, hk, e, hx.symm, hm⟩
  · exact h x v hx
theorem Wnt.upd (h : Wnt l D c W ds F S) (hd : Dat W ds) {ρ k cc : Nat} {A : Option Addr} {x : List UInt8} (hρ : ρ < 16) (hk : k < W) : Wnt l D c W (dsSet ds ρ k x) (putF F (plN l (D : Int) c (ρ : Int) (k : Int)) (.slice A 32 cc)) ((A, x) :: S) := fun z v hz => by
  unfold putF at hz
  split at hz
  · next e => injection hz with hz; exact ⟨ρ, k, A, cc, hρ, hk, e, hz.symm, by rw [dsSet_get hd hk, if_pos ⟨rfl, rfl⟩]; exact List.mem_cons_self ..⟩
  · next e =>
    obtain ⟨ρ', k', A', cc', h1, h2, h3, h4, h5⟩ := h z v hz
    refine ⟨ρ', k', A', cc', h1, h2, h3, h4, ?_⟩
    rw [dsSet_get hd hk, if_neg (fun q => e (by rw [h3, q.1, q.2]))]
    exact List.mem_cons_of_mem _ h5
end
/-- All slices lie elsewhere. -/
def Frm (S : List (Option Addr × List UInt8)) (p : Nat) : Prop := ∀ q ∈ S, 0 < q.2.length → ∀ a, q.1 = some a → a.block ≠ p
theorem Frm.nil (p : Nat) : Frm [] p := fun _ h => absurd h (by simp)
section
variable {W0 w w' : World} {b : Nat} {H : BH} {N : Bch} {K : List (Nat × Obj)} {R : List (Option Addr × List (List UInt8))} {S : List (Option Addr × List UInt8)}
/-- A row of data, kept as a block, and its sectors as slices. -/
theorem ks_dataK (h : KS W0 w b H N K R S) {n l c r : Int} {D F W : Nat} (gr : Gr n l c r D F W) (ρ : Nat) (hρ : ρ ≤ 1000) {A : Option Addr} {zs : List Int} (m cp : Nat) (hm : m = zs.length) (hcp : zs.length ≤ cp) (hz : RdZ W0 W0.heap.size A zs) :
    Calls Tryz.prog 11 #[.agg #[.int .i64 l, .int .i64 (D : Int), .int .i64 c], .int .i64 (ρ : Int), .slice A m cp] w fun e w' => ∃ g c' cur L, e = .returned (.slice (some ⟨g, 0, none⟩) W c') ∧ KS W0 w' b H N ((g, Obj.cells cur 35 (0, 0)) :: K) R (L ++ S) ∧ (∀ k, k < W → ∃ A cc, cur[k]? = some (.slice A 32 cc) ∧ (A, (datL zs ρ W).getD k []) ∈ L) ∧ (∀ q ∈ L, ∀ a, q.1 = some a → w.heap.size ≤ a.block) ∧ w.heap.size ≤ g := by
  have hw1 := gr.w1
  have hw7 := gr.w7
  refine (data_any gr ρ hρ A zs m cp w hm hcp (h.rdz hz)).mono ?_
  rintro e w' ⟨v, rfl, ⟨xs, h1, h2⟩, hb⟩
  have hlen := datL_len zs ρ W
  have h32 : ∀ k, k < W → ((datL zs ρ W).getD k []).length = 32 := fun k hk => mem_getD datL_mem (by rw [hlen]; exact hk)
  rw [hlen] at h1
  rcases h1.2 with ⟨_, h0⟩ | ⟨g, cap, cur, rfl, hB, hg, hc, _, _, htk⟩
  · omega
  · have hxl : xs.length = W := by have := h2.1; rw [hlen] at this; exact this
    have hrow : ∀ k, k < W → ∃ A cc, xs[k]? = some (.slice A 32 cc) ∧ RdBF w.heap.size w' A ((datL zs ρ W).getD k []) := fun k hk => by
      obtain ⟨A', cc, q1, q2, _⟩ := h2.2 k (by rw [hlen]; exact hk)
      rw [h32 k hk] at q1
      exact ⟨A', cc, q1, q2⟩
    let adr : Value → Option Addr := fun v => match v with | .slice A _ _ => A | _ => none
    refine ⟨g, cap, cur, (List.range W).map fun k => (adr (xs.getD k (.bool false)), (datL zs ρ W).getD k []), rfl, ?_, fun k hk => ?_, fun q hq a ha => ?_, hB⟩
    · have h' := h.below hb
      have hk' : KS W0 w' b H N ((g, Obj.cells cur 35 (0, 0)) :: K) R S := h.block hb hg hB
      refine ⟨hk'.kx, hk'.rx, fun p hp => ?_⟩
      rcases List.mem_append.1 hp with hp | hp
      · obtain ⟨k, hk, rfl⟩ := List.mem_map.1 hp
        obtain ⟨A', cc, q1, q2⟩ := hrow k (List.mem_range.1 hk)
        have e1 : xs.getD k (.bool false) = .slice A' 32 cc := by rw [List.getD_eq_getElem?_getD, q1]; rfl
        show RdBX _ _ (adr (xs.getD k (.bool false))) _
        rw [e1]
        exact q2.rdbx (h.off (Nat.le_refl _))
      · exact hk'.sx p hp
    · obtain ⟨A', cc, q1, q2⟩ := hrow k hk
      refine ⟨A', cc, ?_, List.mem_map.2 ⟨k, List.mem_range.2 hk, ?_⟩⟩
      · have e := congrArg (fun t : List Value => t[k]?) htk
        simp only [List.getElem?_take] at e
        rw [if_pos (by omega), Array.getElem?_toList] at e
        rw [e]; exact q1
      · have e1 : xs.getD k (.bool false) = .slice A' 32 cc := by rw [List.getD_eq_getElem?_getD, q1]; rfl
        rw [e1]
    · obtain ⟨k, hk, rfl⟩ := List.mem_map.1 hq
      obtain ⟨A', cc, q1, q2⟩ := hrow k (List.mem_range.1 hk)
      have e1 : xs.getD k (.bool false) = .slice A' 32 cc := by rw [List.getD_eq_getElem?_getD, q1]; rfl
      dsimp only at ha
      rw [e1] at ha
      obtain ⟨b', off, e2, _, hlo, _⟩ := q2.2 (by rw [h32 k (List.mem_range.1 hk)]; omega)
      have ha' : A' = some a := ha
      rw [e2] at ha'
      injection ha' with ha'
      rw [← ha']; exact hlo
theorem KS.farSx (h : ∀ p ∈ S, RdBX (BF b H N.n) w p.1 p.2) {p : Nat} (hg : w.grownBy w' (some p)) (hS : Frm S p) : ∀ q ∈ S, RdBX (BF b H N.n) w' q.1 q.2 := fun q hq => by
  have h0 := h q hq
  have h1 : RdBX (fun k => BF b H N.n k ∨ some p = some k) w q.1 q.2 := ⟨h0.1, fun hn => by
    obtain ⟨b', off, e, hl, hf, hc⟩ := h0.2 hn
    exact ⟨b', off, e, hl, fun hh => hh.elim hf fun e2 => by injection e2 with e2; exact hS q hq hn _ e e2.symm, hc⟩⟩
  have hc := chg_grown hg
  exact h1.chg (show Chg (fun k => BF b H N.n k ∨ some p = some k) w w' from ⟨hc.os, hc.tape, hc.output, hc.size, fun i hi hn => hc.block i hi fun e => hn (.inr e)⟩) fun k _ e => .inl e
/-- A kept block turns. -/
theorem KS.turn {p : Nat} {o o' : Obj} (h : KS W0 w b H N ((p, o) :: K) [] S) (hg : w.grownBy w' (some p)) (hb : w'.heap[p]? = some o') (hne : ∀ r ∈ K, r.1 ≠ p) (hS : Frm S p) : KS W0 w' b H N ((p, o') :: K) [] S :=
  ⟨h.kx.put (K1 := []) rfl hg hb (by simpa using hne), fun _ hp => absurd hp (by simp), KS.farSx h.sx hg hS⟩
/-- A block that is not kept turns. -/
theorem KS.farS {p : Nat} (h : KS W0 w b H N K [] S) (hg : w.grownBy w' (some p)) (hW : W0.heap.size ≤ p) (hb : ¬ BF b H N.n p) (hK : ∀ q ∈ K, q.1 ≠ p) (hS : Frm S p) : KS W0 w' b H N K [] S :=
  ⟨((h.less (S' := []) (fun _ h => h) (fun _ h => h) (fun _ h => absurd h (by simp))).far hg fun q e => by injection e with e; subst e; exact ⟨hW, hb, hK⟩).kx, fun _ hp => absurd hp (by simp), KS.farSx h.sx hg hS⟩
/-- What is made now is none of these. -/
theorem KS.newer (h : KS W0 w b H N K R S) {p : Nat} (hp : w.heap.size ≤ p) : W0.heap.size ≤ p ∧ ¬ BF b H N.n p ∧ (∀ q ∈ K, q.1 ≠ p) ∧ Frm S p := by
  have := h.bp.bel.size
  refine ⟨by omega, fun e => by have := h.flt p e; omega, fun q hq e => by have := (Array.getElem?_eq_some_iff.1 (h.kx.kp q hq).1).1; omega, fun q hq h0 a ha e => ?_⟩
  obtain ⟨b', off, e2, hl, _⟩ := (h.sx q hq).2 h0
  rw [ha] at e2; injection e2 with e2; rw [e2] at e
  have e3 : b' = p := e
  omega
end
/-- All live disks have this record. -/
theorem DoG.get {N M : Bch} {D : Nat} {lv : List Bool} {fl : Nat → List (List UInt8)} {s : Int} {its : List It} (g : DoG N M D lv fl s its) (hn : N.n = D) (hf : ∀ j, j < D → (N.D j).f = false) (hs : 0 < s) (h1 : ∃ j, j < D ∧ lv.getD j false = true) : getS M lv = (s, its) := by
  have hM := g.st.n
  have hsv : ∀ j, j < D → liveD M.n lv (j : Int) = true → srvD N lv j = true := fun j hj h => by
    rw [liveD_nat, hM] at h
    simp only [Bool.and_eq_true, decide_eq_true_eq] at h
    exact srvD_mk (by omega) h.2 (hf j hj)
  refine get_max hs (fun j hj hl => ?_) ?_
  · rw [hM] at hj
    exact .inr (g.has j hj (hsv j hj hl))
  · obtain ⟨j, hj, hl⟩ := h1
    have hlv : liveD M.n lv (j : Int) = true := by rw [liveD_nat, hM, hl, decide_eq_true hj]; rfl
    exact ⟨j, by rw [hM]; exact hj, hlv, (g.has j hj (hsv j hj hlv)).1⟩
/-- An empty record, put. -/
theorem empty_get {N : Bch} {D : Nat} {lv : List Bool} {s : Int} (hg : GoodB N) (hn : N.n = D) (hD : D ≤ 8) (hf : ∀ j, j < D → (N.D j).f = false) (hs : 1 ≤ s ∧ s ≤ 2147483647) (h1 : ∃ j, j < D ∧ lv.getD j false = true) : (putS N lv s []).1 = 0 ∧ getS (putS N lv s []).2 lv = (s, []) := by
  have hok : recOk s [] = true := (recOk_iff _ _).2 ⟨⟨hs.1, hs.2, by simp⟩, (fineN_iff _ _).2 fun k hk => absurd hk (by simp)⟩
  obtain ⟨p0, pg⟩ := put_good (lv := lv) hg (by rw [hn]; exact hD) hok
  refine ⟨p0, get_max (by omega) (fun j hj hl => ?_) ?_⟩
  · rw [pg.n] at hj hl
    exact .inr (pg.put j hj hl (hf j (by omega)))
  · obtain ⟨j, hj, hl⟩ := h1
    have hlv : liveD N.n lv (j : Int) = true := by rw [liveD_nat, hn, hl, decide_eq_true hj]; rfl
    exact ⟨j, by rw [pg.n]; omega, by rw [pg.n]; exact hlv, (pg.put j (by omega) hlv (hf j hj)).1⟩
/-- Of a change at least one disk serves. -/
theorem upIts_pos {N : Bch} {D : Nat} {lv : List Bool} {nn l c : Int} {ρ F W k a : Nat} {xs : List (List UInt8)} (gr : Gr nn l c (ρ : Int) D F W) (hk : k < W) (h1 : cntB D (fun i => !srvD N lv i) ≤ 1) : 1 ≤ (upIts N lv a xs (ksL l D F W k)).length := by
  have hF := gr.hF; have hW := gr.hW; have hlv := gr.lv
  have a1 := roS_lt (D := D) (F := F) (k := k) hF (by omega)
  have a2 := roS_lt (D := D) (F := F) (k := W) hF (by omega)
  have n1 : roS D F k ≠ roS D F W := fun e => by have := roS_inj hF (by omega) (by omega) e; omega
  have key : ∃ i ∈ ksL l D F W k, srvD N lv i = true := by
    by_cases s1 : srvD N lv (roS D F k) = true
    · exact ⟨_, by unfold ksL; simp, s1⟩
    · by_cases s2 : srvD N lv (roS D F W) = true
      · exact ⟨_, by unfold ksL; simp, s2⟩
      · exfalso
        have h2 : [roS D F k, roS D F W].length ≤ cntB D (fun i => !srvD N lv i) := by
          unfold cntB
          refine len_le_map (f := id) (by simp [n1]) (fun a _ b _ e => e) fun i hi => ?_
          simp only [List.mem_cons, List.not_mem_nil, or_false] at hi
          refine List.mem_filter.2 ⟨List.mem_range.2 ?_, ?_⟩
          · rcases hi with rfl | rfl <;> assumption
          · rcases hi with rfl | rfl
            · simp [s1]
            · simp [s2]
        simp at h2; omega
  obtain ⟨i, hi, hs⟩ := key
  have := List.length_pos_of_mem (mem_upIts.2 ⟨i, hi, hs, rfl⟩ : _ ∈ upIts N lv a xs (ksL l D F W k))
  omega
theorem GoodB.pend {N : Bch} (h : GoodB N) : N.pend = 0 := by
  have key : ∀ n, n ≤ N.n → offs N.D n = 0 := fun n => by
    induction n with
    | zero => intro _; rfl
    | succ n ih =>
      intro hn
      show offs N.D n + (N.D n).ps.length = 0
      rw [ih (by omega), h.ps n (by omega)]; rfl
  exact key N.n (Nat.le_refl _)
end Go.Proofs.YtenkkdnepmoihaaGreatDoor
end
section
set_option linter.unusedVariables false
set_option linter.unusedSimpArgs false
namespace Go.Proofs.YtenkkdnepmoihaaGreatDoor

section
variable {N : Bch} {D : Nat} {lv : List Bool} {nn l c r : Int} {F W ρ k : Nat} {ds : Nat → List (List UInt8)} {x : List UInt8}
end
end Go.Proofs.YtenkkdnepmoihaaGreatDoor
end
section
set_option maxRecDepth 20000
set_option linter.unusedVariables false
set_option linter.unusedSimpArgs false
namespace Go.Proofs.YtenkkdnepmoihaaGreatDoor
open Go.RowKit

theorem gr531 : Gr 0 5 1 0 3 (roF 5 ((3 : Nat) : Int) 1 0) 2 := by
  have hok : plOk 5 ((3 : Nat) : Int) 1 0 = true := by decide
  have R := ro_of hok
  exact ⟨hok, R, rfl, rfl, rfl, R.hF, by omega, by omega, by omega, by omega, by omega, .inl ⟨rfl, rfl⟩, R.wd, by omega, by omega, by omega, by omega, by omega⟩
theorem new_arr : Arr (Bch.new 3) 3 [true, true, true] 5 1 2 (fun _ => List.replicate 2 (zeroL 32)) := by
  refine ⟨⟨rfl, goodB_new 3, fun i hi t ht _ => ?_⟩, ⟨fun _ => by simp, fun _ => rep_mem⟩⟩
  show secAt Dsk.new.now (36 + t) = _
  rw [new_now, sec_zero (by omega)]
  have g := gr531.at ht
  show _ = (fillL 3 (roF 5 ((3 : Nat) : Int) 1 (t : Int)) (List.replicate 2 (zeroL 32))).getD i []
  rw [zeros_fill g.hF (by omega) (by omega) hi]
  rfl
theorem wakes_plan {x : List UInt8} (hx : x.length = 32) : upE (Bch.new 3) [true, true, true] 5 3 1 3 x = 0 ∧ (upL (Bch.new 3) [true, true, true] 5 3 1 3 x).length = 2 ∧ fillOk 5 3 1 (plOfR 5 3 1 3) (upX (Bch.new 3) [true, true, true] 5 3 1 3 x) = true := by
  have hsv : ∀ i, i < 3 → srvD (Bch.new 3) [true, true, true] i = true := fun i hi => srvD_mk hi (match i, hi with
    | 0, _ => rfl
    | 1, _ => rfl
    | 2, _ => rfl) rfl
  have hc : ((cntB 3 (fun i => !srvD (Bch.new 3) [true, true, true] i) : Nat) : Int) ≤ 5 - 4 := by
    rw [cntB_none fun i hi => by rw [hsv i hi]; rfl]; decide
  have hr : (1 : Nat) < 16 := by omega
  have hE := new_arr.ok gr531 hr hc
  have e3 : plN 5 ((3 : Nat) : Int) 1 ((1 : Nat) : Int) ((1 : Nat) : Int) = 3 := by decide
  obtain ⟨h0, h1, _⟩ := up_at (k := 1) (gr531.at hr) (by omega) hx hE
  rw [e3] at h0 h1
  refine ⟨h0, ?_, new_arr.fok gr531 hx h0⟩
  show (upL (Bch.new 3) [true, true, true] 5 ((3 : Nat) : Int) 1 3 x).length = 2
  rw [h1]
  have hk := (ksL_facts (k := 1) (gr531.at hr) (by omega)).2.2.1
  unfold upIts
  rw [List.length_map, List.filter_eq_self.2 fun i hi => hsv i (hk i hi)]
  rfl
set_option maxRecDepth 100000 in
set_option maxHeartbeats 1600000 in
theorem wakesUpd_any (hu : UpdP) (W : World) : Calls Tryz.prog 21 #[] W fun e w' => e = .returned (.bool true) ∧ Below W.heap.size W w' := by
  have hpn := ptr_eq
  have CN := Lib.hid (bp_new 3 W W (Below.refl _ _) (by omega))
  have CSc := Lib.hid (fun V => sector_any 4 V (by omega))
  have hx := sectorB_len 4
  generalize sectorB 4 = x at CSc hx
  obtain ⟨p0, p1, p2⟩ := wakes_plan hx
  have P1 := Lib.hid (show upS (Bch.new 3) [true, true, true] 5 3 1 3 x 1 = 1 from if_neg (by rw [p0]; decide))
  have CP := fun (W w : World) (b : Nat) (H : BH) (h : BP W w b H (Bch.new 3)) (LA : Option Addr) (hr : RdOX (BF b H 3) w LA [true, true, true]) (XA : Option Addr) (hxr : RdB w w.heap.size XA x) => hu.plan W w b H (Bch.new 3) h [true, true, true] LA 3 3 rfl hr 5 3 1 3 ⟨by omega, by omega⟩ ⟨by omega, by omega⟩ ⟨by omega, by omega⟩ ⟨by omega, by omega⟩ XA 32 32 x hx (Nat.le_refl _) hxr 1 ⟨by omega, by omega⟩ (fun _ => p2)
  rw [p0, P1.out, p1] at CP
  have CP := Lib.hid CP
  clear hu p0 p1 p2
  go_enter Tryz.func21, Tryz.ntmps21
  go_wp2_with fail
  refine CN.out.mono ?_
  rintro e w1 ⟨b, H, rfl, hp, _, _⟩
  unfold ptr
  have kk : KS W w1 b H (Bch.new 3) [] [] [] := ⟨⟨hp, fun _ h => absurd h (by simp)⟩, fun _ h => absurd h (by simp), fun _ h => absurd h (by simp)⟩
  have K1 := Lib.hid (kk.add (.cells ([true, true, true].map Value.bool).toArray 4))
  clear kk hp CN
  go_wp2_with fail
  (with_reducible refine (CSc.out _).mono ?_); rintro e w2 ⟨gx, rfl, ho, hb2⟩
  have k2 := K1.out.slice hb2 ho.rdbf
  have CP2 := Lib.hid (CP.out W w2 b H k2.bp (some ⟨w1.heap.size, 0, none⟩) (k2.lv (g := w1.heap.size) (t := 4) (f := (0, 0)) (lv := [true, true, true]) (by simp) rfl (by simp)) (some ⟨gx, 0, none⟩) ho.rdS.1)
  have F2 := k2.bp.bel
  clear k2 ho hb2 CP K1
  go_wp2_with fail
  (with_reducible refine CP2.out.mono ?_); rintro e w3 ⟨A3, c3, rfl, _, _, hb3⟩
  have F3 := F2.trans (hb3.mono F2.size)
  clear hb3 CP2 F2
  go_wp2_with fail
  go_ret
  exact ⟨rfl, F3.alloc F3.size _⟩
end Go.Proofs.YtenkkdnepmoihaaGreatDoor
end
