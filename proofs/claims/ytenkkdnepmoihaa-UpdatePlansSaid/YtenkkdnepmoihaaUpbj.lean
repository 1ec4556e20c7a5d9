/- Texts put together: UpdKit, RefTake, UpdWakes, UpdWnt. -/
import Derived.Test.YtenkkdnepmoihaaUpbg
import Derived.Test.YtenkkdnepmoihaaUpbf
import Derived.Test.YtenkkdnepmoihaaUpas
import Derived.Test.YtenkkdnepmoihaaUpar
import Derived.Test.YtenkkdnepmoihaaUpam
import Derived.Test.YtenkkdnepmoihaaUpau
import Derived.Test.YtenkkdnepmoihaaUpbe
import Derived.Test.YtenkkdnepmoihaaUpbh
import Derived.Test.YtenkkdnepmoihaaUpaj
section
set_option maxRecDepth 20000
set_option linter.unusedVariables false
set_option linter.unusedSimpArgs false
namespace Go.Proofs.Ytenkkdnepmoihaa
open Go.RowKit

section
variable {W w w' : World} {b : Nat} {H : BH} {N : Bch} {K : List (Nat × Obj)} {R : List (Option Addr × List (List UInt8))} {S : List (Option Addr × List UInt8)}
end
end Go.Proofs.Ytenkkdnepmoihaa
end
section
set_option maxRecDepth 20000
set_option linter.unusedVariables false
set_option linter.unusedSimpArgs false
namespace Go.Proofs.Ytenkkdnepmoihaa
open Go.RowKit

theorem wpList_append_rowA {w : World} {ops : Array Oper} {rest : List Oper} {o : Oper} {a : Act} {Q : Exit → Act → World → Prop} (hw : Region.wanted o (yielded ops a.tmps) = true) (s x : Operand) (t : TypeId)
    (ho : o.op = .call { callee := .builtin .append, args := #[s, x], argTypes := #[t, t] }) (ht : Try.prog.underlying t = some (.slice 32)) (lo : Nat) (v : Value) (rs : List (List UInt8)) (hs : a.eval s = v) (hown : OwV lo w v rs) (g : Nat) (t' : TypeId) (f' : Nat × Nat) (A : Option Addr) (c : Nat) (y : List UInt8)
    (hx : a.eval x = .slice (some ⟨g, 0, none⟩) 1 1) (hg : w.heap[g]? = some (.cells #[.slice A y.length c] t' f')) (hy : RdBF lo w A y) (hne : 0 < y.length → ∀ a, A = some a → some a.block ≠ v.ownBlock) (hn : rs.length ≤ 1000000) (hlo : lo ≤ w.heap.size)
    (h : ∀ v' w', OwV lo w' v' (rs ++ [y]) → w.grownBy w' v.ownBlock → (v'.ownBlock = v.ownBlock ∨ v'.ownBlock = some w.heap.size) → wpList Try.prog ops Q rest (a.put o.dst v') w') : wpList Try.prog ops Q (o :: rest) a w := by
  obtain ⟨xs, h1, h2⟩ := hown
  have hgl := (Array.getElem?_eq_some_iff.1 hg).1
  refine wpList_append_V hw s x t ho lo 32 (.slice none 0 0) 24 ht info_row2 rfl v rs.length xs hs h1 w.heap.size (some ⟨g, 0, none⟩) 1 1 [.slice A y.length c] hx rfl (fun _ => ⟨g, 0, rfl, by omega, fun j hj => by obtain rfl : j = 0 := (by simp at hj; omega); exact cell_of_row _ _ _ _ _ _ hg⟩) (fun u hu => by simp at hu; subst hu; rfl) (by unfold maxLen; omega) (by omega) hlo fun v' w' o' g' at' => ?_
  exact h v' w' ⟨_, by rw [List.length_append]; exact o', (h2.snoc (c := c) hy hne).grown g' at'⟩ g' at'
/-- What of a row there is, as Solve is asked. -/
theorem take_math {nn l c r : Int} {D F W : Nat} (gr : Gr nn l c r D F W) {xs rs : List (List UInt8)} (hl : xs.length = D) (hrs : rs.length = W) (h32 : ∀ x ∈ rs, x.length = 32) (hx : ∀ i, i < D → (xs.getD i []).length = 0 ∨ xs.getD i [] = (fillL D F rs).getD i []) :
    Lacks 32 rs (dataL l (D : Int) c r xs) ∧ ((parL l (D : Int) c r xs).length = 0 ∨ parL l (D : Int) c r xs = pB rs) ∧ ((parQ l (D : Int) c r xs).length = 0 ∨ parQ l (D : Int) c r xs = qB rs) ∧
    (((cntB D (emptyB xs) : Nat) : Int) - (l - 4) = ((missB (dataL l (D : Int) c r xs)).length : Int) - (thereB (parL l (D : Int) c r xs) (parQ l (D : Int) c r xs) : Nat)) := by
  have hw1 := gr.w1; have hw7 := gr.w7; have hW := gr.hW; have hlv := gr.lv
  have at_ : ∀ k, k < D → (xs.getD (roS D F k) []).length = 0 ∨ xs.getD (roS D F k) [] = (allL rs).getD k [] := fun k hk => by
    have := hx _ (roS_lt gr.hF hk)
    rwa [fillL_at gr.hF hk] at this
  refine ⟨⟨by omega, h32, by rw [dataL_len, gr.eW, hrs], fun k hk => ?_⟩, ?_, ?_, ?_⟩
  · rw [dataL_get (by rw [gr.eW]; omega), gr.eD, gr.eF, ← allL_data hk]; exact at_ k (by omega)
  · have := at_ W (by omega)
    unfold parL
    rw [gr.eD, gr.eF, gr.eW]
    rw [← hrs, allL_p, hrs] at this
    exact this
  · unfold parQ
    split
    · next h6 =>
      have := at_ (W + 1) (by omega)
      rw [gr.eD, gr.eF, gr.eW]
      rw [← hrs, allL_q, hrs] at this
      exact this
    · exact .inl rfl
  · have hc2 := all_cnt gr.R xs
    rw [gr.eD] at hc2
    unfold thereB
    rcases hlv with ⟨h5, h2⟩ | ⟨h6, h2⟩
    · have hq : (parQ l (D : Int) c r xs).length = 0 := by unfold parQ; rw [if_neg (by omega)]; rfl
      rw [if_neg (show ¬ (l = 6 ∧ (parQ l (D : Int) c r xs).length = 0) from fun e => by omega)] at hc2
      rw [if_pos hq]
      split at hc2 <;> split <;> omega
    · split at hc2 <;> split at hc2 <;> split <;> split <;> omega
set_option maxHeartbeats 1600000 in
theorem refTake_yes {nn l c r : Int} {D F W : Nat} (gr : Gr nn l c r D F W) (A : Option Addr) (xs rs : List (List UInt8)) (cp : Nat) (w : World) (hl : xs.length = D) (hrd : RdR w w.heap.size A xs) (hrs : rs.length = W) (h32 : ∀ x ∈ rs, x.length = 32) (hx : ∀ i, i < D → (xs.getD i []).length = 0 ∨ xs.getD i [] = (fillL D F rs).getD i []) (hc : ((cntB D (emptyB xs) : Nat) : Int) ≤ l - 4) :
    Calls Try.prog 15 #[.agg #[.int .i64 l, .int .i64 (D : Int), .int .i64 c], .int .i64 r, .slice A D cp] w (TakeYes w W rs) := by
  have G := gat_new w l (D : Int) c 24 (0, 0)
  obtain ⟨hLk, hpB, hqB, hM⟩ := take_math gr hl hrs h32 hx
  have HLk := Lib.hid hLk
  have HpB := Lib.hid hpB
  have HqB := Lib.hid hqB
  have HM := Lib.hid (show (missB (dataL l (D : Int) c r xs)).length ≤ thereB (parL l (D : Int) c r xs) (parQ l (D : Int) c r xs) by have := hM; omega)
  have CF := Lib.hid (fun V => refFine_yes l (D : Int) c r V (Lib.hid gr.ok) gr.l64 gr.d64 gr.c64 gr.r64)
  have CW := Lib.hid (fun V => (show Calls Try.prog 24 #[.agg #[.int .i64 l, .int .i64 (D : Int), .int .i64 c]] V _ from refWidth_any l (D : Int) c V gr.l64 gr.d64 gr.c64))
  rw [gr.wd] at CW
  have CP := fun V => refParity_any l (D : Int) c r V gr.l64 gr.d64 gr.c64 gr.r64
  rw [gr.R.pP, gr.R.pQ, gr.eD, gr.eF, gr.eW] at CP
  obtain ⟨qv, hqv⟩ : ∃ qv, (if l = 6 then ((roS D F (W + 1) : Nat) : Int) else -1) = qv := ⟨_, rfl⟩
  rw [hqv] at CP
  replace CP := Lib.hid CP
  have CD : Hid (∀ (k : Nat) V, k < W → Calls Try.prog 33 #[.agg #[.int .i64 l, .int .i64 (D : Int), .int .i64 c], .int .i64 r, .int .i64 (k : Int)] V fun e w' => e = .returned (.int .i64 ((roS D F k : Nat) : Int)) ∧ Below V.heap.size V w') :=
    Lib.hid fun k V hk => by
      have hw7 := gr.w7
      have := refDisk_any l (D : Int) c r (k : Int) V gr.l64 gr.d64 gr.c64 gr.r64 (by omega)
      have e := gr.R.pD k (by rw [gr.eW]; exact hk)
      rw [gr.eD, gr.eF] at e
      rwa [e] at this
  have hw1 := gr.w1; have hw7 := gr.w7; have hd8 := gr.d8; have hWD := gr.hW; have hFD := gr.hF; have hlv := gr.lv
  have h0 : 0 < rs.length := by omega
  have HLn := Lib.hid (show (dataL l (D : Int) c r xs).length = W by rw [dataL_len, gr.eW])
  have HDg := Lib.hid (fun k (hk : k < W) => show (dataL l (D : Int) c r xs).getD k [] = xs.getD (roS D F k) [] by rw [dataL_get (by rw [gr.eW]; exact hk), gr.eD, gr.eF])
  have HPg := Lib.hid (show parL l (D : Int) c r xs = xs.getD (roS D F W) [] by unfold parL; rw [gr.eD, gr.eF, gr.eW])
  have Hq := Lib.hid (show (qv = -1 ∧ parQ l (D : Int) c r xs = []) ∨ (qv = ((roS D F (W + 1) : Nat) : Int) ∧ D = W + 2 ∧ parQ l (D : Int) c r xs = xs.getD (roS D F (W + 1)) []) by
    rcases hlv with ⟨h5, h2⟩ | ⟨h6, h2⟩
    · exact .inl ⟨by rw [← hqv, if_neg (by omega)], by unfold parQ; rw [if_neg (by omega)]⟩
    · exact .inr ⟨by rw [← hqv, if_pos h6], h2, by unfold parQ; rw [if_pos h6, gr.eD, gr.eF, gr.eW]⟩)
  clear hqv
  have Hlt := Lib.hid (fun k (hk : k < D) => @roS_lt D F k hFD hk)
  have Hr := Lib.hid hrd
  have Hl := Lib.hid hl
  generalize dataL l (D : Int) c r xs = D1 at HLk HM HLn HDg
  generalize parL l (D : Int) c r xs = P1 at HpB HM HPg
  generalize parQ l (D : Int) c r xs = Q1 at HqB HM Hq
  clear hLk hpB hqB hM hx hc h32 hl hrd gr hlv
  go_enter Try.func15, Try.ntmps15
  obtain ⟨g1, g2, g3⟩ := G
  go_wp2_with fail
  (with_reducible refine (CF.out _).mono ?_); rintro e w1 ⟨rfl, hb⟩
  have F1 := Lib.hid ((below1 w (.cells #[.int .i64 l, .int .i64 (D : Int), .int .i64 c] 24)).trans (hb.mono (by simp)))
  have G1 := GAt.below ⟨g1, g2, g3⟩ hb (by simp)
  have gs1 : w.heap.size < w1.heap.size := by have := hb.size; simp at this; omega
  clear hb g1 g2 g3
  obtain ⟨g1, g2, g3⟩ := G1
  have e1 : ((D : Int) != (D : Int)) = false := bne_self_eq_false _
  go_wp2_with fail
  go_loopw [8, 9] (fun o i wr => ∃ k : Nat, k ≤ W ∧ i = .int .i64 k ∧ OwV 0 wr o (D1.take k) ∧ (∀ j, o.ownBlock = some j → w.heap.size < j) ∧ GAt wr w.heap.size l (D : Int) c ∧ Below w.heap.size w wr ∧ w.heap.size < wr.heap.size) (fun _ i _ => W - (intOf i).toNat)
  case atStart => exact ⟨0, Nat.zero_le _, rfl, OwV.nil _ _, fun j hj => (by cases hj), ⟨g1, g2, g3⟩, F1.out, gs1⟩
  case round =>
    clear g1 g2 g3
    obtain ⟨k, hk, rfl, hown, hob, G4, F4, gs4⟩ := hrel
    obtain ⟨g1, g2, g3⟩ := G4
    have HF4 := Lib.hid F4
    have Hob := Lib.hid hob
    have Hown := Lib.hid hown
    clear hob hown F4
    go_wp2_with fail
    (with_reducible refine (CW.out _).mono ?_); rintro e w2 ⟨rfl, hb2⟩
    have F5 := Lib.hid (HF4.out.trans (hb2.mono HF4.out.size))
    have G5 := GAt.below ⟨g1, g2, g3⟩ hb2 gs4
    have gs5 : w.heap.size < w2.heap.size := by have := hb2.size; omega
    have Hown5 := Lib.hid (Hown.out.below hb2)
    clear hb2 g1 g2 g3 Hown HF4
    obtain ⟨g1, g2, g3⟩ := G5
    by_cases hlt : k < W
    · have i0 : (0 : Int) ≤ (k : Int) := by omega
      have i1 : (k : Int) < (W : Int) := by omega
      have hj := Hlt.out k (by omega)
      obtain ⟨b, off, rfl, hbb, hcc⟩ := Hr.out.2 (by have := Hl.out; omega)
      obtain ⟨A', c', h1, h2⟩ := hcc (roS D F k) (by have := Hl.out; omega)
      have Hs := Lib.hid (show D1.take (k + 1) = D1.take k ++ [xs.getD (roS D F k) []] by
        have := HDg.out k hlt
        rw [List.take_succ_eq_append_getElem (by have := HLn.out; omega), ← this]
        simp [HLn.out, hlt])
      have CD1 := Lib.hid (fun V => CD.out k V hlt)
      generalize xs.getD (roS D F k) [] = row at h1 h2 Hs
      generalize roS D F k = j at hj CD1 h1
      have H2 := Lib.hid h2
      have H1 := Lib.hid h1
      clear hcc h2 h1
      have j0 : (0 : Int) ≤ (j : Int) := by omega
      have j1 : (j : Int) < (D : Int) := by omega
      go_wp2_with fail
      (with_reducible refine (CD1.out _).mono ?_); rintro e w3 ⟨rfl, hb3⟩
      have F6 := Lib.hid (F5.out.trans (hb3.mono F5.out.size))
      have G6 := GAt.below ⟨g1, g2, g3⟩ hb3 gs5
      have hown6 := Hown5.out.below hb3
      have gs6 : w.heap.size < w3.heap.size := by have := hb3.size; omega
      have h1 := (F6.out.cell (p := ⟨b, off + j, none⟩) hbb).trans H1.out
      have hrow := H2.out.below F6.out (Nat.le_refl _)
      have FA := Lib.hid (F6.out.alloc F6.out.size (.cells #[.slice A' row.length c'] 32))
      have hb1 := below1 w3 (.cells #[.slice A' row.length c'] 32)
      have GA := GAt.below G6 hb1 gs6
      have hyA := (((H2.out.below FA.out (Nat.le_refl _)).more FA.out.size)).rdbf0
      have hne : 0 < row.length → ∀ a, A' = some a → some a.block ≠ u8.ownBlock := fun h0 a ha e => absurd rfl (hrow.notin (Nat.le_of_lt (Hob.out _ e.symm)) h0 a ha)
      have hln : (D1.take k).length ≤ 1000000 := by rw [List.length_take, HLn.out]; omega
      clear g1 g2 g3 CP CW CD HDg HPg Hq Hlt HLk HM HpB HqB hb3 H1 H2 Hown5 F5 G6
      go_wp2_with (at_builtin; refine wpList_append_rowA rfl _ _ _ rfl Try.underlying43 0 _ (D1.take k) rfl (hown6.below hb1) w3.heap.size _ _ A' c' row rfl (hp_new _ _ _ rfl) hyA hne hln (Nat.zero_le _) fun v9 w9 o9 gr9 at9 => ?_)
      have hob9 : ∀ j, v9.ownBlock = some j → w.heap.size < j := fun j hj => by
        rcases at9 with q | q
        · rw [q] at hj; exact Hob.out j hj
        · rw [q] at hj
          have e3 := Option.some.inj hj
          have := FA.out.size
          simp at e3; omega
      have F9 := Lib.hid (FA.out.grown gr9 FA.out.size (fun j hj => Nat.le_of_lt (Hob.out j hj)))
      have G9 := Lib.hid (GA.grown gr9 (by simp; omega) (fun e => by have := Hob.out _ e; omega))
      have gs9 : w.heap.size < w9.heap.size := by have := gr9.size; simp at this; omega
      have O9 := Lib.hid (show OwV 0 w9 v9 (D1.take (k + 1)) by rw [Hs.out]; exact o9)
      clear o9 gr9 at9 hown6 GA hyA hne FA hrow h1
      go_wp2
      go_roundw
      case rel => exact ⟨k + 1, by omega, by go_num, O9.out, hob9, G9.out, F9.out, gs9⟩
      case measure => simp [intOf]; omega
    · have i1 : ¬ (k : Int) < (W : Int) := by omega
      have hkW : k = W := by omega
      have hD1 : D1.take k = D1 := List.take_of_length_le (by rw [HLn.out]; omega)
      have hown := Hown5.out
      rw [hD1] at hown
      obtain ⟨A8, c8, rfl, _, hrr0⟩ := hown.rd (by rw [HLn.out]; omega)
      rw [HLn.out]
      have Hrr0 := Lib.hid hrr0
      clear hown hrr0 Hown5 Hob hD1 hkW
      go_wp2_with fail
      (with_reducible refine (CP.out _).mono ?_); rintro e w3 ⟨rfl, hb3⟩
      have F6 := Lib.hid (F5.out.trans (hb3.mono F5.out.size))
      have hrr := (Hrr0.out.below hb3 (Nat.le_refl _)).more hb3.size
      obtain ⟨b, off, rfl, hbb, hcc⟩ := Hr.out.2 (by have := Hl.out; omega)
      have jp := Hlt.out W hWD
      obtain ⟨Ap, c1, p1, p2⟩ := hcc (roS D F W) (by have := Hl.out; omega)
      rw [← F6.out.cell (p := ⟨b, off + roS D F W, none⟩) hbb, ← HPg.out] at p1
      rw [← HPg.out] at p2
      have hp1 := (p2.below F6.out (Nat.le_refl _)).more F6.out.size
      have p0 : (0 : Int) ≤ ((roS D F W : Nat) : Int) := by omega
      have pD : ((roS D F W : Nat) : Int) < (D : Int) := by omega
      rcases Hq.out with ⟨rfl, rfl⟩ | ⟨rfl, hD2, hQ⟩
      · generalize roS D F W = jw at *
        have QR := RdB.nil w3 w3.heap.size none
        clear Hq HPg hcc CP CW CD HDg Hlt p2 g1 g2 g3 F5 hb3
        go_wp2_with fail
        have CS := refSolve_yes Ap none A8 c1 0 c8 W w3 HLk.out h0 (by omega) HLn.out HpB.out HqB.out hp1 QR hrr HM.out
        rw [show ([] : List UInt8).length = 0 from rfl] at CS
        (with_reducible refine CS.mono ?_)
        rintro e w7 ⟨g7, bk, rfl, hR, hb7⟩
        have F7 := Lib.hid (F6.out.trans (hb7.mono F6.out.size))
        have HR7 := Lib.hid (hR.le F6.out.size)
        clear hb7 hR hp1 hrr
        go_wp2
        go_ret2
        exact ⟨g7, bk, rfl, HR7.out, F7.out⟩
      · have jq := Hlt.out (W + 1) (by omega)
        obtain ⟨Aq, c2, q1, q2⟩ := hcc (roS D F (W + 1)) (by have := Hl.out; omega)
        rw [← F6.out.cell (p := ⟨b, off + roS D F (W + 1), none⟩) hbb, ← hQ] at q1
        rw [← hQ] at q2
        have QR := (q2.below F6.out (Nat.le_refl _)).more F6.out.size
        have q0 : (0 : Int) ≤ ((roS D F (W + 1) : Nat) : Int) := by omega
        have qD : ((roS D F (W + 1) : Nat) : Int) < (D : Int) := by omega
        clear Hq HPg hcc CP CW CD HDg Hlt p2 q2 g1 g2 g3 F5 hb3 hQ hD2
        generalize roS D F W = jw at *
        generalize roS D F (W + 1) = jr at *
        go_wp2_with fail
        have CS := refSolve_yes Ap Aq A8 c1 c2 c8 W w3 HLk.out h0 (by omega) HLn.out HpB.out HqB.out hp1 QR hrr HM.out
        skip
        (with_reducible refine CS.mono ?_)
        rintro e w7 ⟨g7, bk, rfl, hR, hb7⟩
        have F7 := Lib.hid (F6.out.trans (hb7.mono F6.out.size))
        have HR7 := Lib.hid (hR.le F6.out.size)
        clear hb7 hR hp1 hrr
        go_wp2
        go_ret2
        exact ⟨g7, bk, rfl, HR7.out, F7.out⟩
set_option maxHeartbeats 1600000 in
theorem refTake_no {nn l c r : Int} {D F W : Nat} (gr : Gr nn l c r D F W) (A : Option Addr) (xs rs : List (List UInt8)) (cp : Nat) (w : World) (hl : xs.length = D) (hrd : RdR w w.heap.size A xs) (hrs : rs.length = W) (h32 : ∀ x ∈ rs, x.length = 32) (hx : ∀ i, i < D → (xs.getD i []).length = 0 ∨ xs.getD i [] = (fillL D F rs).getD i []) (hc : ((cntB D (emptyB xs) : Nat) : Int) > l - 4) :
    Calls Try.prog 15 #[.agg #[.int .i64 l, .int .i64 (D : Int), .int .i64 c], .int .i64 r, .slice A D cp] w (TakeNo w) := by
  have G := gat_new w l (D : Int) c 24 (0, 0)
  obtain ⟨hLk, hpB, hqB, hM⟩ := take_math gr hl hrs h32 hx
  have HLk := Lib.hid hLk
  have HpB := Lib.hid hpB
  have HqB := Lib.hid hqB
  have HM := Lib.hid (show (missB (dataL l (D : Int) c r xs)).length > thereB (parL l (D : Int) c r xs) (parQ l (D : Int) c r xs) by have := hM; omega)
  have CF := Lib.hid (fun V => refFine_yes l (D : Int) c r V (Lib.hid gr.ok) gr.l64 gr.d64 gr.c64 gr.r64)
  have CW := Lib.hid (fun V => (show Calls Try.prog 24 #[.agg #[.int .i64 l, .int .i64 (D : Int), .int .i64 c]] V _ from refWidth_any l (D : Int) c V gr.l64 gr.d64 gr.c64))
  rw [gr.wd] at CW
  have CP := fun V => refParity_any l (D : Int) c r V gr.l64 gr.d64 gr.c64 gr.r64
  rw [gr.R.pP, gr.R.pQ, gr.eD, gr.eF, gr.eW] at CP
  obtain ⟨qv, hqv⟩ : ∃ qv, (if l = 6 then ((roS D F (W + 1) : Nat) : Int) else -1) = qv := ⟨_, rfl⟩
  rw [hqv] at CP
  replace CP := Lib.hid CP
  have CD : Hid (∀ (k : Nat) V, k < W → Calls Try.prog 33 #[.agg #[.int .i64 l, .int .i64 (D : Int), .int .i64 c], .int .i64 r, .int .i64 (k : Int)] V fun e w' => e = .returned (.int .i64 ((roS D F k : Nat) : Int)) ∧ Below V.heap.size V w') :=
    Lib.hid fun k V hk => by
      have hw7 := gr.w7
      have := refDisk_any l (D : Int) c r (k : Int) V gr.l64 gr.d64 gr.c64 gr.r64 (by omega)
      have e := gr.R.pD k (by rw [gr.eW]; exact hk)
      rw [gr.eD, gr.eF] at e
      rwa [e] at this
  have hw1 := gr.w1; have hw7 := gr.w7; have hd8 := gr.d8; have hWD := gr.hW; have hFD := gr.hF; have hlv := gr.lv
  have h0 : 0 < rs.length := by omega
  have HLn := Lib.hid (show (dataL l (D : Int) c r xs).length = W by rw [dataL_len, gr.eW])
  have HDg := Lib.hid (fun k (hk : k < W) => show (dataL l (D : Int) c r xs).getD k [] = xs.getD (roS D F k) [] by rw [dataL_get (by rw [gr.eW]; exact hk), gr.eD, gr.eF])
  have HPg := Lib.hid (show parL l (D : Int) c r xs = xs.getD (roS D F W) [] by unfold parL; rw [gr.eD, gr.eF, gr.eW])
  have Hq := Lib.hid (show (qv = -1 ∧ parQ l (D : Int) c r xs = []) ∨ (qv = ((roS D F (W + 1) : Nat) : Int) ∧ D = W + 2 ∧ parQ l (D : Int) c r xs = xs.getD (roS D F (W + 1)) []) by
    rcases hlv with ⟨h5, h2⟩ | ⟨h6, h2⟩
    · exact .inl ⟨by rw [← hqv, if_neg (by omega)], by unfold parQ; rw [if_neg (by omega)]⟩
    · exact .inr ⟨by rw [← hqv, if_pos h6], h2, by unfold parQ; rw [if_pos h6, gr.eD, gr.eF, gr.eW]⟩)
  clear hqv
  have Hlt := Lib.hid (fun k (hk : k < D) => @roS_lt D F k hFD hk)
  have Hr := Lib.hid hrd
  have Hl := Lib.hid hl
  generalize dataL l (D : Int) c r xs = D1 at HLk HM HLn HDg
  generalize parL l (D : Int) c r xs = P1 at HpB HM HPg
  generalize parQ l (D : Int) c r xs = Q1 at HqB HM Hq
  clear hLk hpB hqB hM hx hc h32 hl hrd gr hlv
  go_enter Try.func15, Try.ntmps15
  obtain ⟨g1, g2, g3⟩ := G
  go_wp2_with fail
  (with_reducible refine (CF.out _).mono ?_); rintro e w1 ⟨rfl, hb⟩
  have F1 := Lib.hid ((below1 w (.cells #[.int .i64 l, .int .i64 (D : Int), .int .i64 c] 24)).trans (hb.mono (by simp)))
  have G1 := GAt.below ⟨g1, g2, g3⟩ hb (by simp)
  have gs1 : w.heap.size < w1.heap.size := by have := hb.size; simp at this; omega
  clear hb g1 g2 g3
  obtain ⟨g1, g2, g3⟩ := G1
  have e1 : ((D : Int) != (D : Int)) = false := bne_self_eq_false _
  go_wp2_with fail
  go_loopw [8, 9] (fun o i wr => ∃ k : Nat, k ≤ W ∧ i = .int .i64 k ∧ OwV 0 wr o (D1.take k) ∧ (∀ j, o.ownBlock = some j → w.heap.size < j) ∧ GAt wr w.heap.size l (D : Int) c ∧ Below w.heap.size w wr ∧ w.heap.size < wr.heap.size) (fun _ i _ => W - (intOf i).toNat)
  case atStart => exact ⟨0, Nat.zero_le _, rfl, OwV.nil _ _, fun j hj => (by cases hj), ⟨g1, g2, g3⟩, F1.out, gs1⟩
  case round =>
    clear g1 g2 g3
    obtain ⟨k, hk, rfl, hown, hob, G4, F4, gs4⟩ := hrel
    obtain ⟨g1, g2, g3⟩ := G4
    have HF4 := Lib.hid F4
    have Hob := Lib.hid hob
    have Hown := Lib.hid hown
    clear hob hown F4
    go_wp2_with fail
    (with_reducible refine (CW.out _).mono ?_); rintro e w2 ⟨rfl, hb2⟩
    have F5 := Lib.hid (HF4.out.trans (hb2.mono HF4.out.size))
    have G5 := GAt.below ⟨g1, g2, g3⟩ hb2 gs4
    have gs5 : w.heap.size < w2.heap.size := by have := hb2.size; omega
    have Hown5 := Lib.hid (Hown.out.below hb2)
    clear hb2 g1 g2 g3 Hown HF4
    obtain ⟨g1, g2, g3⟩ := G5
    by_cases hlt : k < W
    · have i0 : (0 : Int) ≤ (k : Int) := by omega
      have i1 : (k : Int) < (W : Int) := by omega
      have hj := Hlt.out k (by omega)
      obtain ⟨b, off, rfl, hbb, hcc⟩ := Hr.out.2 (by have := Hl.out; omega)
      obtain ⟨A', c', h1, h2⟩ := hcc (roS D F k) (by have := Hl.out; omega)
      have Hs := Lib.hid (show D1.take (k + 1) = D1.take k ++ [xs.getD (roS D F k) []] by
        have := HDg.out k hlt
        rw [List.take_succ_eq_append_getElem (by have := HLn.out; omega), ← this]
        simp [HLn.out, hlt])
      have CD1 := Lib.hid (fun V => CD.out k V hlt)
      generalize xs.getD (roS D F k) [] = row at h1 h2 Hs
      generalize roS D F k = j at hj CD1 h1
      have H2 := Lib.hid h2
      have H1 := Lib.hid h1
      clear hcc h2 h1
      have j0 : (0 : Int) ≤ (j : Int) := by omega
      have j1 : (j : Int) < (D : Int) := by omega
      go_wp2_with fail
      (with_reducible refine (CD1.out _).mono ?_); rintro e w3 ⟨rfl, hb3⟩
      have F6 := Lib.hid (F5.out.trans (hb3.mono F5.out.size))
      have G6 := GAt.below ⟨g1, g2, g3⟩ hb3 gs5
      have hown6 := Hown5.out.below hb3
      have gs6 : w.heap.size < w3.heap.size := by have := hb3.size; omega
      have h1 := (F6.out.cell (p := ⟨b, off + j, none⟩) hbb).trans H1.out
      have hrow := H2.out.below F6.out (Nat.le_refl _)
      have FA := Lib.hid (F6.out.alloc F6.out.size (.cells #[.slice A' row.length c'] 32))
      have hb1 := below1 w3 (.cells #[.slice A' row.length c'] 32)
      have GA := GAt.below G6 hb1 gs6
      have hyA := (((H2.out.below FA.out (Nat.le_refl _)).more FA.out.size)).rdbf0
      have hne : 0 < row.length → ∀ a, A' = some a → some a.block ≠ u8.ownBlock := fun h0 a ha e => absurd rfl (hrow.notin (Nat.le_of_lt (Hob.out _ e.symm)) h0 a ha)
      have hln : (D1.take k).length ≤ 1000000 := by rw [List.length_take, HLn.out]; omega
      clear g1 g2 g3 CP CW CD HDg HPg Hq Hlt HLk HM HpB HqB hb3 H1 H2 Hown5 F5 G6
      go_wp2_with (at_builtin; refine wpList_append_rowA rfl _ _ _ rfl Try.underlying43 0 _ (D1.take k) rfl (hown6.below hb1) w3.heap.size _ _ A' c' row rfl (hp_new _ _ _ rfl) hyA hne hln (Nat.zero_le _) fun v9 w9 o9 gr9 at9 => ?_)
      have hob9 : ∀ j, v9.ownBlock = some j → w.heap.size < j := fun j hj => by
        rcases at9 with q | q
        · rw [q] at hj; exact Hob.out j hj
        · rw [q] at hj
          have e3 := Option.some.inj hj
          have := FA.out.size
          simp at e3; omega
      have F9 := Lib.hid (FA.out.grown gr9 FA.out.size (fun j hj => Nat.le_of_lt (Hob.out j hj)))
      have G9 := Lib.hid (GA.grown gr9 (by simp; omega) (fun e => by have := Hob.out _ e; omega))
      have gs9 : w.heap.size < w9.heap.size := by have := gr9.size; simp at this; omega
      have O9 := Lib.hid (show OwV 0 w9 v9 (D1.take (k + 1)) by rw [Hs.out]; exact o9)
      clear o9 gr9 at9 hown6 GA hyA hne FA hrow h1
      go_wp2
      go_roundw
      case rel => exact ⟨k + 1, by omega, by go_num, O9.out, hob9, G9.out, F9.out, gs9⟩
      case measure => simp [intOf]; omega
    · have i1 : ¬ (k : Int) < (W : Int) := by omega
      have hkW : k = W := by omega
      have hD1 : D1.take k = D1 := List.take_of_length_le (by rw [HLn.out]; omega)
      have hown := Hown5.out
      rw [hD1] at hown
      obtain ⟨A8, c8, rfl, _, hrr0⟩ := hown.rd (by rw [HLn.out]; omega)
      rw [HLn.out]
      have Hrr0 := Lib.hid hrr0
      clear hown hrr0 Hown5 Hob hD1 hkW
      go_wp2_with fail
      (with_reducible refine (CP.out _).mono ?_); rintro e w3 ⟨rfl, hb3⟩
      have F6 := Lib.hid (F5.out.trans (hb3.mono F5.out.size))
      have hrr := (Hrr0.out.below hb3 (Nat.le_refl _)).more hb3.size
      obtain ⟨b, off, rfl, hbb, hcc⟩ := Hr.out.2 (by have := Hl.out; omega)
      have jp := Hlt.out W hWD
      obtain ⟨Ap, c1, p1, p2⟩ := hcc (roS D F W) (by have := Hl.out; omega)
      rw [← F6.out.cell (p := ⟨b, off + roS D F W, none⟩) hbb, ← HPg.out] at p1
      rw [← HPg.out] at p2
      have hp1 := (p2.below F6.out (Nat.le_refl _)).more F6.out.size
      have p0 : (0 : Int) ≤ ((roS D F W : Nat) : Int) := by omega
      have pD : ((roS D F W : Nat) : Int) < (D : Int) := by omega
      rcases Hq.out with ⟨rfl, rfl⟩ | ⟨rfl, hD2, hQ⟩
      · generalize roS D F W = jw at *
        have QR := RdB.nil w3 w3.heap.size none
        clear Hq HPg hcc CP CW CD HDg Hlt p2 g1 g2 g3 F5 hb3
        go_wp2_with fail
        have CS := refSolve_no Ap none A8 c1 0 c8 W w3 HLk.out h0 (by omega) HLn.out HpB.out HqB.out hp1 QR hrr HM.out
        rw [show ([] : List UInt8).length = 0 from rfl] at CS
        (with_reducible refine CS.mono ?_)
        rintro e w7 ⟨rfl, hb7⟩
        have F7 := Lib.hid (F6.out.trans (hb7.mono F6.out.size))
        have HR7 := Lib.hid True.intro
        clear hb7  hp1 hrr
        go_wp2
        go_ret2
        exact ⟨rfl, F7.out⟩
      · have jq := Hlt.out (W + 1) (by omega)
        obtain ⟨Aq, c2, q1, q2⟩ := hcc (roS D F (W + 1)) (by have := Hl.out; omega)
        rw [← F6.out.cell (p := ⟨b, off + roS D F (W + 1), none⟩) hbb, ← hQ] at q1
        rw [← hQ] at q2
        have QR := (q2.below F6.out (Nat.le_refl _)).more F6.out.size
        have q0 : (0 : Int) ≤ ((roS D F (W + 1) : Nat) : Int) := by omega
        have qD : ((roS D F (W + 1) : Nat) : Int) < (D : Int) := by omega
        clear Hq HPg hcc CP CW CD HDg Hlt p2 q2 g1 g2 g3 F5 hb3 hQ hD2
        generalize roS D F W = jw at *
        generalize roS D F (W + 1) = jr at *
        go_wp2_with fail
        have CS := refSolve_no Ap Aq A8 c1 c2 c8 W w3 HLk.out h0 (by omega) HLn.out HpB.out HqB.out hp1 QR hrr HM.out
        skip
        (with_reducible refine CS.mono ?_)
        rintro e w7 ⟨rfl, hb7⟩
        have F7 := Lib.hid (F6.out.trans (hb7.mono F6.out.size))
        have HR7 := Lib.hid True.intro
        clear hb7  hp1 hrr
        go_wp2
        go_ret2
        exact ⟨rfl, F7.out⟩
end Go.Proofs.Ytenkkdnepmoihaa
end
section
set_option maxRecDepth 20000
set_option linter.unusedVariables false
set_option linter.unusedSimpArgs false
namespace Go.Proofs.Ytenkkdnepmoihaa
open Go.RowKit

theorem gr531 : Gr 0 5 1 0 3 (roF 5 ((3 : Nat) : Int) 1 0) 2 := by
  have hok : plOk 5 ((3 : Nat) : Int) 1 0 = true := by decide
  have R := ro_of hok
  exact ⟨hok, R, rfl, rfl, rfl, R.hF, by omega, by omega, by omega, by omega, by omega, .inl ⟨rfl, rfl⟩, R.wd, by omega, by omega, by omega, by omega, by omega⟩
theorem new_arr : Arr (Bch.new 3) 3 [true, true, true] 5 1 2 (fun _ => List.replicate 2 (zeroL 32)) := by
  refine ⟨⟨rfl, goodB_new 3, fun i hi t ht _ => ?_⟩, ⟨fun _ => by simp, fun _ => rep_mem⟩⟩
  show secAt Dsk.new.now (36 + t) = _
  rw [new_now, sec_zero (by omega)]
  have g := gr531.at ht
  show _ = (fillL 3 (roF 5 ((3 : Nat) : Int) 1 (t : Int)) (List.replicate 2 (zeroL 32))).getD i []
  rw [zeros_fill g.hF (by omega) (by omega) hi]
  rfl
theorem wakes_plan {x : List UInt8} (hx : x.length = 32) : upE (Bch.new 3) [true, true, true] 5 3 1 3 x = 0 ∧ (upL (Bch.new 3) [true, true, true] 5 3 1 3 x).length = 2 ∧ fillOk 5 3 1 (plOfR 5 3 1 3) (upX (Bch.new 3) [true, true, true] 5 3 1 3 x) = true := by
  have hsv : ∀ i, i < 3 → srvD (Bch.new 3) [true, true, true] i = true := fun i hi => srvD_mk hi (match i, hi with
    | 0, _ => rfl
    | 1, _ => rfl
    | 2, _ => rfl) rfl
  have hc : ((cntB 3 (fun i => !srvD (Bch.new 3) [true, true, true] i) : Nat) : Int) ≤ 5 - 4 := by
    rw [cntB_none fun i hi => by rw [hsv i hi]; rfl]; decide
  have hr : (1 : Nat) < 16 := by omega
  have hE := new_arr.ok gr531 hr hc
  have e3 : plN 5 ((3 : Nat) : Int) 1 ((1 : Nat) : Int) ((1 : Nat) : Int) = 3 := by decide
  obtain ⟨h0, h1, _⟩ := up_at (k := 1) (gr531.at hr) (by omega) hx hE
  rw [e3] at h0 h1
  refine ⟨h0, ?_, new_arr.fok gr531 hx h0⟩
  show (upL (Bch.new 3) [true, true, true] 5 ((3 : Nat) : Int) 1 3 x).length = 2
  rw [h1]
  have hk := (ksL_facts (k := 1) (gr531.at hr) (by omega)).2.2.1
  unfold upIts
  rw [List.length_map, List.filter_eq_self.2 fun i hi => hsv i (hk i hi)]
  rfl
set_option maxRecDepth 100000 in
set_option maxHeartbeats 1600000 in
theorem wakesUpd_any (hu : UpdP) (W : World) : Calls Try.prog 12 #[] W fun e w' => e = .returned (.bool true) ∧ Below W.heap.size W w' := by
  have hpn := ptr_eq
  have CN := Lib.hid (bp_new 3 W W (Below.refl _ _) (by omega))
  have CSc := Lib.hid (fun V => sector_any 4 V (by omega))
  have hx := sectorB_len 4
  generalize sectorB 4 = x at CSc hx
  obtain ⟨p0, p1, p2⟩ := wakes_plan hx
  have P1 := Lib.hid (show upS (Bch.new 3) [true, true, true] 5 3 1 3 x 1 = 1 from if_neg (by rw [p0]; decide))
  have CP := fun (W w : World) (b : Nat) (H : BH) (h : BP W w b H (Bch.new 3)) (LA : Option Addr) (hr : RdOX (BF b H 3) w LA [true, true, true]) (XA : Option Addr) (hxr : RdB w w.heap.size XA x) => hu.plan W w b H (Bch.new 3) h [true, true, true] LA 3 3 rfl hr 5 3 1 3 ⟨by omega, by omega⟩ ⟨by omega, by omega⟩ ⟨by omega, by omega⟩ ⟨by omega, by omega⟩ XA 32 32 x hx (Nat.le_refl _) hxr 1 ⟨by omega, by omega⟩ (fun _ => p2)
  rw [p0, P1.out, p1] at CP
  have CP := Lib.hid CP
  clear hu p0 p1 p2
  go_enter Try.func12, Try.ntmps12
  go_wp2_with fail
  refine CN.out.mono ?_
  rintro e w1 ⟨b, H, rfl, hp, _, _⟩
  unfold ptr
  have kk : KS W w1 b H (Bch.new 3) [] [] [] := ⟨⟨hp, fun _ h => absurd h (by simp)⟩, fun _ h => absurd h (by simp), fun _ h => absurd h (by simp)⟩
  have K1 := Lib.hid (kk.add (.cells ([true, true, true].map Value.bool).toArray 4))
  clear kk hp CN
  go_wp2_with fail
  (with_reducible refine (CSc.out _).mono ?_); rintro e w2 ⟨gx, rfl, ho, hb2⟩
  have k2 := K1.out.slice hb2 ho.rdbf
  have CP2 := Lib.hid (CP.out W w2 b H k2.bp (some ⟨w1.heap.size, 0, none⟩) (k2.lv (g := w1.heap.size) (t := 4) (f := (0, 0)) (lv := [true, true, true]) (by simp) rfl (by simp)) (some ⟨gx, 0, none⟩) ho.rdS.1)
  have F2 := k2.bp.bel
  clear k2 ho hb2 CP K1
  go_wp2_with fail
  (with_reducible refine CP2.out.mono ?_); rintro e w3 ⟨A3, c3, rfl, _, _, hb3⟩
  have F3 := F2.trans (hb3.mono F2.size)
  clear hb3 CP2 F2
  go_wp2_with fail
  go_ret
  exact ⟨rfl, F3.alloc F3.size _⟩
end Go.Proofs.Ytenkkdnepmoihaa
end
section
set_option maxRecDepth 20000
set_option linter.unusedVariables false
set_option linter.unusedSimpArgs false
namespace Go.Proofs.Ytenkkdnepmoihaa
open Go.RowKit

section
variable {l : Int} {D : Nat} {c : Int} {W : Nat} {ds : Nat → List (List UInt8)} {F : Int → Option Value} {S S' : List (Option Addr × List UInt8)}
end
section
variable {W0 w w' : World} {b : Nat} {H : BH} {N : Bch} {K : List (Nat × Obj)} {R : List (Option Addr × List (List UInt8))} {S : List (Option Addr × List UInt8)}
end
theorem GoodB.pend {N : Bch} (h : GoodB N) : N.pend = 0 := by
  have key : ∀ n, n ≤ N.n → offs N.D n = 0 := fun n => by
    induction n with
    | zero => intro _; rfl
    | succ n ih =>
      intro hn
      show offs N.D n + (N.D n).ps.length = 0
      rw [ih (by omega), h.ps n (by omega)]; rfl
  exact key N.n (Nat.le_refl _)
end Go.Proofs.Ytenkkdnepmoihaa
end
