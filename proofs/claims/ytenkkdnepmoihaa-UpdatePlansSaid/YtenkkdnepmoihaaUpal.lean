/- Texts put together: RefNums, OwnItP. -/
import Derived.Test.YtenkkdnepmoihaaUpai
import Derived.Test.YtenkkdnepmoihaaUpac
import Derived.Test.YtenkkdnepmoihaaUpaj
import Derived.Test.YtenkkdnepmoihaaUpad
section
set_option linter.unusedVariables false
set_option linter.unusedSimpArgs false
set_option maxRecDepth 20000
namespace Go.Proofs.Ytenkkdnepmoihaa
open Go.RowKit

theorem step_append_J {w : World} {ops : Array Oper} {o : Oper} {a : Act} {K : Act → World → Prop} {Q : Exit → Act → World → Prop} {E : Prop} (hgd : o.guard = none) (s x : Operand)
    (ho : o.op = .call { callee := .builtin .append, args := #[s, x], argTypes := #[22, 22] })
    (base : Nat) (v : Value) (zs : List Int) (hs : a.eval s = v) (hown : OwJ w base v zs) (hl : zs.length ≤ 1000000) (g : Nat) (z : Int) (hx : a.eval x = .slice (some ⟨g, 0, none⟩) 1 1) (hg : w.cell? ⟨g, 0, none⟩ = some (.int .i64 z))
    (hbase : base ≤ w.heap.size)
    (h : ∀ v' w', OwJ w' base v' (zs ++ [z]) → w.grownBy w' v.ownBlock → K (a.put o.dst v') w') :
    if Region.wanted o (yielded ops a.tmps) = true then Oper.wp Try.prog o a w K Q else E := by
  obtain ⟨i, hi, hzz⟩ := Option.map_eq_some_iff.1 info_z
  simp only [Prod.mk.injEq] at hzz
  obtain ⟨hz, hsz, hb⟩ := hzz
  refine step_append_lies w hgd s x 22 ho base 3 i (.int .i64 0) 1 8 Try.underlying22 hi hz hsz hb rfl (by omega) v zs.length (zs.map zv) hs hown ⟨g, 0, none⟩ 1 1 [zv z] hx rfl (fun j u hj => ?_) (fun u hu => ?_) (by omega) (by unfold maxLen; omega) (by omega) hbase _ rfl (fun g' cap w' h1 h2 _ _ => h _ w' ?_ h2)
  · rcases j with _ | j
    · simp at hj; subst hj; exact hg
    · simp at hj
  · simp at hu; subst hu; rfl
  · unfold OwJ
    rw [List.length_append, List.map_append]
    exact h1
theorem OwJ.lt {w : World} {B : Nat} {v : Value} {zs : List Int} (h : OwJ w B v zs) : ∀ k, v.ownBlock = some k → B ≤ k ∧ k < w.heap.size := World.ownsRow.lt h
theorem GS.grown {w0 W W' : World} {B b : Nat} {l d c : Int} {row : Option Nat} (h : GS w0 B b l d c W) (hg : W.grownBy W' row) (hB : B ≤ W.heap.size) (hr : ∀ k, row = some k → B ≤ k ∧ k ≠ b) : GS w0 B b l d c W' := by
  obtain ⟨h1, h2, h3, F⟩ := h
  have hb : W'.heap[b]? = W.heap[b]? := hg.block b (World.block_lt_of_cell? _ _ h1) (fun e => (hr b e.symm).2 rfl)
  have hc : ∀ o, W'.cell? ⟨b, o, none⟩ = W.cell? ⟨b, o, none⟩ := fun o => by unfold World.cell?; simp only [hb]
  exact ⟨(hc 0).trans h1, (hc 1).trans h2, (hc 2).trans h3, F.grown hg hB fun k e => (hr k e).1⟩
/-- The first k numbers of a row. -/
def plFirst (l d c r : Int) (k : Nat) : List Int := (List.range k).map (fun j : Nat => plN l d c r (j : Int))
theorem plFirst_succ (l d c r : Int) (k : Nat) : plFirst l d c r k ++ [plN l d c r (k : Int)] = plFirst l d c r (k + 1) := by simp [plFirst, List.range_succ]
theorem plFirst_len (l d c r : Int) (k : Nat) : (plFirst l d c r k).length = k := by simp [plFirst]
theorem plFirst_all {l d c r : Int} {n : Nat} (h : plOk l d c r = true) (hn : gWid l d c = n) : plFirst l d c r n = plNums l d c r := by
  have hg := (plOk_yes h).1
  rw [gWid_yes hg] at hn
  unfold plNums plFirst
  rw [if_pos h, hn]
  simp
set_option maxHeartbeats 1000000 in
theorem refNumbers_own (l d c r : Int) (w : World) (HT : Hid (plOk l d c r = true)) (hl : (-9223372036854775808 ≤ l ∧ l ≤ 9223372036854775807)) (hd : (-9223372036854775808 ≤ d ∧ d ≤ 9223372036854775807)) (hc : (-9223372036854775808 ≤ c ∧ c ≤ 9223372036854775807)) (hr : (-9223372036854775808 ≤ r ∧ r ≤ 9223372036854775807)) :
    Calls Try.prog 16 #[.agg #[.int .i64 l, .int .i64 d, .int .i64 c], .int .i64 r] w fun e w' => ∃ v, e = .returned v ∧ OwJ w' w.heap.size v (plNums l d c r) ∧ Below w.heap.size w w' := by
  have G := gat_new w l d c 24 (0, 0)
  obtain ⟨hg, h0, h1⟩ := plOk_yes HT.out
  have hb6 := gOk_bd hg
  have HW := Lib.hid (fun W => refWidth_any l d c W hl hd hc)
  have hw := gWid_bd l d c
  obtain ⟨n, hn⟩ : ∃ n : Nat, gWid l d c = n := ⟨(gWid l d c).toNat, by omega⟩
  have Hall := Lib.hid (plFirst_all HT.out hn)
  have HN : Hid (∀ k : Nat, plN l d c r (k : Int) = (r / c * (n : Int) + k) * c + r % c) := Lib.hid fun k => by rw [← hn, gWid_yes hg]; rfl
  rw [hn] at HW hw
  have hq := quo_bd 16 h0 h1 (show 1 ≤ c by omega)
  have hm := rem_bd r (show 1 ≤ c by omega)
  have z3 : r.tdiv c = r / c := Int.tdiv_eq_ediv_of_nonneg h0
  have z4 : r.tmod c = r % c := Int.tmod_eq_emod_of_nonneg h0
  have n2 : ¬ c = 0 := by omega
  have z5 : IntKind.i64.wrap (r / c) = r / c := IntWalk.i64_in _ (by omega)
  have hx : 0 ≤ r / c * (n : Int) ∧ r / c * (n : Int) ≤ 112 := ⟨Int.mul_nonneg hq.1 hw.1, by
    have := Int.mul_le_mul (show r / c ≤ 16 by omega) hw.2 hw.1 (by omega)
    omega⟩
  have z1 : IntKind.i64.wrap (r / c * (n : Int)) = r / c * (n : Int) := IntWalk.i64_in _ (by omega)
  clear hn hg h0 h1
  go_enter Try.func16, Try.ntmps16
  go_wp2_with fail
  (with_reducible refine (refFine_yes l d c r _ HT hl hd hc hr).mono ?_); rintro e w1 ⟨rfl, hb⟩
  have S1 := GS.later (w0 := w) (B := w.heap.size) ⟨G.1, G.2.1, G.2.2, below1 w _⟩ hb
  have q0 : w.heap.size < w1.heap.size := World.block_lt_of_cell? _ _ S1.1
  clear hb G
  go_wp2_with fail
  have H0 : OwJ w1 (w.heap.size + 1) (.slice none 0 0) (plFirst l d c r 0) := World.ownsRow_nil _ _ _ _
  go_loopw [5, 6] (fun v i wr => ∃ k : Nat, k ≤ n ∧ i = .int .i64 k ∧ OwJ wr (w.heap.size + 1) v (plFirst l d c r k) ∧ GS w w.heap.size w.heap.size l d c wr) (fun _ i _ => n - (intOf i).toNat)
  case atStart => exact ⟨0, Nat.zero_le _, rfl, H0, S1⟩
  case round =>
    obtain ⟨k, hk, rfl, hown, hS⟩ := hrel
    obtain ⟨g1, g2, g3, F⟩ := hS
    go_wp2_with fail
    (with_reducible refine (HW.out _).mono ?_); rintro e w2 ⟨rfl, hb⟩
    have S2 := GS.later (w0 := w) (B := w.heap.size) ⟨g1, g2, g3, F⟩ hb
    have hown2 := hown.below hb
    clear hb g1 g2 g3 F hown
    by_cases hlt : k < n
    · have i0 : (0 : Int) ≤ (k : Int) := by omega
      have i1 : (k : Int) < (n : Int) := by omega
      have Hk := Lib.hid (HN.out k)
      have hy : 0 ≤ (r / c * (n : Int) + (k : Int)) * c ∧ (r / c * (n : Int) + (k : Int)) * c ≤ 120 * 4 := ⟨Int.mul_nonneg (by omega) (by omega), Int.mul_le_mul (by omega) (by omega) (by omega) (by omega)⟩
      have y1 : IntKind.i64.wrap (r / c * (n : Int) + (k : Int)) = r / c * (n : Int) + (k : Int) := IntWalk.i64_in _ (by omega)
      have y2 : IntKind.i64.wrap ((r / c * (n : Int) + (k : Int)) * c) = (r / c * (n : Int) + (k : Int)) * c := IntWalk.i64_in _ (by omega)
      have y3 : IntKind.i64.wrap ((r / c * (n : Int) + (k : Int)) * c + r % c) = plN l d c r (k : Int) := by rw [Hk.out]; exact IntWalk.i64_in _ (by omega)
      have hlen := plFirst_len l d c r k
      have Hs := Lib.hid (plFirst_succ l d c r k)
      generalize plN l d c r (k : Int) = z at y3 Hs
      obtain ⟨g1, g2, g3, F⟩ := S2
      go_wp2_with fail
      have S2 : GS w w.heap.size w.heap.size l d c w2 := ⟨g1, g2, g3, F⟩
      clear g1 g2 g3 F
      have zb := S2.2.2.2.size
      have q2 : w.heap.size < w2.heap.size := World.block_lt_of_cell? _ _ S2.1
      go_region_held3 (GS w w.heap.size w.heap.size l d c)
        (first | assumption | exact GS.drew ‹_› | exact GS.later S3 (below1 _ _) | exact S9)
        (first
          | (go_at_call 24; (with_reducible refine (HW.out _).mono ?_); rintro e w3 ⟨rfl, hb⟩; have S3 := (GS.drew S2).later hb; have hown3 := OwJ.below (w := w2.drew) hown2 hb; have q3 : w.heap.size + 1 ≤ w3.heap.size := Nat.le_trans q2 hb.size; clear hb)
          | (refine step_append_J (by rfl) _ _ (by rfl) (w.heap.size + 1) u5 (plFirst l d c r k) (by rfl) (hown3.below (below1 _ _)) (by omega) _ z (by rfl) (cell_of_row _ _ 0 _ _ _ (hp_new _ _ _ rfl)) (Nat.le_trans q3 (below1 _ _).size) ?_
             intro v2 w9 hown9 hg9
             have S9 := GS.grown (GS.later S3 (below1 w3 (.cells #[.int .i64 z] 3))) hg9 (Nat.le_trans (Nat.le_of_lt q3) (below1 _ _).size) (fun j hj => by have := (hown3.lt j hj).1; omega)))
      rw [Hs.out] at hown9
      go_wp2
      go_roundw
      case rel => exact ⟨k + 1, by omega, by go_num, hown9, S9⟩
      case measure => simp [intOf]; omega
    · obtain rfl : k = n := by omega
      rw [Hall.out] at hown2
      go_wp2
      go_ret
      exact ⟨_, rfl, hown2.le (by omega), S2.2.2.2⟩
end Go.Proofs.Ytenkkdnepmoihaa
end
section
set_option linter.unusedVariables false
set_option linter.unusedSimpArgs false
namespace Go.Proofs.Ytenkkdnepmoihaa
open Go.RowKit

/-- Values that read as rows, none of them in block ob, all where P says. -/
def RowsP (w : World) (P : Nat → Prop) (ob : Option Nat) (xs : List Value) (rs : List (List UInt8)) : Prop :=
  xs.length = rs.length ∧ ∀ k, k < rs.length → ∃ A c, xs[k]? = some (.slice A (rs.getD k []).length c) ∧ (rs.getD k []).length ≤ c ∧ RdB w w.heap.size A (rs.getD k []) ∧ (0 < (rs.getD k []).length → ∀ a, A = some a → some a.block ≠ ob ∧ P a.block)
section
variable {w w' : World} {P : Nat → Prop} {ob ob' : Option Nat} {xs ys : List Value} {rs qs : List (List UInt8)}
theorem RowsP.nil (w : World) (P : Nat → Prop) (ob : Option Nat) : RowsP w P ob [] [] := ⟨rfl, fun k hk => by simp at hk⟩
theorem RowsP.grown {row : Option Nat} (h : RowsP w P ob xs rs) (hg : w.grownBy w' row) (hr : row = ob) (ho : ob' = ob ∨ ob' = some w.heap.size) : RowsP w' P ob' xs rs :=
  ⟨h.1, fun k hk => by
    obtain ⟨A, c, h1, hcap, h2, h3⟩ := h.2 k hk
    refine ⟨A, c, h1, hcap, ⟨h2.1, fun h0 => ?_⟩, fun h0 a ha => ⟨?_, (h3 h0 a ha).2⟩⟩
    · obtain ⟨b, off, e, hb, hc⟩ := h2.2 h0
      have hne := h3 h0 _ e
      have hne2 : some b ≠ row := by rw [hr]; exact hne.1
      refine ⟨b, off, e, by have := hg.size; omega, fun j hj => ?_⟩
      rw [← hc j hj]
      exact World.cell?_of_block (w := w) (hg.block b hb hne2)
    · rcases ho with rfl | rfl
      · exact (h3 h0 a ha).1
      · obtain ⟨b, off, e, hb, hc⟩ := h2.2 h0
        rw [ha] at e
        injection e with e
        subst e
        intro e
        injection e with e
        simp at e
        omega⟩
theorem RowsP.below (h : RowsP w P ob xs rs) (hb : Below w.heap.size w w') : RowsP w' P ob xs rs :=
  ⟨h.1, fun k hk => by
    obtain ⟨A, c, h1, hcap, h2, h3⟩ := h.2 k hk
    exact ⟨A, c, h1, hcap, (h2.below hb (Nat.le_refl _)).more hb.size, h3⟩⟩
theorem RowsP.app (h : RowsP w P ob xs rs) (h' : RowsP w P ob ys qs) : RowsP w P ob (xs ++ ys) (rs ++ qs) :=
  ⟨by simp [h.1, h'.1], fun k hk => by
    by_cases hk2 : k < rs.length
    · have e : (rs ++ qs).getD k [] = rs.getD k [] := by simp [List.getD_eq_getElem?_getD, List.getElem?_append_left hk2]
      rw [e, List.getElem?_append_left (by rw [h.1]; exact hk2)]
      exact h.2 k hk2
    · have e : (rs ++ qs).getD k [] = qs.getD (k - rs.length) [] := by simp [List.getD_eq_getElem?_getD, List.getElem?_append_right (show rs.length ≤ k by omega)]
      rw [e, List.getElem?_append_right (by rw [h.1]; omega), h.1]
      exact h'.2 _ (by simp at hk; omega)⟩
theorem RowsP.one {A : Option Addr} {c : Nat} {b : List UInt8} (hr : RdB w w.heap.size A b) (hc : b.length ≤ c) (hne : 0 < b.length → ∀ a, A = some a → some a.block ≠ ob ∧ P a.block) : RowsP w P ob [.slice A b.length c] [b] :=
  ⟨rfl, fun k hk => by
    obtain rfl : k = 0 := by simp at hk; omega
    exact ⟨A, c, rfl, hc, hr, hne⟩⟩
theorem RowsP.ones (h : RowsP w P ob xs rs) : ∀ u ∈ xs, u.oneCell' = true := fun u hu => by
  obtain ⟨k, hk, rfl⟩ := List.getElem_of_mem hu
  obtain ⟨A, c, h1, _⟩ := h.2 k (by rw [← h.1]; exact hk)
  rw [List.getElem?_eq_getElem hk] at h1
  injection h1 with h1
  rw [h1]; rfl
end
/-- Items of one's own: their row lies from B on; their Data where P says, and not in that row. -/
def OwIP (e : TypeId) (w : World) (B : Nat) (P : Nat → Prop) (v : Value) (l : List It) : Prop :=
  ∃ xs, w.ownsRow B e 3 v l.length (itcs l xs) ∧ RowsP w P v.ownBlock xs (l.map (·.b)) ∧ l.length ≤ 1000000
/-- Items that are read, none of them where F says. -/
def RdIF (w : World) (F : Nat → Prop) (A : Option Addr) (l : List It) : Prop :=
  l.length ≤ 1000000 ∧ (0 < l.length → ∃ b, A = some ⟨b, 0, none⟩ ∧ b < w.heap.size ∧ ¬ F b ∧ ∀ k, k < l.length → ∃ D c, w.rangeAt b (k * 3) [.int .i64 (itN l k).d, .int .i64 (itN l k).a, .slice D (itN l k).b.length c] ∧ (itN l k).b.length ≤ c ∧ RdB w w.heap.size D (itN l k).b ∧ (0 < (itN l k).b.length → ∀ a, D = some a → ¬ F a.block))
section
variable {e : TypeId} {w w' : World} {B : Nat} {P F : Nat → Prop} {v : Value} {l : List It} {A : Option Addr}
theorem OwIP.nil (e : TypeId) (w : World) (B : Nat) (P : Nat → Prop) : OwIP e w B P (.slice none 0 0) [] := ⟨[], World.ownsRow_nil _ _ _ _, RowsP.nil _ _ _, by simp⟩
theorem OwIP.rd (h : OwIP e w B P v l) (hB : ∀ k, B ≤ k → ¬ F k) (hP : ∀ k, P k → ¬ F k) : ∃ A c, v = .slice A l.length c ∧ l.length ≤ c ∧ RdIF w F A l := by
  obtain ⟨xs, h1, h2, h3⟩ := h
  obtain ⟨A, c, rfl, hc, hg⟩ := rx_form h1
  refine ⟨A, c, rfl, hc, by omega, fun hn => ?_⟩
  obtain ⟨g, rfl, hB'⟩ := hg hn
  refine ⟨g, rfl, (h1.lt g rfl).2, hB g hB', fun k hk => ?_⟩
  obtain ⟨D, c', hx, hcc, hr, hp⟩ := h2.2 k (by simpa using hk)
  rw [itB_get hk] at hx hr hcc hp
  have hxl : xs.length = l.length := by have := h2.1; simpa using this
  refine ⟨D, c', fun j u hj => ?_, hcc, hr, fun h0 a ha => hP _ (hp h0 a ha).2⟩
  have hj3 : j < 3 := (List.getElem?_eq_some_iff.1 hj).1
  rw [rx_cell_at h1 _ (by rw [itcs_len _ _ hxl]; omega), itcs_get l xs k _ hxl hx j hj3]
  exact hj
theorem OwIP.lt (h : OwIP e w B P v l) : ∀ k, v.ownBlock = some k → B ≤ k ∧ k < w.heap.size := by
  obtain ⟨xs, h1, _⟩ := h; exact h1.lt
theorem OwIP.below (h : OwIP e w B P v l) (hb : Below w.heap.size w w') : OwIP e w' B P v l := by
  obtain ⟨xs, h1, h2, h3⟩ := h
  exact ⟨xs, h1.kept (grown_none hb) (Classical.em _), h2.below hb, h3⟩
theorem RdIF.chg {G : Nat → Prop} (h : RdIF w F A l) (hc : Chg G w w') (hG : ∀ k, k < w.heap.size → G k → F k) : RdIF w' F A l :=
  ⟨h.1, fun hn => by
    obtain ⟨b, e, hb, hf, hk⟩ := h.2 hn
    refine ⟨b, e, Nat.lt_of_lt_of_le hb hc.size, hf, fun k hkl => ?_⟩
    obtain ⟨D, c, h1, hcc, h2, h3⟩ := hk k hkl
    refine ⟨D, c, rangeAt_keep h1 fun j => World.cell?_of_block (a := ⟨b, j, none⟩) (hc.block b hb fun g => hf (hG b hb g)), hcc, ⟨h2.1, fun h0 => ?_⟩, h3⟩
    obtain ⟨g, off, e', hg, hcl⟩ := h2.2 h0
    exact ⟨g, off, e', Nat.lt_of_lt_of_le hg hc.size, fun j hj => (World.cell?_of_block (a := ⟨g, off + j, none⟩) (hc.block g hg fun x => h3 h0 _ e' (hG g hg x))).trans (hcl j hj)⟩⟩
theorem RdIF.below (h : RdIF w F A l) (hb : Below w.heap.size w w') : RdIF w' F A l := h.chg (chg_below (fun _ => False) hb) fun _ _ e => e.elim
/-- Items of one's own, made since lo: none of what was there before. -/
theorem OwIt.rdF {lo : Nat} (h : OwIt e w B lo v l) (hB : ∀ k, B ≤ k → ¬ F k) (hl : ∀ k, lo ≤ k → ¬ F k) : ∃ A c, v = .slice A l.length c ∧ l.length ≤ c ∧ RdIF w F A l := by
  obtain ⟨xs, h1, h2, h3⟩ := h
  exact OwIP.rd (P := fun k => lo ≤ k) ⟨xs, h1, h2, h3⟩ hB hl
end
/-- What is appended: Items that lie there. -/
def SrcP (w : World) (P : Nat → Prop) (ob : Option Nat) (A : Option Addr) (l : List It) : Prop :=
  (A = none ∧ l = []) ∨ ∃ ad xs, A = some ad ∧ RowsP w P ob xs (l.map (·.b)) ∧ ∀ j u, (itcs l xs)[j]? = some u → w.cell? (ad.add j) = some u
section
variable {P : Program} (w : World) (Pp : Nat → Prop)
theorem run_append_P (base : Nat) (t ty e : TypeId) (ht : P.underlying t = some (.slice e)) (hinfo : (P.info? e).map (fun i => (i.zero, i.size, i.bytes)) = some (some (.agg #[.int .i64 0, .int .i64 0, .slice none 0 0]), 3, 40))
    (v : Value) (l : List It) (hown : OwIP e w base Pp v l) (A : Option Addr) (m c : Nat) (l2 : List It) (hm : m = l2.length) (hs : SrcP w Pp v.ownBlock A l2) (hn : l.length + l2.length ≤ 1000000) (hbase : base ≤ w.heap.size) :
    ∃ v' w', (Builtin.append_ #[t, t] ty #[v, .slice A m c]).run P w = .ok v' w' ∧ OwIP e w' base Pp v' (l ++ l2) ∧ w.grownBy w' v.ownBlock ∧ (v'.ownBlock = v.ownBlock ∨ v'.ownBlock = some w.heap.size) := by
  subst hm
  obtain ⟨i, hi, hzz⟩ := Option.map_eq_some_iff.1 hinfo
  simp only [Prod.mk.injEq] at hzz
  obtain ⟨hz, hs', hb⟩ := hzz
  obtain ⟨xs, h1, h2, h3⟩ := hown
  rcases hs with ⟨rfl, rfl⟩ | ⟨ad, xs2, rfl, g2, g3⟩
  · refine ⟨v, w, ?_, by rw [List.append_nil]; exact ⟨xs, h1, h2, h3⟩, World.grownBy.refl w _, .inl rfl⟩
    rcases h1.2 with ⟨rfl, _⟩ | ⟨g, cap, cur, rfl, _, _, hnc, _⟩
    · simp [Builtin.append_, run_underlying ht, sizeOf, typeInfo, hi, Builtin.lenOf, Builtin.firstCells]
    · simp [Builtin.append_, run_underlying ht, sizeOf, typeInfo, hi, Builtin.lenOf, Builtin.firstCells, hnc, storeCells]
  · have hx2 : xs2.length = l2.length := by have := g2.1; simpa using this
    have hx1 : xs.length = l.length := by have := h2.1; simpa using this
    obtain ⟨v', w', hrun, k2, k3, _, k5⟩ := run_append_own_at (P := P) w base t ty e i _ 3 40 ht hi hz hs' hb rfl (by omega) v l.length (itcs l xs) h1 ad l2.length c (itcs l2 xs2) (itcs_len _ _ hx2) g3 (itcs_one _ _ g2.ones) (by unfold maxLen; omega) (by omega) hbase
    refine ⟨v', w', hrun, ⟨xs ++ xs2, ?_, ?_, by simp; omega⟩, k3, k5⟩
    · rw [itcs_app _ _ _ _ hx1, List.length_append]; exact k2
    · rw [List.map_append]
      exact (h2.grown k3 rfl k5).app (g2.grown k3 rfl k5)
theorem wpList_append_P {ops : Array Oper} {rest : List Oper} {o : Oper} {a : Act} {Q : Exit → Act → World → Prop} (hw : Region.wanted o (yielded ops a.tmps) = true) (s x : Operand) (t : TypeId)
    (ho : o.op = .call { callee := .builtin .append, args := #[s, x], argTypes := #[t, t] })
    (base : Nat) (e : TypeId) (ht : P.underlying t = some (.slice e)) (hinfo : (P.info? e).map (fun i => (i.zero, i.size, i.bytes)) = some (some (.agg #[.int .i64 0, .int .i64 0, .slice none 0 0]), 3, 40))
    (v : Value) (l : List It) (hsv : a.eval s = v) (hown : OwIP e w base Pp v l) (A : Option Addr) (m c : Nat) (l2 : List It) (hx : a.eval x = .slice A m c) (hm : m = l2.length) (hs : SrcP w Pp v.ownBlock A l2) (hn : l.length + l2.length ≤ 1000000) (hbase : base ≤ w.heap.size)
    (h : ∀ v' w', OwIP e w' base Pp v' (l ++ l2) → w.grownBy w' v.ownBlock → (v'.ownBlock = v.ownBlock ∨ v'.ownBlock = some w.heap.size) → wpList P ops Q rest (a.put o.dst v') w') : wpList P ops Q (o :: rest) a w := by
  refine BigFrame.wpList_want hw fun K hK => ?_
  obtain ⟨v', w', hrun, h2, h3, h4⟩ := run_append_P (P := P) w Pp base t o.type e ht hinfo v l hown A m c l2 hm hs hn hbase
  unfold Oper.wp execOp
  simp only [ho, resolve, invoke, builtin, Sem.run_bind, Sem.run_pure, Result.andThen_ok, List.map_toArray, List.map_cons, List.map_nil, hsv, hx, hrun]
  exact hK _ _ (h v' w' h2 h3 h4)
end
/-- One Item, in a new block of its own. -/
theorem src_oneP {w : World} {P : Nat → Prop} {g : Nat} {ob : Option Nat} {x : It} {D : Option Addr} {c : Nat} {t : TypeId} {f : Nat × Nat} (hg : w.heap[g]? = some (.cells (List.toArray [.int .i64 x.d, .int .i64 x.a, .slice D x.b.length c]) t f)) (hr : RdB w w.heap.size D x.b) (hc : x.b.length ≤ c) (hne : 0 < x.b.length → ∀ a, D = some a → some a.block ≠ ob ∧ P a.block) : SrcP w P ob (some ⟨g, 0, none⟩) [x] :=
  .inr ⟨⟨g, 0, none⟩, [.slice D x.b.length c], rfl, RowsP.one hr hc hne, fun j u hu => by
    have e1 : ((⟨g, 0, none⟩ : Addr).add j) = ⟨g, j, none⟩ := by unfold Addr.add; by_cases hk0 : j = 0 <;> simp [hk0]
    rw [e1, cell_of_row w g j _ t f hg]
    simpa [itcs] using hu⟩
end Go.Proofs.Ytenkkdnepmoihaa
end
