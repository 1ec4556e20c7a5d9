/- Texts put together: UpdPlanS, UpdPlan. -/
import Derived.Test.YtenkkdnepmoihaaUpbg
import Derived.Test.YtenkkdnepmoihaaUpay
import Derived.Test.YtenkkdnepmoihaaUpbc
import Derived.Test.YtenkkdnepmoihaaUpbb
section
set_option maxRecDepth 20000
set_option linter.unusedVariables false
set_option linter.unusedSimpArgs false
namespace Go.Proofs.Ytenkkdnepmoihaa
open Go.RowKit

/-- The Items of those disks that serve, by whole numbers. -/
def plIts (N : Bch) (lv : List Bool) (a : Int) (F : List (List UInt8)) (ds : List Int) : List It := (ds.filter (alvS N lv)).map fun k : Int => ⟨k, a, F.getD k.toNat []⟩
theorem plIts_snoc (N : Bch) (lv : List Bool) (a : Int) (F : List (List UInt8)) (ds : List Int) (k : Int) : plIts N lv a F (ds ++ [k]) = if alvS N lv k = true then plIts N lv a F ds ++ [⟨k, a, F.getD k.toNat []⟩] else plIts N lv a F ds := by
  unfold plIts
  rw [List.filter_append, List.map_append]
  by_cases h : alvS N lv k = true
  · rw [if_pos h, List.filter_cons_of_pos h]; rfl
  · rw [if_neg h, List.filter_cons_of_neg h]; simp
theorem plIts_len (N : Bch) (lv : List Bool) (a : Int) (F : List (List UInt8)) (ds : List Int) : (plIts N lv a F ds).length ≤ ds.length := by
  unfold plIts; rw [List.length_map]; exact List.length_filter_le _ _
theorem alvS_neg (N : Bch) (lv : List Bool) {k : Int} (h : k < 0) : alvS N lv k = false := by
  unfold alvS alvD; rw [decide_eq_false (by omega)]; rfl
theorem alvS_yes {N : Bch} {lv : List Bool} {k : Int} (h : alvS N lv k = true) : 0 ≤ k ∧ k < (N.n : Int) := by
  unfold alvS alvD at h
  simp only [Bool.and_eq_true, decide_eq_true_eq] at h
  exact ⟨h.1.1, h.1.2.1⟩
theorem plIts_nat (N : Bch) (lv : List Bool) (a : Nat) (F : List (List UInt8)) (ks : List Nat) : plIts N lv (a : Int) F (ks.map fun k : Nat => (k : Int)) = upIts N lv a F ks := by
  unfold plIts upIts
  induction ks with
  | nil => rfl
  | cons k ks ih =>
    rw [List.map_cons]
    by_cases h : srvD N lv k = true
    · rw [List.filter_cons_of_pos (by rw [alvS_nat]; exact h), List.filter_cons_of_pos h, List.map_cons, List.map_cons, ih, Int.toNat_natCast]
    · rw [List.filter_cons_of_neg (by rw [alvS_nat]; exact h), List.filter_cons_of_neg h, ih]
/-- The three disks of a change: what is written on those that serve. -/
theorem plIts_end (N : Bch) (lv : List Bool) {l d c n : Int} (F : List (List UInt8)) (h : plOfOk l d c n = true) : plIts N lv (36 + plOfR l d c n) F [plOfD l d c n, plP l d c (plOfR l d c n), plQ l d c (plOfR l d c n)] = upIts N lv (36 + (plOfR l d c n).toNat) F (upK l d c n) := by
  obtain ⟨hT, _, _, _, _, _⟩ := nums_at h
  have hg := plOfOk_ok h
  obtain ⟨_, ⟨d0, _⟩, ⟨r0, _⟩, _⟩ := of_back hg (plOfOk_yes h).1 (plOfOk_yes h).2
  obtain ⟨p0, _, q5, q6⟩ := parity_in hT
  have ha : (36 + plOfR l d c n : Int) = ((36 + (plOfR l d c n).toNat : Nat) : Int) := by omega
  rw [ha, ← plIts_nat]
  have hl := (gOk_yes hg).1
  have hl56 : l = 5 ∨ l = 6 := by omega
  unfold upK
  rcases hl56 with rfl | rfl
  · rw [if_neg (by decide), q5 rfl]
    have e : ([plOfD 5 d c n, plP 5 d c (plOfR 5 d c n), -1] : List Int) = [plOfD 5 d c n, plP 5 d c (plOfR 5 d c n)] ++ [-1] := rfl
    rw [e, plIts_snoc, if_neg (by rw [alvS_neg N lv (by decide)]; decide)]
    rw [List.map_cons, List.map_cons, List.map_nil, Int.toNat_of_nonneg d0, Int.toNat_of_nonneg p0]
  · rw [if_pos rfl]
    rw [List.map_cons, List.map_cons, List.map_cons, List.map_nil, Int.toNat_of_nonneg d0, Int.toNat_of_nonneg p0, Int.toNat_of_nonneg (q6 rfl).1]
/-- Other blocks may be written. -/
theorem OwIP.far {e : TypeId} {w w' : World} {B : Nat} {P : Nat → Prop} {v : Value} {l : List It} {q : Nat} (h : OwIP e w B P v l) (hg : w.grownBy w' (some q)) (hB : q < B) (hP : ¬ P q) : OwIP e w' B P v l := by
  obtain ⟨xs, h1, h2, h3⟩ := h
  refine ⟨xs, h1.kept hg (.inr fun e => ?_), ⟨h2.1, fun k hk => ?_⟩, h3⟩
  · have := (h1.lt q e).1; omega
  · obtain ⟨A, c, k1, hcap, k2, k3⟩ := h2.2 k hk
    refine ⟨A, c, k1, hcap, ⟨k2.1, fun h0 => ?_⟩, k3⟩
    obtain ⟨b, off, e, hb, hc⟩ := k2.2 h0
    have hne := (k3 h0 _ e).2
    refine ⟨b, off, e, by have := hg.size; omega, fun j hj => ?_⟩
    rw [← hc j hj]
    exact World.cell?_of_block (w := w) (hg.block b hb fun q' => by injection q' with q'; rw [q'] at hne; exact hP hne)
theorem OwIP.it {e : TypeId} {w : World} {B lo : Nat} {P : Nat → Prop} {v : Value} {l : List It} (h : OwIP e w B P v l) (hB : lo ≤ B) (hP : ∀ k, P k → lo ≤ k) : OwIt e w lo lo v l := by
  obtain ⟨xs, h1, h2, h3⟩ := h
  refine ⟨xs, ⟨h1.1, ?_⟩, ⟨h2.1, fun k hk => ?_⟩, h3⟩
  · rcases h1.2 with h1 | ⟨g, cap, cur, h1, h2, r⟩
    · exact .inl h1
    · exact .inr ⟨g, cap, cur, h1, by omega, r⟩
  · obtain ⟨A, c, k1, hcap, k2, k3⟩ := h2.2 k hk
    exact ⟨A, c, k1, hcap, k2, fun h0 a ha => ⟨(k3 h0 a ha).1, hP _ (k3 h0 a ha).2⟩⟩
/-- The geometry's box, and the answer's own. -/
structure PlB (w W1 : World) (l d c : Int) (V : World) : Prop where
  z : W1.heap.size = w.heap.size + 1
  b1 : Below w.heap.size w W1
  box : DcS W1 V
  g : GAt V w.heap.size l d c
section
variable {w W1 V V' : World} {l d c : Int}
theorem PlB.bel (h : PlB w W1 l d c V) : Below w.heap.size w V := h.b1.trans (h.box.1.mono (by have := h.z; omega))
theorem PlB.lt (h : PlB w W1 l d c V) : w.heap.size + 1 < V.heap.size := by have := h.box.plt; have := h.z; omega
theorem PlB.below (h : PlB w W1 l d c V) (hb : Below V.heap.size V V') : PlB w W1 l d c V' := ⟨h.z, h.b1, h.box.below hb, h.g.below hb (by have := h.lt; omega)⟩
theorem PlB.start (w : World) (l d c : Int) (t : TypeId) : PlB w (w.alloc (.cells #[.int .i64 l, .int .i64 d, .int .i64 c] t)) l d c ((w.alloc (.cells #[.int .i64 l, .int .i64 d, .int .i64 c] t)).alloc (.cells #[.int .i64 0, .slice none 0 0] 36)) :=
  ⟨by simp, below1 _ _, DcS.start _ _, (gat_new w l d c t (0, 0)).below (below1 _ _) (by simp)⟩
/-- Another block is written. -/
theorem PlB.far {q : Nat} (h : PlB w W1 l d c V) (hg : V.grownBy V' (some q)) (hq : w.heap.size + 1 < q) : PlB w W1 l d c V' := by
  have hlt := h.lt
  have hz := h.z
  have ne : ∀ i k, k ≤ w.heap.size + 1 → some (⟨k, i, none⟩ : Addr).block ≠ some q := fun i k hk e => by injection e with e; have h1 : k = q := e; omega
  obtain ⟨g1, g2, g3⟩ := h.g
  refine ⟨h.z, h.b1, ⟨h.box.1.grown hg h.box.1.size (fun k e => by injection e with e; omega), (hg.cell_far _ h.box.plt (ne 0 _ (by omega))).trans h.box.2.1, (hg.cell_far _ h.box.plt (ne 1 _ (by omega))).trans h.box.2.2.1, fun i => (hg.frozen_far _ h.box.plt (ne i _ (by omega))).trans (h.box.2.2.2 i)⟩, ?_, ?_, ?_⟩
  · exact (hg.cell_far ⟨w.heap.size, 0, none⟩ (by show w.heap.size < _; omega) (ne 0 _ (by omega))).trans g1
  · exact (hg.cell_far ⟨w.heap.size, 1, none⟩ (by show w.heap.size < _; omega) (ne 1 _ (by omega))).trans g2
  · exact (hg.cell_far ⟨w.heap.size, 2, none⟩ (by show w.heap.size < _; omega) (ne 2 _ (by omega))).trans g3
theorem PlB.cells (h : PlB w W1 l d c V) : V.cell? ⟨w.heap.size + 1, 0, none⟩ = some (.int .i64 0) ∧ V.cell? ⟨w.heap.size + 1, 1, none⟩ = some (.slice none 0 0) ∧ V.frozen? ⟨w.heap.size + 1, 0, none⟩ = false ∧ V.frozen? ⟨w.heap.size + 1, 1, none⟩ = false := by
  have := h.box
  rw [← h.z]
  exact ⟨this.2.1, this.2.2.1, this.2.2.2 0, this.2.2.2 1⟩
theorem PlB.put (h : PlB w W1 l d c V) (y : Int) (v : Value) : ((V.setCell ⟨w.heap.size + 1, 0, none⟩ (.int .i64 y)).setCell ⟨w.heap.size + 1, 1, none⟩ v).cell? ⟨w.heap.size + 1, 0, none⟩ = some (.int .i64 y) ∧ ((V.setCell ⟨w.heap.size + 1, 0, none⟩ (.int .i64 y)).setCell ⟨w.heap.size + 1, 1, none⟩ v).cell? ⟨w.heap.size + 1, 1, none⟩ = some v
    ∧ Below w.heap.size w ((V.setCell ⟨w.heap.size + 1, 0, none⟩ (.int .i64 y)).setCell ⟨w.heap.size + 1, 1, none⟩ v)
    ∧ ∀ l, OwIt 51 V (w.heap.size + 2) (w.heap.size + 2) v l → OwIt 51 ((V.setCell ⟨w.heap.size + 1, 0, none⟩ (.int .i64 y)).setCell ⟨w.heap.size + 1, 1, none⟩ v) w.heap.size w.heap.size v l := by
  obtain ⟨a1, a2, a3, a4⟩ := h.box.put y v
  have hb := h.b1.trans (a3.mono (by have := h.z; omega))
  rw [h.z] at a1 a2 a4 hb
  exact ⟨a1, a2, hb, fun l ho => (a4 l ho).le (by omega) (by omega)⟩
end
/-- The Record's box in block p, made last; Items that grow: all but that block stays. -/
structure PlL (W9 : World) (lo p : Nat) (s : Int) (v : Value) (l : List It) (V : World) : Prop where
  chg : Chg (fun k => k = p) W9 V
  c0 : V.cell? ⟨p, 0, none⟩ = some (.int .i64 s)
  c1 : V.cell? ⟨p, 1, none⟩ = some v
  fz : ∀ i, V.frozen? ⟨p, i, none⟩ = false
  own : OwIP 51 V W9.heap.size (fun k => lo ≤ k ∧ k < p) v l
section
variable {W8 W9 V V' V2 : World} {lo p : Nat} {s : Int} {v v' : Value} {l : List It}
theorem PlL.start (W8 : World) (lo : Nat) (s : Int) : PlL (W8.alloc (.cells #[.int .i64 s, .slice none 0 0] 36)) lo W8.heap.size s (.slice none 0 0) [] (W8.alloc (.cells #[.int .i64 s, .slice none 0 0] 36)) :=
  ⟨Chg.refl _ _, cell_of_row _ _ 0 _ _ _ (heap_alloc_new W8 (.cells #[.int .i64 s, .slice none 0 0] 36)), cell_of_row _ _ 1 _ _ _ (heap_alloc_new W8 (.cells #[.int .i64 s, .slice none 0 0] 36)), fun i => World.frozen?_alloc_new W8 #[.int .i64 s, .slice none 0 0] 36 i, OwIP.nil _ _ _ _⟩
theorem PlL.lt (h : PlL W9 lo p s v l V) : p < V.heap.size := World.block_lt_of_cell? _ _ h.c0
theorem PlL.below (h : PlL W9 lo p s v l V) (hb : Below V.heap.size V V') : PlL W9 lo p s v l V' :=
  ⟨h.chg.trans (chg_below (fun k => k = p) hb) (fun _ _ q => q), (hb.cell (p := ⟨p, 0, none⟩) h.lt).trans h.c0, (hb.cell (p := ⟨p, 1, none⟩) h.lt).trans h.c1, fun i => (hb.frozen (p := ⟨p, i, none⟩) h.lt).trans (h.fz i), h.own.below hb⟩
theorem PlL.drew (h : PlL W9 lo p s v l V) : PlL W9 lo p s v l V.drew := h.below (Below.refl _ _).drew
/-- Items were appended; then the box says so. -/
theorem PlL.app (h : PlL W9 lo p s v l V) (hp : p < W9.heap.size) {l' : List It} (hg : V.grownBy V2 v.ownBlock) (ho : OwIP 51 V2 W9.heap.size (fun k => lo ≤ k ∧ k < p) v' l') :
    V2.cell? ⟨p, 1, none⟩ = some v ∧ V2.frozen? ⟨p, 1, none⟩ = false ∧ PlL W9 lo p s v' l' (V2.setCell ⟨p, 1, none⟩ v') := by
  have hB := fun k e => (h.own.lt k e).1
  have ne : ∀ i, some (⟨p, i, none⟩ : Addr).block ≠ v.ownBlock := fun i e => by have := hB p e.symm; omega
  have k0 := (hg.cell_far ⟨p, 0, none⟩ h.lt (ne 0)).trans h.c0
  have k1 := (hg.cell_far ⟨p, 1, none⟩ h.lt (ne 1)).trans h.c1
  have f := fun i => (hg.frozen_far ⟨p, i, none⟩ h.lt (ne i)).trans (h.fz i)
  have g2 := grown_cell V2 p 1 v'
  refine ⟨k1, f 1, ?_, (World.cell?_setCell_other _ _ _ _ (by intro e; injection e with _ e; cases e)).trans k0, World.cell?_setCell_same _ _ _ k1, fun i => by rw [World.frozen?_setCell]; exact f i, ho.far g2 hp (fun q => by omega)⟩
  refine (h.chg.trans (chg_grown hg) (fun k hk e => ?_)).trans (chg_grown g2) (fun k hk e => by injection e with e; exact e.symm)
  have := hB k e; omega
end
end Go.Proofs.Ytenkkdnepmoihaa
end
section
set_option maxRecDepth 20000
set_option linter.unusedVariables false
set_option linter.unusedSimpArgs false
namespace Go.Proofs.Ytenkkdnepmoihaa
open Go.RowKit

theorem rq_chg {lo : Nat} {W V : World} {g cap n : Nat} {xs : List Value} {rs : List (List UInt8)} (h : Rq lo W g cap n xs rs) (hb : Below W.heap.size W V) (k : Nat) (hk : k < n) :
    ∃ A c, V.cell? ⟨g, k, none⟩ = some (.slice A (rs.getD k []).length c) ∧ (rs.getD k []).length ≤ c ∧ RdB V V.heap.size A (rs.getD k []) ∧ (0 < (rs.getD k []).length → ∀ a, A = some a → lo ≤ a.block ∧ a.block < W.heap.size) := by
  obtain ⟨A, c, _, h2, h3⟩ := h.at k hk
  obtain ⟨r1, _, r3⟩ := h3.rdS
  refine ⟨A, c, (hb.cell (p := ⟨g, k, none⟩) h.glt.2).trans h2, r3, (r1.below hb (Nat.le_refl _)).more hb.size, fun h0 a ha => ⟨h3.addr_ob h0 a ha, ?_⟩⟩
  obtain ⟨b', off, e, hb', _⟩ := r1.2 h0
  rw [ha] at e; injection e with e; rw [e]; exact hb'
theorem PlL.bel {W8 V : World} {o : Obj} {lo : Nat} {s : Int} {v : Value} {l : List It} (h : PlL (W8.alloc o) lo W8.heap.size s v l V) : Below W8.heap.size W8 V :=
  (below1 W8 o).trans (h.chg.below (fun k e => by omega) (by simp))
theorem plx0 (a b c : Int) (w : World) : (Instr.index 64 (.agg #[.int .i64 a, .int .i64 b, .int .i64 c]) (.int .i64 0)).run Try.prog w = .ok (.int .i64 a) w := by kernel_rfl
theorem plx1 (a b c : Int) (w : World) : (Instr.index 64 (.agg #[.int .i64 a, .int .i64 b, .int .i64 c]) (.int .i64 1)).run Try.prog w = .ok (.int .i64 b) w := by kernel_rfl
theorem plx2 (a b c : Int) (w : World) : (Instr.index 64 (.agg #[.int .i64 a, .int .i64 b, .int .i64 c]) (.int .i64 2)).run Try.prog w = .ok (.int .i64 c) w := by kernel_rfl
theorem rdb_zero {w : World} {A : Option Addr} {bs : List UInt8} (h : RdB w w.heap.size A bs) : RdBF 0 w A bs :=
  ⟨h.1, fun h0 => by obtain ⟨b, off, e, hb, hc⟩ := h.2 h0; exact ⟨b, off, e, hb, Nat.zero_le _, hc⟩⟩
set_option maxRecDepth 100000 in
set_option maxHeartbeats 6400000 in
theorem planC (W w : World) (b : Nat) (H : BH) (N : Bch) (h : BP W w b H N) (lv : List Bool) (LA : Option Addr) (ln lc : Nat) (hln : ln = lv.length) (hlv : RdOX (BF b H N.n) w LA lv)
    (l d c n : Int) (hl : i64B l) (hd : i64B d) (hc : i64B c) (hn : i64B n) (XA : Option Addr) (xn xc : Nat) (x : List UInt8) (hx : x.length = xn) (hxc : xn ≤ xc) (hr : RdB w w.heap.size XA x) (s : Int) (hs : i64B s)
    (hf : upE N lv l d c n x = 0 → fillOk l d c (plOfR l d c n) (upX N lv l d c n x) = true) :
    Calls Try.prog 10 #[.pointer (some ⟨b, 0, none⟩), .slice LA ln lc, .agg #[.int .i64 l, .int .i64 d, .int .i64 c], .int .i64 n, .slice XA xn xc, .int .i64 s] w fun e w' => ∃ A c', e = .returned (.tuple #[.agg #[.int .i64 (upS N lv l d c n x s), .slice A (upL N lv l d c n x).length c'], .int .i64 (upE N lv l d c n x)]) ∧ (upL N lv l d c n x).length ≤ c' ∧ OwIt 51 w' w.heap.size w.heap.size (.slice A (upL N lv l d c n x).length c') (upL N lv l d c n x) ∧ Below w.heap.size w w' := by
  subst hln
  have hat := h.at'
  have hvr := hlv.rdo
  have hn8 := h.at'.ok.n
  have S0 := PlB.start w l d c 24
  have CO := Lib.hid (fun W => of_any l d c n W hl hd hc hn)
  have hEE : upE N lv l d c n x = if x.length ≠ 32 then 1 else if plOfOk l d c n = false then 4 else srdE N lv l d c (plOfR l d c n) := rfl
  by_cases h32 : xn = 32
  · have e32 : ((xn : Int) != 32) = false := by rw [h32]; rfl
    rw [if_neg (by omega)] at hEE
    cases hok : plOfOk l d c n with
    | false =>
      rw [if_pos hok] at hEE
      rw [upS_no (by rw [hEE]; decide), upL_no (by rw [hEE]; decide), hEE]
      rw [hok] at CO
      clear h hat hvr hlv hf hEE hok hx hxc hr h32 hn8
      go_enter Try.func10, Try.ntmps10
      go_wp2_with fail
      (with_reducible refine (CO.out _).mono ?_); rintro e w1 ⟨rfl, hb⟩
      have S1 := S0.below hb
      clear hb S0 CO
      obtain ⟨p0, p1, pb, _⟩ := S1.put 0 (.slice none 0 0)
      obtain ⟨q0, q1, q4, q5⟩ := S1.cells
      have Hpb := Lib.hid pb
      clear S1 pb
      go_wp2
      refine bodyPost_ret (v := .tuple #[.agg #[.int .i64 0, .slice none 0 0], .int .i64 4]) (by simp [results, Try.results10, go_sem, p0, p1]) rfl ⟨none, 0, rfl, Nat.le_refl _, OwIt.nil _ _ _ _, Hpb.out⟩
    | true =>
      rw [if_neg (by rw [hok]; decide)] at hEE
      rw [hok] at CO
      obtain ⟨hT, hk, hnl, hat2, hfst, hD⟩ := nums_at hok
      have hg := plOfOk_ok hok
      obtain ⟨_, ⟨d0, d1⟩, ⟨r0, r1⟩, _⟩ := of_back hg (plOfOk_yes hok).1 (plOfOk_yes hok).2
      have hd8 := gOk_bd hg
      have CRd := Lib.hid (fun W (hb : Below w.heap.size w W) => stpRead_any _ b H N W (hat.below hb) lv LA lv.length lc rfl (hvr.keep hb.size fun p hp => hb.cell hp) l d c (plOfR l d c n) hl hd hc ⟨by omega, by omega⟩)
      by_cases hE0 : srdE N lv l d c (plOfR l d c n) = 0
      · rw [hE0] at hEE CRd
        have hfo := hf hEE
        have hlen := srdL_len hE0
        have hend := plIts_end N lv (fillL (roD d) (roF l d c (plOfR l d c n)) (upX N lv l d c n x)) hok
        have hU : upL N lv l d c n x = plIts N lv (36 + plOfR l d c n) (fillL (roD d) (roF l d c (plOfR l d c n)) (upX N lv l d c n x)) [plOfD l d c n, plP l d c (plOfR l d c n), plQ l d c (plOfR l d c n)] := by
          rw [hend]; exact if_neg (fun q => q hEE)
        have hS : upS N lv l d c n x s = s := if_neg (fun q => q hEE)
        rw [hU, hS, hEE]
        have hXl : (upX N lv l d c n x).length = roW l d := by unfold upX; rw [List.length_set]; exact hlen
        have hX : upX N lv l d c n x = (srdL N lv l d c (plOfR l d c n)).set (kOf l d c n) x := rfl
        have hFl : (fillL (roD d) (roF l d c (plOfR l d c n)) (upX N lv l d c n x)).length = d.toNat := fillL_len _ _ _
        have CF := Lib.hid (fun V (A : Option Addr) (cp : Nat) (hrd : RdR V V.heap.size A (upX N lv l d c n x)) => (show Calls Try.prog 30 #[.agg #[.int .i64 l, .int .i64 d, .int .i64 c], .int .i64 (plOfR l d c n), .slice A (roW l d) cp] V (FillYes V (fillL (roD d) (roF l d c (plOfR l d c n)) (upX N lv l d c n x))) by
          have := fill_any A (upX N lv l d c n x) (roW l d) cp l d c (plOfR l d c n) V hXl (by unfold roW; omega) hrd hl hd hc ⟨by omega, by omega⟩
          rw [roFill_yes hfo] at this
          exact this))
        have CNm := Lib.hid (fun W => numbers_any l d c (plOfR l d c n) W hl hd hc (by omega))
        have CPa := Lib.hid (fun W => parity_any l d c (plOfR l d c n) W hl hd hc (by omega))
        obtain ⟨p0, p1, q5, q6⟩ := parity_in hT
        have hlq := (gOk_yes hg).1
        have qb : -1 ≤ plQ l d c (plOfR l d c n) ∧ plQ l d c (plOfR l d c n) < d := by
          have hl56 : l = 5 ∨ l = 6 := by omega
          rcases hl56 with e | e
          · have := q5 e; omega
          · have := q6 e; omega
        have Hat2 := Lib.hid hat2
        have Hfst := Lib.hid hfst
        have Hnl := Lib.hid hnl
        have HXl := Lib.hid hXl
        have HX := Lib.hid hX
        have Hlen := Lib.hid hlen
        generalize fillL (roD d) (roF l d c (plOfR l d c n)) (upX N lv l d c n x) = Fl at CF hFl hU ⊢
        generalize upX N lv l d c n x = X at CF HX HXl
        generalize srdL N lv l d c (plOfR l d c n) = rs at CRd HX Hlen
        generalize kOf l d c n = k at hk Hat2 Hfst HX
        generalize plNums l d c (plOfR l d c n) = zs at CNm Hat2 Hfst Hnl
        generalize plOfD l d c n = own at d0 d1 CO hU ⊢
        generalize plP l d c (plOfR l d c n) = pp at p0 p1 CPa hU ⊢
        generalize plQ l d c (plOfR l d c n) = qq at qb CPa hU ⊢
        generalize plOfR l d c n = r at *
        have gw8 : roW l d ≤ 8 := by unfold roW; omega
        generalize hW : roW l d = W8 at *
        have HFl := Lib.hid hFl
        have CS := Lib.hid (fun V (hb : Below w.heap.size w V) (k : Int) (h0 : -1 ≤ k) (h1 : k < d) => alvServes_any _ b H N V (hat.below hb) lv LA lv.length lc rfl (hvr.keep hb.size fun p hp => hb.cell hp) k (by omega) (by omega))
        have HR := Lib.hid hr
        have HXn := Lib.hid hx
        have kw : IntKind.i64.wrap (36 + r) = 36 + r := by rw [IntKind.wrap_i64]; omega
        clear h hat hvr hlv hf hEE hok hxc h32 hT hg hend hU hS hfo hX hXl hlen hFl hnl hat2 hfst hD hE0 hlq q5 q6 hr hx
        go_enter Try.func10, Try.ntmps10
        go_wp2_with fail
        (with_reducible refine (CO.out _).mono ?_); rintro e w1 ⟨rfl, hb⟩
        have S1 := S0.below hb
        clear hb S0 CO
        obtain ⟨g1, g2, g3⟩ := S1.g
        have HS1 := Lib.hid S1
        go_wp2_with fail
        (with_reducible refine (CRd.out _ HS1.out.bel).mono ?_); rintro e w3 ⟨v, rfl, ho, hb3⟩
        have S3 := HS1.out.below hb3
        obtain ⟨gd, cd, rfl, hor⟩ := ho.owr (by have := Hlen.out; omega)
        have hgd : w.heap.size + 1 < gd := by have := HS1.out.lt; obtain ⟨_, _, q, _⟩ := hor; omega
        have hgl := hor.lt
        rw [Hlen.out] at hor
        obtain ⟨A1, c1, z1, _, z2⟩ := hor.cell k hk
        have Hor := Lib.hid hor
        clear ho hb3 hor g1 g2 g3 HS1 S1 CRd
        obtain ⟨g1, g2, g3⟩ := S3.g
        have HS3 := Lib.hid S3
        clear S3
        rw [Hlen.out]
        go_wp2_with fail
        (with_reducible refine (CNm.out _).mono ?_); rintro e w4 ⟨A4, c4, rfl, hr4, hb4⟩
        have hnl2 := Hnl.out
        have CI := Lib.hid (index_any A4 zs _ c4 n k w4 rfl hr4 (by omega) Hat2.out Hfst.out)
        have S4 := HS3.out.below hb4
        have y1 := (hb4.cell (p := ⟨gd, k, none⟩) hgl).trans z1
        have y2 := (hb4.frozen (p := ⟨gd, k, none⟩) hgl).trans z2
        have Hor4 := Lib.hid (Hor.out.below hb4)
        have hgl4 : gd < w4.heap.size := Nat.lt_of_lt_of_le hgl hb4.size
        clear hr4 hb4 hnl2 z1 z2 HS3 g1 g2 g3 Hor CNm
        obtain ⟨g1, g2, g3⟩ := S4.g
        have k0 : (0 : Int) ≤ (k : Int) := by omega
        have k1 : (k : Int) < (W8 : Int) := by omega
        have hgr := grown_cell w4 gd k (.slice XA xn xc)
        have S5 := S4.far hgr hgd
        obtain ⟨f1, f2, f3⟩ := S5.g
        have HR5 := Lib.hid (show RdR (w4.setCell ⟨gd, k, none⟩ (.slice XA xn xc)) (w4.setCell ⟨gd, k, none⟩ (.slice XA xn xc)).heap.size (some ⟨gd, 0, none⟩) X by
          have h1 := (Hor4.out.le (Nat.zero_le _)).set k (A := XA) (c := xc) (bs := x) (rdb_zero ((HR.out.below S4.bel (Nat.le_refl _)).more S4.bel.size)) (fun h0 a ha => by
            obtain ⟨b', off, e, hb', _⟩ := HR.out.2 h0
            rw [ha] at e; injection e with e; rw [e]; show b' ≠ gd; omega)
          rw [HXn.out, ← HX.out] at h1
          exact h1.rdr (by have := gw8; omega))
        have HS5 := Lib.hid S5
        clear S4 S5 Hor4 hgr HR
        go_wp2_with fail
        (with_reducible refine CI.out.mono ?_); rintro e w5 ⟨rfl, h5⟩
        obtain rfl : w4 = w5 := h5.symm
        clear CI h5
        go_wp2_with fail
        (with_reducible refine (CF.out _ _ _ HR5.out).mono ?_); rintro e w6 ⟨gs, ys, rfl, hq, hb6⟩
        have S6 := HS5.out.below hb6
        have hq := Lib.hid (hq.le (lo' := w.heap.size + 2) (by have := HS5.out.lt; omega))
        clear HR5 HS5 hb6 CF y1 y2 f1 f2 f3 g1 g2 g3
        obtain ⟨g1, g2, g3⟩ := S6.g
        have HS6 := Lib.hid S6
        clear S6
        go_wp2_with fail
        (with_reducible refine (CPa.out _).mono ?_); rintro e w7 ⟨rfl, hb7⟩
        have HS7 := Lib.hid (HS6.out.below hb7)
        have Hq := Lib.hid (hq.out.below hb7)
        clear hb7 HS6 hq CPa g1 g2 g3
        have HL0 := Lib.hid (PlL.start w7 (w.heap.size + 2) s)
        have Hlo := Lib.hid (show w.heap.size + 2 ≤ w7.heap.size from HS7.out.lt)
        go_wp2
        generalize hw9 : w7.alloc (.cells #[.int .i64 s, .slice none 0 0] 36) = w9 at HL0 ⊢
        have Hb9 := Lib.hid (fun (v : Value) (l : List It) V (hL : PlL w9 (w.heap.size + 2) w7.heap.size s v l V) => PlL.bel (hw9.symm ▸ hL))
        have Hp9 := Lib.hid (show w7.heap.size < w9.heap.size by rw [← hw9]; simp)
        clear hw9
        go_loopw [79] (fun i wr => ∃ j : Nat, j ≤ 3 ∧ i = .int .i64 j ∧ ∃ v, PlL w9 (w.heap.size + 2) w7.heap.size s v (plIts N lv (36 + r) Fl ([own, pp, qq].take j)) wr) (fun i _ => 3 - (intOf i).toNat)
        case atStart => exact ⟨0, by omega, rfl, _, HL0.out⟩
        case round =>
          obtain ⟨j, hj, rfl, v, hL⟩ := hrel
          have HL := Lib.hid hL
          clear hL HL0
          have hj4 : j = 0 ∨ j = 1 ∨ j = 2 ∨ j = 3 := by omega
          rcases hj4 with rfl | rfl | rfl | rfl
          · have CSj := CS.out wr ((HS7.out.below (Hb9.out _ _ _ HL.out)).bel) own (by omega) (by omega)
            have hsn := plIts_snoc N lv (36 + r) Fl ([own, pp, qq].take 0) own
            have htk : [own, pp, qq].take (0 + 1) = [own, pp, qq].take 0 ++ [own] := rfl
            have hlt := plIts_len N lv (36 + r) Fl ([own, pp, qq].take 0)
            have hl3 : ([own, pp, qq].take 0).length ≤ 3 := by simp
            cases hx : alvS N lv own with
            | false =>
              rw [hx] at CSj
              rw [hx, if_neg (by decide), ← htk] at hsn
              have Hsn := Lib.hid hsn
              have CSj := Lib.hid CSj
              clear hx hsn htk hlt hl3
              have hix := plx0 own pp qq wr
              go_wp2_with (go_at_call 32; (with_reducible refine CSj.out.mono ?_); rintro e w5 ⟨rfl, h5⟩; obtain rfl : wr = w5 := h5.symm)
              go_roundw
              case rel => exact ⟨0 + 1, by omega, by go_num, v, by rw [Hsn.out]; exact HL.out⟩
              case measure => simp [intOf]
            | true =>
              rw [hx] at CSj
              rw [hx, if_pos rfl, ← htk] at hsn
              have CSj := Lib.hid CSj
              have ha := alvS_yes hx
              clear hx htk
              obtain ⟨m, hm⟩ := Int.eq_ofNat_of_zero_le ha.1
              have hmF : m < Fl.length := by have := HFl.out; omega
              subst hm
              rw [Int.toNat_natCast] at hsn
              have Hsn := Lib.hid hsn
              clear hsn
              generalize plIts N lv (36 + r) Fl ([((m : Nat) : Int), pp, qq].take 0) = its at *
              obtain ⟨A5, c5, z1, z2, z3, z4⟩ := rq_chg Hq.out (Hb9.out _ _ _ HL.out) m hmF
              have HC := Lib.hid (show ∀ V, Below w7.heap.size w7 V → V.cell? ⟨gs, m, none⟩ = some (.slice A5 (Fl.getD m []).length c5) by
                intro V hV
                obtain ⟨A6, c6, k1, _⟩ := rq_chg Hq.out (Below.refl _ _) m hmF
                have k2 := ((Hb9.out _ _ _ HL.out).cell (p := ⟨gs, m, none⟩) Hq.out.glt.2).trans k1
                have k3 := (hV.cell (p := ⟨gs, m, none⟩) Hq.out.glt.2).trans k1
                rw [z1] at k2
                exact k3.trans k2.symm)
              have Hz2 := Lib.hid z2
              have Hz3 := Lib.hid z3
              have Hz4 := Lib.hid z4
              have m0 : (0 : Int) ≤ (m : Int) := by omega
              have m1 : (m : Int) < (Fl.length : Int) := by omega
              clear z1 z2 z3 z4 ha hmF
              generalize Fl.getD m [] = y at HC Hz2 Hz3 Hz4 Hsn
              have hix := plx0 ((m : Nat) : Int) pp qq wr
              go_wp2_with (go_at_call 32; (with_reducible refine CSj.out.mono ?_); rintro e w5 ⟨rfl, h5⟩; obtain rfl : wr = w5 := h5.symm)
              refine wp_region_noPanic (region_ord 11 [] (fun V => PlL w9 (w.heap.size + 2) w7.heap.size s v its V) (by kernel_rfl) (by kernel_rfl) (fun _ _ _ _ _ h => h) fun R => ?_)
              change anyI _ _ _ _ _ _ 14 _ _ wr.drew
              have HS0 := Lib.hid (show (fun V => PlL w9 (w.heap.size + 2) w7.heap.size s v its V) wr.drew from PlL.drew HL.out)
              refine' anyI_take R 0 rfl (v := ?_) (by kernel_rfl) (by rfl) (fun V hV => ?hy) HS0.out ?_
              case hy => ((try dsimp only at hV);  have qk := HC.out V (Hb9.out _ _ _ hV); have p1 := hV.c1; go_simp; try with_reducible rfl)
              try simp only [Act.put, List.getElem_toArray, List.getElem_cons_succ, List.getElem_cons_zero, List.setIfInBounds_toArray, List.set_cons_zero, List.set_cons_succ]
              refine' anyI_take R 1 rfl (v := ?_) (by kernel_rfl) (by rfl) (fun V hV => ?hy) HS0.out ?_
              case hy => ((try dsimp only at hV);  have qk := HC.out V (Hb9.out _ _ _ hV); have p1 := hV.c1; go_simp; try with_reducible rfl)
              try simp only [Act.put, List.getElem_toArray, List.getElem_cons_succ, List.getElem_cons_zero, List.setIfInBounds_toArray, List.set_cons_zero, List.set_cons_succ]
              refine' anyI_take R 2 rfl (v := ?_) (by kernel_rfl) (by rfl) (fun V hV => ?hy) HS0.out ?_
              case hy => ((try dsimp only at hV);  have qk := HC.out V (Hb9.out _ _ _ hV); have p1 := hV.c1; go_simp; try with_reducible rfl)
              try simp only [Act.put, List.getElem_toArray, List.getElem_cons_succ, List.getElem_cons_zero, List.setIfInBounds_toArray, List.set_cons_zero, List.set_cons_succ]
              refine' anyI_take R 3 rfl (v := ?_) (by kernel_rfl) (by rfl) (fun V hV => ?hy) HS0.out ?_
              case hy => ((try dsimp only at hV);  have qk := HC.out V (Hb9.out _ _ _ hV); have p1 := hV.c1; go_simp; try with_reducible rfl)
              try simp only [Act.put, List.getElem_toArray, List.getElem_cons_succ, List.getElem_cons_zero, List.setIfInBounds_toArray, List.set_cons_zero, List.set_cons_succ]
              refine' anyI_take R 4 rfl (v := ?_) (by kernel_rfl) (by rfl) (fun V hV => ?hy) HS0.out ?_
              case hy => ((try dsimp only at hV);  have qk := HC.out V (Hb9.out _ _ _ hV); have p1 := hV.c1; go_simp; try with_reducible rfl)
              try simp only [Act.put, List.getElem_toArray, List.getElem_cons_succ, List.getElem_cons_zero, List.setIfInBounds_toArray, List.set_cons_zero, List.set_cons_succ]
              refine' anyI_take R 5 rfl (v := ?_) (by kernel_rfl) (by rfl) (fun V hV => ?hy) HS0.out ?_
              case hy => ((try dsimp only at hV);  have qk := HC.out V (Hb9.out _ _ _ hV); have p1 := hV.c1; go_simp; try with_reducible rfl)
              try simp only [Act.put, List.getElem_toArray, List.getElem_cons_succ, List.getElem_cons_zero, List.setIfInBounds_toArray, List.set_cons_zero, List.set_cons_succ]
              refine' anyI_take R 6 rfl (v := ?_) (by kernel_rfl) (by rfl) (fun V hV => ?hy) HS0.out ?_
              case hy => ((try dsimp only at hV);  have qk := HC.out V (Hb9.out _ _ _ hV); have p1 := hV.c1; go_simp; try with_reducible rfl)
              try simp only [Act.put, List.getElem_toArray, List.getElem_cons_succ, List.getElem_cons_zero, List.setIfInBounds_toArray, List.set_cons_zero, List.set_cons_succ]
              refine' anyI_take R 7 rfl (v := ?_) (by kernel_rfl) (by rfl) (fun V hV => ?hy) HS0.out ?_
              case hy => ((try dsimp only at hV);  have qk := HC.out V (Hb9.out _ _ _ hV); have p1 := hV.c1; go_simp; try with_reducible rfl)
              try simp only [Act.put, List.getElem_toArray, List.getElem_cons_succ, List.getElem_cons_zero, List.setIfInBounds_toArray, List.set_cons_zero, List.set_cons_succ]
              refine' anyI_take R 8 rfl (v := ?_) (by kernel_rfl) (by rfl) (fun V hV => ?hy) HS0.out ?_
              case hy => ((try dsimp only at hV);  have qk := HC.out V (Hb9.out _ _ _ hV); have p1 := hV.c1; go_simp; try with_reducible rfl)
              try simp only [Act.put, List.getElem_toArray, List.getElem_cons_succ, List.getElem_cons_zero, List.setIfInBounds_toArray, List.set_cons_zero, List.set_cons_succ]
              refine' anyI_take R 9 rfl (v := ?_) (by kernel_rfl) (by rfl) (fun V hV => ?hy) HS0.out ?_
              case hy => ((try dsimp only at hV);  have qk := HC.out V (Hb9.out _ _ _ hV); have p1 := hV.c1; go_simp; try with_reducible rfl)
              try simp only [Act.put, List.getElem_toArray, List.getElem_cons_succ, List.getElem_cons_zero, List.setIfInBounds_toArray, List.set_cons_zero, List.set_cons_succ]
              refine anyI_one 10 (by kernel_rfl) rfl ?_
              try simp only [List.getElem_toArray, List.getElem_cons_succ, List.getElem_cons_zero]
              refine opE_step ?_
              rw [if_pos (by rfl)]
              go_simp
              replace HS0 := Lib.hid (PlL.drew (PlL.below HL.out (below1 wr (.cells #[.int .i64 ((m : Nat) : Int), .int .i64 (36 + r), .slice A5 y.length c5] 51))))
              try dsimp only
              refine ⟨HS0.out, ?_⟩
              try simp only [Act.put, List.getElem_toArray, List.getElem_cons_succ, List.getElem_cons_zero, List.setIfInBounds_toArray, List.set_cons_zero, List.set_cons_succ]
              refine anyI_tail (by kernel_rfl) ?_
              try simp only [List.drop_succ_cons, List.drop_zero]
              clear R
              have HA := Lib.hid HS0.out
              have HN := Lib.hid (fun ob (hob : ob = v.ownBlock) => src_oneP (w := (wr.alloc (.cells #[.int .i64 ((m : Nat) : Int), .int .i64 (36 + r), .slice A5 y.length c5] 51)).drew) (P := fun k => w.heap.size + 2 ≤ k ∧ k < w7.heap.size) (g := wr.heap.size) (ob := ob) (x := ⟨((m : Nat) : Int), 36 + r, y⟩) (D := A5) (c := c5) (show (wr.alloc (.cells #[.int .i64 ((m : Nat) : Int), .int .i64 (36 + r), .slice A5 y.length c5] 51)).heap[wr.heap.size]? = _ from heap_alloc_new _ _) ((Hz3.out.below (below1 wr (.cells #[.int .i64 ((m : Nat) : Int), .int .i64 (36 + r), .slice A5 y.length c5] 51)).drew (Nat.le_refl _)).more (by show _ ≤ (wr.alloc _).heap.size; simp)) Hz2.out (fun h0 a ha => by
                refine ⟨fun e => ?_, Hz4.out h0 a ha⟩
                rw [hob] at e
                have h1 := (HL.out.own.lt _ e.symm).1
                have h2 := (Hz4.out h0 a ha).2
                have := Hp9.out
                omega))
              go_wp2_with (
                ((with_reducible refine (id ?_ : wpList _ _ _ (⟨some 97, _, _, _, _, _⟩ :: _) _ _)); refine wpList_append_P _ _ (by rfl) _ _ _ (by rfl) w9.heap.size 51 Try.underlying34 infoI v _ (by rfl) HA.out.own (some ⟨wr.heap.size, 0, none⟩) 1 1 _ (by rfl) (by rfl) (HN.out _ rfl) (by show _ + 1 ≤ _; omega) HA.out.chg.size ?_
                 intro v4 w4 O4 g4 _
                 obtain ⟨A4, c4, rfl, _, _⟩ := O4.rd (F := fun _ => False) (fun _ _ q => q) (fun _ _ q => q)
                 obtain ⟨q1, q2, q3⟩ := HA.out.app Hp9.out g4 O4
                 have HL4 := Lib.hid q3
                 rw [show (its ++ [(⟨((m : Nat) : Int), 36 + r, y⟩ : It)]).length = its.length + 1 from List.length_append] at HL4
                 clear O4 g4 q3))
              refine NoPanic.normal ?_
              go_wp2
              go_roundw
              case rel => exact ⟨0 + 1, by omega, by go_num, _, by rw [Hsn.out]; exact HL4.out⟩
              case measure => simp [intOf]
          · have CSj := CS.out wr ((HS7.out.below (Hb9.out _ _ _ HL.out)).bel) pp (by omega) (by omega)
            have hsn := plIts_snoc N lv (36 + r) Fl ([own, pp, qq].take 1) pp
            have htk : [own, pp, qq].take (1 + 1) = [own, pp, qq].take 1 ++ [pp] := rfl
            have hlt := plIts_len N lv (36 + r) Fl ([own, pp, qq].take 1)
            have hl3 : ([own, pp, qq].take 1).length ≤ 3 := by simp
            cases hx : alvS N lv pp with
            | false =>
              rw [hx] at CSj
              rw [hx, if_neg (by decide), ← htk] at hsn
              have Hsn := Lib.hid hsn
              have CSj := Lib.hid CSj
              clear hx hsn htk hlt hl3
              have hix := plx1 own pp qq wr
              go_wp2_with (go_at_call 32; (with_reducible refine CSj.out.mono ?_); rintro e w5 ⟨rfl, h5⟩; obtain rfl : wr = w5 := h5.symm)
              go_roundw
              case rel => exact ⟨1 + 1, by omega, by go_num, v, by rw [Hsn.out]; exact HL.out⟩
              case measure => simp [intOf]
            | true =>
              rw [hx] at CSj
              rw [hx, if_pos rfl, ← htk] at hsn
              have CSj := Lib.hid CSj
              have ha := alvS_yes hx
              clear hx htk
              obtain ⟨m, hm⟩ := Int.eq_ofNat_of_zero_le ha.1
              have hmF : m < Fl.length := by have := HFl.out; omega
              subst hm
              rw [Int.toNat_natCast] at hsn
              have Hsn := Lib.hid hsn
              clear hsn
              generalize plIts N lv (36 + r) Fl ([own, ((m : Nat) : Int), qq].take 1) = its at *
              obtain ⟨A5, c5, z1, z2, z3, z4⟩ := rq_chg Hq.out (Hb9.out _ _ _ HL.out) m hmF
              have HC := Lib.hid (show ∀ V, Below w7.heap.size w7 V → V.cell? ⟨gs, m, none⟩ = some (.slice A5 (Fl.getD m []).length c5) by
                intro V hV
                obtain ⟨A6, c6, k1, _⟩ := rq_chg Hq.out (Below.refl _ _) m hmF
                have k2 := ((Hb9.out _ _ _ HL.out).cell (p := ⟨gs, m, none⟩) Hq.out.glt.2).trans k1
                have k3 := (hV.cell (p := ⟨gs, m, none⟩) Hq.out.glt.2).trans k1
                rw [z1] at k2
                exact k3.trans k2.symm)
              have Hz2 := Lib.hid z2
              have Hz3 := Lib.hid z3
              have Hz4 := Lib.hid z4
              have m0 : (0 : Int) ≤ (m : Int) := by omega
              have m1 : (m : Int) < (Fl.length : Int) := by omega
              clear z1 z2 z3 z4 ha hmF
              generalize Fl.getD m [] = y at HC Hz2 Hz3 Hz4 Hsn
              have hix := plx1 own ((m : Nat) : Int) qq wr
              go_wp2_with (go_at_call 32; (with_reducible refine CSj.out.mono ?_); rintro e w5 ⟨rfl, h5⟩; obtain rfl : wr = w5 := h5.symm)
              refine wp_region_noPanic (region_ord 11 [] (fun V => PlL w9 (w.heap.size + 2) w7.heap.size s v its V) (by kernel_rfl) (by kernel_rfl) (fun _ _ _ _ _ h => h) fun R => ?_)
              change anyI _ _ _ _ _ _ 14 _ _ wr.drew
              have HS0 := Lib.hid (show (fun V => PlL w9 (w.heap.size + 2) w7.heap.size s v its V) wr.drew from PlL.drew HL.out)
              refine' anyI_take R 0 rfl (v := ?_) (by kernel_rfl) (by rfl) (fun V hV => ?hy) HS0.out ?_
              case hy => ((try dsimp only at hV);  have qk := HC.out V (Hb9.out _ _ _ hV); have p1 := hV.c1; go_simp; try with_reducible rfl)
              try simp only [Act.put, List.getElem_toArray, List.getElem_cons_succ, List.getElem_cons_zero, List.setIfInBounds_toArray, List.set_cons_zero, List.set_cons_succ]
              refine' anyI_take R 1 rfl (v := ?_) (by kernel_rfl) (by rfl) (fun V hV => ?hy) HS0.out ?_
              case hy => ((try dsimp only at hV);  have qk := HC.out V (Hb9.out _ _ _ hV); have p1 := hV.c1; go_simp; try with_reducible rfl)
              try simp only [Act.put, List.getElem_toArray, List.getElem_cons_succ, List.getElem_cons_zero, List.setIfInBounds_toArray, List.set_cons_zero, List.set_cons_succ]
              refine' anyI_take R 2 rfl (v := ?_) (by kernel_rfl) (by rfl) (fun V hV => ?hy) HS0.out ?_
              case hy => ((try dsimp only at hV);  have qk := HC.out V (Hb9.out _ _ _ hV); have p1 := hV.c1; go_simp; try with_reducible rfl)
              try simp only [Act.put, List.getElem_toArray, List.getElem_cons_succ, List.getElem_cons_zero, List.setIfInBounds_toArray, List.set_cons_zero, List.set_cons_succ]
              refine' anyI_take R 3 rfl (v := ?_) (by kernel_rfl) (by rfl) (fun V hV => ?hy) HS0.out ?_
              case hy => ((try dsimp only at hV);  have qk := HC.out V (Hb9.out _ _ _ hV); have p1 := hV.c1; go_simp; try with_reducible rfl)
              try simp only [Act.put, List.getElem_toArray, List.getElem_cons_succ, List.getElem_cons_zero, List.setIfInBounds_toArray, List.set_cons_zero, List.set_cons_succ]
              refine' anyI_take R 4 rfl (v := ?_) (by kernel_rfl) (by rfl) (fun V hV => ?hy) HS0.out ?_
              case hy => ((try dsimp only at hV);  have qk := HC.out V (Hb9.out _ _ _ hV); have p1 := hV.c1; go_simp; try with_reducible rfl)
              try simp only [Act.put, List.getElem_toArray, List.getElem_cons_succ, List.getElem_cons_zero, List.setIfInBounds_toArray, List.set_cons_zero, List.set_cons_succ]
              refine' anyI_take R 5 rfl (v := ?_) (by kernel_rfl) (by rfl) (fun V hV => ?hy) HS0.out ?_
              case hy => ((try dsimp only at hV);  have qk := HC.out V (Hb9.out _ _ _ hV); have p1 := hV.c1; go_simp; try with_reducible rfl)
              try simp only [Act.put, List.getElem_toArray, List.getElem_cons_succ, List.getElem_cons_zero, List.setIfInBounds_toArray, List.set_cons_zero, List.set_cons_succ]
              refine' anyI_take R 6 rfl (v := ?_) (by kernel_rfl) (by rfl) (fun V hV => ?hy) HS0.out ?_
              case hy => ((try dsimp only at hV);  have qk := HC.out V (Hb9.out _ _ _ hV); have p1 := hV.c1; go_simp; try with_reducible rfl)
              try simp only [Act.put, List.getElem_toArray, List.getElem_cons_succ, List.getElem_cons_zero, List.setIfInBounds_toArray, List.set_cons_zero, List.set_cons_succ]
              refine' anyI_take R 7 rfl (v := ?_) (by kernel_rfl) (by rfl) (fun V hV => ?hy) HS0.out ?_
              case hy => ((try dsimp only at hV);  have qk := HC.out V (Hb9.out _ _ _ hV); have p1 := hV.c1; go_simp; try with_reducible rfl)
              try simp only [Act.put, List.getElem_toArray, List.getElem_cons_succ, List.getElem_cons_zero, List.setIfInBounds_toArray, List.set_cons_zero, List.set_cons_succ]
              refine' anyI_take R 8 rfl (v := ?_) (by kernel_rfl) (by rfl) (fun V hV => ?hy) HS0.out ?_
              case hy => ((try dsimp only at hV);  have qk := HC.out V (Hb9.out _ _ _ hV); have p1 := hV.c1; go_simp; try with_reducible rfl)
              try simp only [Act.put, List.getElem_toArray, List.getElem_cons_succ, List.getElem_cons_zero, List.setIfInBounds_toArray, List.set_cons_zero, List.set_cons_succ]
              refine' anyI_take R 9 rfl (v := ?_) (by kernel_rfl) (by rfl) (fun V hV => ?hy) HS0.out ?_
              case hy => ((try dsimp only at hV);  have qk := HC.out V (Hb9.out _ _ _ hV); have p1 := hV.c1; go_simp; try with_reducible rfl)
              try simp only [Act.put, List.getElem_toArray, List.getElem_cons_succ, List.getElem_cons_zero, List.setIfInBounds_toArray, List.set_cons_zero, List.set_cons_succ]
              refine anyI_one 10 (by kernel_rfl) rfl ?_
              try simp only [List.getElem_toArray, List.getElem_cons_succ, List.getElem_cons_zero]
              refine opE_step ?_
              rw [if_pos (by rfl)]
              go_simp
              replace HS0 := Lib.hid (PlL.drew (PlL.below HL.out (below1 wr (.cells #[.int .i64 ((m : Nat) : Int), .int .i64 (36 + r), .slice A5 y.length c5] 51))))
              try dsimp only
              refine ⟨HS0.out, ?_⟩
              try simp only [Act.put, List.getElem_toArray, List.getElem_cons_succ, List.getElem_cons_zero, List.setIfInBounds_toArray, List.set_cons_zero, List.set_cons_succ]
              refine anyI_tail (by kernel_rfl) ?_
              try simp only [List.drop_succ_cons, List.drop_zero]
              clear R
              have HA := Lib.hid HS0.out
              have HN := Lib.hid (fun ob (hob : ob = v.ownBlock) => src_oneP (w := (wr.alloc (.cells #[.int .i64 ((m : Nat) : Int), .int .i64 (36 + r), .slice A5 y.length c5] 51)).drew) (P := fun k => w.heap.size + 2 ≤ k ∧ k < w7.heap.size) (g := wr.heap.size) (ob := ob) (x := ⟨((m : Nat) : Int), 36 + r, y⟩) (D := A5) (c := c5) (show (wr.alloc (.cells #[.int .i64 ((m : Nat) : Int), .int .i64 (36 + r), .slice A5 y.length c5] 51)).heap[wr.heap.size]? = _ from heap_alloc_new _ _) ((Hz3.out.below (below1 wr (.cells #[.int .i64 ((m : Nat) : Int), .int .i64 (36 + r), .slice A5 y.length c5] 51)).drew (Nat.le_refl _)).more (by show _ ≤ (wr.alloc _).heap.size; simp)) Hz2.out (fun h0 a ha => by
                refine ⟨fun e => ?_, Hz4.out h0 a ha⟩
                rw [hob] at e
                have h1 := (HL.out.own.lt _ e.symm).1
                have h2 := (Hz4.out h0 a ha).2
                have := Hp9.out
                omega))
              go_wp2_with (
                ((with_reducible refine (id ?_ : wpList _ _ _ (⟨some 97, _, _, _, _, _⟩ :: _) _ _)); refine wpList_append_P _ _ (by rfl) _ _ _ (by rfl) w9.heap.size 51 Try.underlying34 infoI v _ (by rfl) HA.out.own (some ⟨wr.heap.size, 0, none⟩) 1 1 _ (by rfl) (by rfl) (HN.out _ rfl) (by show _ + 1 ≤ _; omega) HA.out.chg.size ?_
                 intro v4 w4 O4 g4 _
                 obtain ⟨A4, c4, rfl, _, _⟩ := O4.rd (F := fun _ => False) (fun _ _ q => q) (fun _ _ q => q)
                 obtain ⟨q1, q2, q3⟩ := HA.out.app Hp9.out g4 O4
                 have HL4 := Lib.hid q3
                 rw [show (its ++ [(⟨((m : Nat) : Int), 36 + r, y⟩ : It)]).length = its.length + 1 from List.length_append] at HL4
                 clear O4 g4 q3))
              refine NoPanic.normal ?_
              go_wp2
              go_roundw
              case rel => exact ⟨1 + 1, by omega, by go_num, _, by rw [Hsn.out]; exact HL4.out⟩
              case measure => simp [intOf]
          · have CSj := CS.out wr ((HS7.out.below (Hb9.out _ _ _ HL.out)).bel) qq (by omega) (by omega)
            have hsn := plIts_snoc N lv (36 + r) Fl ([own, pp, qq].take 2) qq
            have htk : [own, pp, qq].take (2 + 1) = [own, pp, qq].take 2 ++ [qq] := rfl
            have hlt := plIts_len N lv (36 + r) Fl ([own, pp, qq].take 2)
            have hl3 : ([own, pp, qq].take 2).length ≤ 3 := by simp
            cases hx : alvS N lv qq with
            | false =>
              rw [hx] at CSj
              rw [hx, if_neg (by decide), ← htk] at hsn
              have Hsn := Lib.hid hsn
              have CSj := Lib.hid CSj
              clear hx hsn htk hlt hl3
              have hix := plx2 own pp qq wr
              go_wp2_with (go_at_call 32; (with_reducible refine CSj.out.mono ?_); rintro e w5 ⟨rfl, h5⟩; obtain rfl : wr = w5 := h5.symm)
              go_roundw
              case rel => exact ⟨2 + 1, by omega, by go_num, v, by rw [Hsn.out]; exact HL.out⟩
              case measure => simp [intOf]
            | true =>
              rw [hx] at CSj
              rw [hx, if_pos rfl, ← htk] at hsn
              have CSj := Lib.hid CSj
              have ha := alvS_yes hx
              clear hx htk
              obtain ⟨m, hm⟩ := Int.eq_ofNat_of_zero_le ha.1
              have hmF : m < Fl.length := by have := HFl.out; omega
              subst hm
              rw [Int.toNat_natCast] at hsn
              have Hsn := Lib.hid hsn
              clear hsn
              generalize plIts N lv (36 + r) Fl ([own, pp, ((m : Nat) : Int)].take 2) = its at *
              obtain ⟨A5, c5, z1, z2, z3, z4⟩ := rq_chg Hq.out (Hb9.out _ _ _ HL.out) m hmF
              have HC := Lib.hid (show ∀ V, Below w7.heap.size w7 V → V.cell? ⟨gs, m, none⟩ = some (.slice A5 (Fl.getD m []).length c5) by
                intro V hV
                obtain ⟨A6, c6, k1, _⟩ := rq_chg Hq.out (Below.refl _ _) m hmF
                have k2 := ((Hb9.out _ _ _ HL.out).cell (p := ⟨gs, m, none⟩) Hq.out.glt.2).trans k1
                have k3 := (hV.cell (p := ⟨gs, m, none⟩) Hq.out.glt.2).trans k1
                rw [z1] at k2
                exact k3.trans k2.symm)
              have Hz2 := Lib.hid z2
              have Hz3 := Lib.hid z3
              have Hz4 := Lib.hid z4
              have m0 : (0 : Int) ≤ (m : Int) := by omega
              have m1 : (m : Int) < (Fl.length : Int) := by omega
              clear z1 z2 z3 z4 ha hmF
              generalize Fl.getD m [] = y at HC Hz2 Hz3 Hz4 Hsn
              have hix := plx2 own pp ((m : Nat) : Int) wr
              go_wp2_with (go_at_call 32; (with_reducible refine CSj.out.mono ?_); rintro e w5 ⟨rfl, h5⟩; obtain rfl : wr = w5 := h5.symm)
              refine wp_region_noPanic (region_ord 11 [] (fun V => PlL w9 (w.heap.size + 2) w7.heap.size s v its V) (by kernel_rfl) (by kernel_rfl) (fun _ _ _ _ _ h => h) fun R => ?_)
              change anyI _ _ _ _ _ _ 14 _ _ wr.drew
              have HS0 := Lib.hid (show (fun V => PlL w9 (w.heap.size + 2) w7.heap.size s v its V) wr.drew from PlL.drew HL.out)
              refine' anyI_take R 0 rfl (v := ?_) (by kernel_rfl) (by rfl) (fun V hV => ?hy) HS0.out ?_
              case hy => ((try dsimp only at hV);  have qk := HC.out V (Hb9.out _ _ _ hV); have p1 := hV.c1; go_simp; try with_reducible rfl)
              try simp only [Act.put, List.getElem_toArray, List.getElem_cons_succ, List.getElem_cons_zero, List.setIfInBounds_toArray, List.set_cons_zero, List.set_cons_succ]
              refine' anyI_take R 1 rfl (v := ?_) (by kernel_rfl) (by rfl) (fun V hV => ?hy) HS0.out ?_
              case hy => ((try dsimp only at hV);  have qk := HC.out V (Hb9.out _ _ _ hV); have p1 := hV.c1; go_simp; try with_reducible rfl)
              try simp only [Act.put, List.getElem_toArray, List.getElem_cons_succ, List.getElem_cons_zero, List.setIfInBounds_toArray, List.set_cons_zero, List.set_cons_succ]
              refine' anyI_take R 2 rfl (v := ?_) (by kernel_rfl) (by rfl) (fun V hV => ?hy) HS0.out ?_
              case hy => ((try dsimp only at hV);  have qk := HC.out V (Hb9.out _ _ _ hV); have p1 := hV.c1; go_simp; try with_reducible rfl)
              try simp only [Act.put, List.getElem_toArray, List.getElem_cons_succ, List.getElem_cons_zero, List.setIfInBounds_toArray, List.set_cons_zero, List.set_cons_succ]
              refine' anyI_take R 3 rfl (v := ?_) (by kernel_rfl) (by rfl) (fun V hV => ?hy) HS0.out ?_
              case hy => ((try dsimp only at hV);  have qk := HC.out V (Hb9.out _ _ _ hV); have p1 := hV.c1; go_simp; try with_reducible rfl)
              try simp only [Act.put, List.getElem_toArray, List.getElem_cons_succ, List.getElem_cons_zero, List.setIfInBounds_toArray, List.set_cons_zero, List.set_cons_succ]
              refine' anyI_take R 4 rfl (v := ?_) (by kernel_rfl) (by rfl) (fun V hV => ?hy) HS0.out ?_
              case hy => ((try dsimp only at hV);  have qk := HC.out V (Hb9.out _ _ _ hV); have p1 := hV.c1; go_simp; try with_reducible rfl)
              try simp only [Act.put, List.getElem_toArray, List.getElem_cons_succ, List.getElem_cons_zero, List.setIfInBounds_toArray, List.set_cons_zero, List.set_cons_succ]
              refine' anyI_take R 5 rfl (v := ?_) (by kernel_rfl) (by rfl) (fun V hV => ?hy) HS0.out ?_
              case hy => ((try dsimp only at hV);  have qk := HC.out V (Hb9.out _ _ _ hV); have p1 := hV.c1; go_simp; try with_reducible rfl)
              try simp only [Act.put, List.getElem_toArray, List.getElem_cons_succ, List.getElem_cons_zero, List.setIfInBounds_toArray, List.set_cons_zero, List.set_cons_succ]
              refine' anyI_take R 6 rfl (v := ?_) (by kernel_rfl) (by rfl) (fun V hV => ?hy) HS0.out ?_
              case hy => ((try dsimp only at hV);  have qk := HC.out V (Hb9.out _ _ _ hV); have p1 := hV.c1; go_simp; try with_reducible rfl)
              try simp only [Act.put, List.getElem_toArray, List.getElem_cons_succ, List.getElem_cons_zero, List.setIfInBounds_toArray, List.set_cons_zero, List.set_cons_succ]
              refine' anyI_take R 7 rfl (v := ?_) (by kernel_rfl) (by rfl) (fun V hV => ?hy) HS0.out ?_
              case hy => ((try dsimp only at hV);  have qk := HC.out V (Hb9.out _ _ _ hV); have p1 := hV.c1; go_simp; try with_reducible rfl)
              try simp only [Act.put, List.getElem_toArray, List.getElem_cons_succ, List.getElem_cons_zero, List.setIfInBounds_toArray, List.set_cons_zero, List.set_cons_succ]
              refine' anyI_take R 8 rfl (v := ?_) (by kernel_rfl) (by rfl) (fun V hV => ?hy) HS0.out ?_
              case hy => ((try dsimp only at hV);  have qk := HC.out V (Hb9.out _ _ _ hV); have p1 := hV.c1; go_simp; try with_reducible rfl)
              try simp only [Act.put, List.getElem_toArray, List.getElem_cons_succ, List.getElem_cons_zero, List.setIfInBounds_toArray, List.set_cons_zero, List.set_cons_succ]
              refine' anyI_take R 9 rfl (v := ?_) (by kernel_rfl) (by rfl) (fun V hV => ?hy) HS0.out ?_
              case hy => ((try dsimp only at hV);  have qk := HC.out V (Hb9.out _ _ _ hV); have p1 := hV.c1; go_simp; try with_reducible rfl)
              try simp only [Act.put, List.getElem_toArray, List.getElem_cons_succ, List.getElem_cons_zero, List.setIfInBounds_toArray, List.set_cons_zero, List.set_cons_succ]
              refine anyI_one 10 (by kernel_rfl) rfl ?_
              try simp only [List.getElem_toArray, List.getElem_cons_succ, List.getElem_cons_zero]
              refine opE_step ?_
              rw [if_pos (by rfl)]
              go_simp
              replace HS0 := Lib.hid (PlL.drew (PlL.below HL.out (below1 wr (.cells #[.int .i64 ((m : Nat) : Int), .int .i64 (36 + r), .slice A5 y.length c5] 51))))
              try dsimp only
              refine ⟨HS0.out, ?_⟩
              try simp only [Act.put, List.getElem_toArray, List.getElem_cons_succ, List.getElem_cons_zero, List.setIfInBounds_toArray, List.set_cons_zero, List.set_cons_succ]
              refine anyI_tail (by kernel_rfl) ?_
              try simp only [List.drop_succ_cons, List.drop_zero]
              clear R
              have HA := Lib.hid HS0.out
              have HN := Lib.hid (fun ob (hob : ob = v.ownBlock) => src_oneP (w := (wr.alloc (.cells #[.int .i64 ((m : Nat) : Int), .int .i64 (36 + r), .slice A5 y.length c5] 51)).drew) (P := fun k => w.heap.size + 2 ≤ k ∧ k < w7.heap.size) (g := wr.heap.size) (ob := ob) (x := ⟨((m : Nat) : Int), 36 + r, y⟩) (D := A5) (c := c5) (show (wr.alloc (.cells #[.int .i64 ((m : Nat) : Int), .int .i64 (36 + r), .slice A5 y.length c5] 51)).heap[wr.heap.size]? = _ from heap_alloc_new _ _) ((Hz3.out.below (below1 wr (.cells #[.int .i64 ((m : Nat) : Int), .int .i64 (36 + r), .slice A5 y.length c5] 51)).drew (Nat.le_refl _)).more (by show _ ≤ (wr.alloc _).heap.size; simp)) Hz2.out (fun h0 a ha => by
                refine ⟨fun e => ?_, Hz4.out h0 a ha⟩
                rw [hob] at e
                have h1 := (HL.out.own.lt _ e.symm).1
                have h2 := (Hz4.out h0 a ha).2
                have := Hp9.out
                omega))
              go_wp2_with (
                ((with_reducible refine (id ?_ : wpList _ _ _ (⟨some 97, _, _, _, _, _⟩ :: _) _ _)); refine wpList_append_P _ _ (by rfl) _ _ _ (by rfl) w9.heap.size 51 Try.underlying34 infoI v _ (by rfl) HA.out.own (some ⟨wr.heap.size, 0, none⟩) 1 1 _ (by rfl) (by rfl) (HN.out _ rfl) (by show _ + 1 ≤ _; omega) HA.out.chg.size ?_
                 intro v4 w4 O4 g4 _
                 obtain ⟨A4, c4, rfl, _, _⟩ := O4.rd (F := fun _ => False) (fun _ _ q => q) (fun _ _ q => q)
                 obtain ⟨q1, q2, q3⟩ := HA.out.app Hp9.out g4 O4
                 have HL4 := Lib.hid q3
                 rw [show (its ++ [(⟨((m : Nat) : Int), 36 + r, y⟩ : It)]).length = its.length + 1 from List.length_append] at HL4
                 clear O4 g4 q3))
              refine NoPanic.normal ?_
              go_wp2
              go_roundw
              case rel => exact ⟨2 + 1, by omega, by go_num, _, by rw [Hsn.out]; exact HL4.out⟩
              case measure => simp [intOf]
          · have hL := HL.out
            have S9 := HS7.out.below (Hb9.out _ _ _ hL)
            have b0 := hL.c0
            have b1 := hL.c1
            obtain ⟨A9, c9, rfl, hc9, _⟩ := hL.own.rd (F := fun _ => False) (fun _ _ q => q) (fun _ _ q => q)
            have ho9 := hL.own.it (lo := w.heap.size + 2) (by have := Hlo.out; have := Hp9.out; omega) (fun k q => q.1)
            have e3 : [own, pp, qq].take 3 = [own, pp, qq] := rfl
            rw [e3] at b1 hc9 ho9
            obtain ⟨its, hits⟩ : ∃ its, plIts N lv (36 + r) Fl [own, pp, qq] = its := ⟨_, rfl⟩
            rw [hits] at b1 hc9 ho9
            have Hits := Lib.hid hits
            clear hits
            obtain ⟨t0, t1, tb, tow⟩ := S9.put s (.slice A9 its.length c9)
            obtain ⟨q0, q1, q4, q5⟩ := S9.cells
            have Hto := Lib.hid (tow its ho9)
            have Htb := Lib.hid tb
            clear S9 tow tb ho9 hL HL e3
            go_wp2
            refine bodyPost_ret (v := .tuple #[.agg #[.int .i64 s, .slice A9 its.length c9], .int .i64 0]) (by simp [results, Try.results10, go_sem, t0, t1]) rfl (by rw [Hits.out]; exact ⟨A9, c9, rfl, hc9, Hto.out, Htb.out⟩)
      · have e0 : (srdE N lv l d c (plOfR l d c n) != 0) = true := by rw [bne_iff_ne]; exact hE0
        rw [upS_no (by rw [hEE]; exact hE0), upL_no (by rw [hEE]; exact hE0), hEE]
        generalize srdE N lv l d c (plOfR l d c n) = E at e0 CRd ⊢
        generalize srdL N lv l d c (plOfR l d c n) = rs at CRd
        generalize plOfR l d c n = r at *
        clear h hat hvr hlv hf hEE hok hx hxc hr h32 hT hk hnl hat2 hfst hD hg hE0 hn8
        go_enter Try.func10, Try.ntmps10
        go_wp2_with fail
        (with_reducible refine (CO.out _).mono ?_); rintro e w1 ⟨rfl, hb⟩
        have S1 := S0.below hb
        clear hb S0 CO
        obtain ⟨g1, g2, g3⟩ := S1.g
        have HS1 := Lib.hid S1
        go_wp2_with fail
        (with_reducible refine (CRd.out _ HS1.out.bel).mono ?_); rintro e w3 ⟨v, rfl, _, hb3⟩
        have S3 := HS1.out.below hb3
        clear hb3 HS1 S1 CRd g1 g2 g3
        obtain ⟨p0, p1, pb, _⟩ := S3.put 0 (.slice none 0 0)
        obtain ⟨q0, q1, q4, q5⟩ := S3.cells
        have Hpb := Lib.hid pb
        clear S3 pb
        go_wp2
        refine bodyPost_ret (v := .tuple #[.agg #[.int .i64 0, .slice none 0 0], .int .i64 E]) (by simp [results, Try.results10, go_sem, p0, p1]) rfl ⟨none, 0, rfl, Nat.le_refl _, OwIt.nil _ _ _ _, Hpb.out⟩
  · have e32 : ((xn : Int) != 32) = true := by rw [bne_iff_ne]; omega
    rw [if_pos (by omega)] at hEE
    rw [upS_no (by rw [hEE]; decide), upL_no (by rw [hEE]; decide), hEE]
    clear h hat hvr hlv hf hEE hx hxc hr h32 CO hn8
    go_enter Try.func10, Try.ntmps10
    obtain ⟨q0, q1, q4, q5⟩ := S0.cells
    have Hpb := Lib.hid S0.bel
    clear S0
    go_wp2
    refine bodyPost_ret (v := .tuple #[.agg #[.int .i64 0, .slice none 0 0], .int .i64 1]) (by simp [results, Try.results10, go_sem, q0, q1]) rfl ⟨none, 0, rfl, Nat.le_refl _, OwIt.nil _ _ _ _, Hpb.out⟩
theorem updP : UpdP := ⟨fun W w b H N h lv LA ln lc hln hlv l d c n hl hd hc hn XA xn xc x hx hxc hr s hs hf => planC W w b H N h lv LA ln lc hln hlv l d c n hl hd hc hn XA xn xc x hx hxc hr s hs hf⟩
end Go.Proofs.Ytenkkdnepmoihaa
end
