/- Texts put together: LogOn, LogGet, LogGood, LogPutG, LogKeep. -/
import Derived.Test.YtoomdgidpplpfaaDoorLbam
import Derived.Test.YtoomdgidpplpfaaDoorLbal
import Derived.Test.YtoomdgidpplpfaaDoorLbaf
section
set_option maxRecDepth 8000
set_option linter.unusedVariables false
set_option linter.unusedSimpArgs false
namespace Go.Proofs.YtoomdgidpplpfaaDoor
open Go.RowKit

/-- The answer's own box, and a row that takes four sectors: j of them are there. -/
structure RwD (w : World) (g : Nat) (rs : List (List UInt8)) (j : Nat) (V : World) : Prop where
  box : DcS w V
  gl : w.heap.size < g
  fz : ∀ k, V.frozen? ⟨g, k, none⟩ = false
  any : ∀ k, k < 4 → ∃ u, V.cell? ⟨g, k, none⟩ = some u
  has : ∀ k, k < j → ∃ a c, V.cell? ⟨g, k, none⟩ = some (.slice (some ⟨a, 0, none⟩) 32 c) ∧ 32 ≤ c ∧ a ≠ g ∧ RdB V V.heap.size (some ⟨a, 0, none⟩) (rs.getD k [])
section
variable {w V V' : World} {g j : Nat} {rs : List (List UInt8)}
theorem RwD.lt (h : RwD w g rs j V) : g < V.heap.size := by
  obtain ⟨u, hu⟩ := h.any 0 (by omega)
  exact World.block_lt_of_cell? _ _ hu
theorem RwD.below (h : RwD w g rs j V) (hb : Below V.heap.size V V') : RwD w g rs j V' :=
  ⟨h.box.below hb, h.gl, fun k => (hb.frozen (p := ⟨g, k, none⟩) h.lt).trans (h.fz k), fun k hk => by
    obtain ⟨u, hu⟩ := h.any k hk
    exact ⟨u, (hb.cell (p := ⟨g, k, none⟩) h.lt).trans hu⟩, fun k hk => by
    obtain ⟨a, c, h1, h2, h3, h4⟩ := h.has k hk
    exact ⟨a, c, (hb.cell (p := ⟨g, k, none⟩) h.lt).trans h1, h2, h3, (h4.below hb (Nat.le_refl _)).more hb.size⟩⟩
theorem RwD.start (w : World) (t : TypeId) (rs : List (List UInt8)) : RwD w (w.heap.size + 1) rs 0 ((w.alloc (.cells #[.int .i64 0, .slice none 0 0] t)).alloc (.cells (madeCells #[.slice none 0 0] 4) 41)) := by
  have hz : (w.alloc (.cells #[.int .i64 0, .slice none 0 0] t)).heap.size = w.heap.size + 1 := by simp
  refine ⟨(DcS.start w t).below (below1 _ _), Nat.lt_succ_self _, fun k => ?_, fun k hk => ?_, fun k hk => by omega⟩
  · have := World.frozen?_alloc_new (w.alloc (.cells #[.int .i64 0, .slice none 0 0] t)) (madeCells #[.slice none 0 0] 4) 41 k
    rwa [hz] at this
  · refine ⟨.slice none 0 0, ?_⟩
    have := cell_of_row _ _ k _ _ _ (heap_alloc_new (w.alloc (.cells #[.int .i64 0, .slice none 0 0] t)) (.cells (madeCells #[.slice none 0 0] 4) 41))
    rw [hz] at this
    rw [this, ← Array.getElem?_toList, toList_madeCells_one, List.getElem?_replicate, if_pos hk]
theorem RwD.put (h : RwD w g rs j V) (hj : j < 4) {a c : Nat} (hc : 32 ≤ c) (ha : a ≠ g) (hr : RdB V V.heap.size (some ⟨a, 0, none⟩) (rs.getD j [])) : RwD w g rs (j + 1) (V.setCell ⟨g, j, none⟩ (.slice (some ⟨a, 0, none⟩) 32 c)) := by
  have hgr : V.grownBy (V.setCell ⟨g, j, none⟩ (.slice (some ⟨a, 0, none⟩) 32 c)) (some g) := ⟨rfl, rfl, rfl, by simp, fun k _ hne => Below.heap_setCell V _ _ k (fun e => hne (by rw [e]))⟩
  have hlt := h.box.plt
  have hne : ∀ i, some (⟨w.heap.size, i, none⟩ : Addr).block ≠ some g := fun i e => by injection e with e; have h1 : w.heap.size = g := e; have := h.gl; omega
  have hkeep : ∀ a' (b : List UInt8), a' ≠ g → RdB V V.heap.size (some ⟨a', 0, none⟩) b → RdB (V.setCell ⟨g, j, none⟩ (.slice (some ⟨a, 0, none⟩) 32 c)) (V.setCell ⟨g, j, none⟩ (.slice (some ⟨a, 0, none⟩) 32 c)).heap.size (some ⟨a', 0, none⟩) b := fun a' b hn hb =>
    ⟨hb.1, fun h0 => by
      obtain ⟨b', off, e, hbl, hk⟩ := hb.2 h0
      injection e with e
      injection e with e1 e2 _
      subst e1 e2
      exact ⟨a', 0, rfl, by simpa using hbl, fun k hk' => (hgr.cell_far ⟨a', 0 + k, none⟩ hbl (fun e => hn (by injection e))).trans (hk k hk')⟩⟩
  refine ⟨⟨h.box.1.setCell (p := ⟨g, j, none⟩) (by show w.heap.size ≤ g; have := h.gl; omega) _, (hgr.cell_far _ hlt (hne 0)).trans h.box.2.1, (hgr.cell_far _ hlt (hne 1)).trans h.box.2.2.1, fun i => by rw [World.frozen?_setCell]; exact h.box.2.2.2 i⟩, h.gl, fun k => by rw [World.frozen?_setCell]; exact h.fz k, fun k hk => ?_, fun k hk => ?_⟩
  · obtain ⟨u, hu⟩ := h.any k hk
    by_cases e : k = j
    · subst e; exact ⟨_, World.cell?_setCell_same _ _ _ hu⟩
    · exact ⟨u, (World.cell?_setCell_other _ _ _ _ (by intro q; injection q with _ q; exact e q.symm)).trans hu⟩
  · by_cases e : k = j
    · subst e
      obtain ⟨u, hu⟩ := h.any k hj
      exact ⟨a, c, World.cell?_setCell_same _ _ _ hu, hc, ha, hkeep a _ ha hr⟩
    · obtain ⟨a', c', h1, h2, h3, h4⟩ := h.has k (by omega)
      exact ⟨a', c', (World.cell?_setCell_other _ _ _ _ (by intro q; injection q with _ q; exact e q.symm)).trans h1, h2, h3, hkeep a' _ h3 h4⟩
theorem RwD.rdc (h : RwD w g rs 4 V) (hl : rs.length = 4) (h32 : ∀ k, k < 4 → (rs.getD k []).length = 32) : RdC V V.heap.size (some ⟨g, 0, none⟩) rs :=
  ⟨by omega, fun _ => ⟨g, 0, rfl, h.lt, fun k hk => by
    obtain ⟨a, c, h1, h2, _, h4⟩ := h.has k (by omega)
    exact ⟨_, c, by rw [Nat.zero_add, h32 k (by omega)]; exact h1, by rw [h32 k (by omega)]; exact h2, h4⟩⟩⟩
end
theorem logR_len (D : Dsk) : (logR D).length = 4 := by simp [logR]
theorem logR_get (D : Dsk) {k : Nat} (hk : k < 4) : (logR D).getD k [] = secAt D.now (2 + k) := by simp [logR, hk]
theorem read_gone {N : Bch} {d : Nat} (hd : d < N.n) (h : goneD N d = true) (k : Int) : N.readE (d : Int) k = 6 ∨ N.readE (d : Int) k = 5 := by
  have hpk : N.pickE (d : Int) = 0 := Bch.pickE_ok (by omega) (by omega)
  cases hdn : N.down with
  | true => exact .inl (by rw [(Bch.readE_pow k (by rw [Bch.powE_down hpk hdn]; decide)).1, Bch.powE_down hpk hdn])
  | false =>
    have hf : (N.D d).f = true := by unfold goneD at h; rw [hdn] at h; simpa using h
    exact .inr (by rw [(Bch.readE_dsk k (Bch.powE_ok hpk hdn)).1, show (N.at_ (d : Int)).f = true from hf]; exact reachE_fail _)
theorem gone_not {N : Bch} {d : Nat} (h : goneD N d = false) : N.down = false ∧ (N.D d).f = false := by
  unfold goneD at h; simpa using h
set_option maxHeartbeats 4000000 in
theorem onDiskL_any (B b : Nat) (H : BH) (N : Bch) (w : World) (h : BAt w B b H N) (d : Nat) (hd : d < N.n) (ht : TabOk w) :
    Calls Tryd.prog 36 #[ptr b, .int .i64 (d : Int)] w fun e w' => ∃ v, e = .returned (.tuple #[.agg #[.int .i64 (onS N d), v], .bool (onB N d)]) ∧ OwIt 43 w' w.heap.size w.heap.size v (onL N d) ∧ Below w.heap.size w w' := by
  have hmk := make_four
  have Ht := Lib.hid ht
  have Htp := ht.pos
  have hn8 := h.ok.n
  have CR := Lib.hid (fun W (hb : Below w.heap.size w W) (k : Nat) (hk : k < 52) => bch_read_any B b H N W (h.below hb) (d : Int) (k : Int) ⟨by omega, by omega⟩ ⟨by omega, by omega⟩)
  have HR0 := Lib.hid (RwD.start w 29 (logR (N.D d)))
  have HLn : Hid (∀ k, k < 4 → ((logR (N.D d)).getD k []).length = 32) := fun k hk => by
    rw [logR_get _ hk]; exact secAt_len (by rw [(h.dsk d hd).ok.now]; omega)
  clear h ht
  unfold ptr at CR ⊢
  cases hg : goneD N d with
  | true =>
    have HE := Lib.hid (show onS N d = 0 ∧ onB N d = false ∧ onL N d = [] from ⟨if_pos hg, if_pos hg, if_pos hg⟩)
    have C0 := CR.out _ HR0.out.box.1 2 (by omega)
    have hE : ∃ E, N.readE (d : Int) ((2 : Nat) : Int) = E ∧ (E != 0) = true := by
      rcases read_gone hd hg ((2 : Nat) : Int) with e | e <;> exact ⟨_, e, rfl⟩
    obtain ⟨E, hE, hne⟩ := hE
    rw [hE] at C0
    have C0 := Lib.hid C0
    clear CR hE hg
    go_enter Tryd.func36, Tryd.ntmps36
    go_wp2
    generalize hW0 : (w.alloc (.cells #[.int .i64 0, .slice none 0 0] 29)).alloc (.cells (madeCells #[.slice none 0 0] 4) 41) = W0 at HR0 C0
    go_loopw [15] (fun i wr => i = .int .i64 0 ∧ wr = W0) (fun _ _ => 0)
    case atStart => exact ⟨rfl, rfl⟩
    case round =>
      obtain ⟨rfl, rfl⟩ := hrel
      go_wp2_with fail
      refine C0.out.mono ?_
      rintro e w1 ⟨v, rfl, _, hb1⟩
      have S1 := (HR0.out.below hb1).box
      obtain ⟨p0, p1, pb, _⟩ := S1.put 0 (.slice none 0 0)
      obtain ⟨q0, q1, q2, q3⟩ := S1
      obtain ⟨q4, q5⟩ := And.intro (q3 0) (q3 1)
      clear hb1 HR0 C0
      go_wp2
      refine bodyPost_ret (v := .tuple #[.agg #[.int .i64 0, .slice none 0 0], .bool false]) (by simp [results, Tryd.results36, go_sem, p0, p1]) rfl ⟨_, by rw [HE.out.1, HE.out.2.1], by rw [HE.out.2.2]; exact OwIt.nil _ _ _ _, pb⟩
  | false =>
    obtain ⟨hdn, hf⟩ := gone_not hg
    have HE := Lib.hid (show onS N d = rcS (logR (N.D d)) ∧ onB N d = rcO (logR (N.D d)) ∧ onL N d = rcL (logR (N.D d)) from ⟨if_neg (by simp [hg]), if_neg (by simp [hg]), if_neg (by simp [hg])⟩)
    have CR := Lib.hid (fun W (hb : Below w.heap.size w W) (k : Nat) (hk : k < 4) => by
      have h := CR.out W hb (2 + k) (by omega)
      rw [(Bch.read_ok (N := N) (d := d) (k := 2 + k) hd (by omega) hf hdn).1, (Bch.read_ok (N := N) (d := d) (k := 2 + k) hd (by omega) hf hdn).2, ← logR_get (N.D d) hk] at h
      exact h)
    have hl4 := logR_len (N.D d)
    have HL4 := Lib.hid hl4
    clear hdn hf hg hl4
    generalize logR (N.D d) = rs at *
    go_enter Tryd.func36, Tryd.ntmps36
    go_wp2
    generalize hW0 : (w.alloc (.cells #[.int .i64 0, .slice none 0 0] 29)).alloc (.cells (madeCells #[.slice none 0 0] 4) 41) = W0 at HR0
    have hmk := True.intro
    go_loopw [15] (fun i wr => ∃ j : Nat, j ≤ 4 ∧ i = .int .i64 j ∧ RwD w (w.heap.size + 1) rs j wr) (fun i _ => 4 - (intOf i).toNat)
    case atStart => exact ⟨0, by omega, rfl, HR0.out⟩
    case round =>
      obtain ⟨j, hj, rfl, hrw⟩ := hrel
      have Hrw := Lib.hid hrw
      clear hrw
      by_cases hlt : j < 4
      · have i0 : (0 : Int) ≤ (j : Int) := by omega
        have i1 : (j : Int) < 4 := by omega
        have q2 : IntKind.i64.wrap (2 + (j : Int)) = ((2 + j : Nat) : Int) := by rw [IntKind.wrap_i64]; omega
        have CRj := Lib.hid (CR.out wr Hrw.out.box.1 j hlt)
        have hl32 := HLn.out j hlt
        go_wp2_with fail
        refine CRj.out.mono ?_
        rintro e w1 ⟨v, rfl, ho, hb1⟩
        obtain ⟨g1, cp1, rfl, hg1, hgl, hcp, _, hr1⟩ := ho.pos (by rw [hl32]; omega)
        rw [hl32] at hcp ⊢
        have hR1 := Hrw.out.below hb1
        have hR2 := Lib.hid (hR1.put hlt (a := g1) (c := cp1) hcp (by have := Hrw.out.lt; omega) hr1)
        obtain ⟨u0, cu⟩ := hR1.any j hlt
        have cf := hR1.fz j
        clear ho hb1 hR1 hr1 CRj hl32 hg1 hgl
        go_wp2
        go_roundw
        case rel => exact ⟨j + 1, by omega, by go_num, hR2.out⟩
        case measure => simp [intOf]; omega
      · obtain rfl : j = 4 := by omega
        have CD := Lib.hid (decode_any (some ⟨w.heap.size + 1, 0, none⟩) 4 4 rs wr HL4.out (Nat.le_refl _) (Hrw.out.rdc HL4.out HLn.out) (Ht.out.below Hrw.out.box.1 Htp))
        have HB := Lib.hid Hrw.out.box
        have Hz := Lib.hid Hrw.out.box.plt
        have HcE : Hid (rcE rs = if rcO rs = true then 0 else 2) := rfl
        clear hj hlt hmk CR HR0 hW0
        go_wp2_with fail
        refine CD.out.mono ?_
        rintro e w2 ⟨v, rfl, ho, hb2⟩
        have S2 := Lib.hid (HB.out.below hb2)
        replace ho := ho.le (B' := w.heap.size + 1) (lo' := w.heap.size + 1) Hz.out Hz.out
        clear hb2 CD HB
        obtain ⟨A3, c3, rfl, hLc, _⟩ := ho.rd
        obtain ⟨e1, e2, e3⟩ := HE.out
        generalize rcS rs = y at *
        generalize rcL rs = L at *
        have B3 := below1 w2 (.cells #[.int .i64 y, .slice A3 L.length c3] 29)
        have S3 := S2.out.below B3
        have O3 := ho.below B3
        have k3 := fun i => cell_of_row _ _ i _ _ _ (heap_alloc_new w2 (.cells #[.int .i64 y, .slice A3 L.length c3] 29))
        obtain ⟨k0, k1⟩ := And.intro (k3 0) (k3 1)
        obtain ⟨p0, p1, pb, po⟩ := S3.put y (.slice A3 L.length c3)
        obtain ⟨q0, q1, q2, q3⟩ := S3
        obtain ⟨q4, q5⟩ := And.intro (q3 0) (q3 1)
        have Hpo := Lib.hid (po L O3)
        have Hpb := Lib.hid pb
        clear HE B3 k3 po O3 ho S2 q3 q0 pb
        cases hx : rcO rs with
        | true =>
          rw [hx] at HcE e2
          have hcE : rcE rs = 0 := HcE.out
          clear hx HcE
          rw [hcE]
          go_wp2
          refine bodyPost_ret (v := .tuple #[.agg #[.int .i64 y, .slice A3 L.length c3], .bool true]) (by simp [results, Tryd.results36, go_sem, p0, p1]) rfl ⟨_, by rw [e1, e2], by rw [e3]; exact Hpo.out, Hpb.out⟩
        | false =>
          rw [hx] at HcE e2
          have hcE : rcE rs = 2 := HcE.out
          clear hx HcE
          rw [hcE]
          go_wp2
          refine bodyPost_ret (v := .tuple #[.agg #[.int .i64 y, .slice A3 L.length c3], .bool false]) (by simp [results, Tryd.results36, go_sem, p0, p1]) rfl ⟨_, by rw [e1, e2], by rw [e3]; exact Hpo.out, Hpb.out⟩
end Go.Proofs.YtoomdgidpplpfaaDoor
end
section
set_option maxRecDepth 8000
set_option linter.unusedVariables false
set_option linter.unusedSimpArgs false
namespace Go.Proofs.YtoomdgidpplpfaaDoor
open Go.RowKit

theorem getTo_live {N : Bch} {lv : List Bool} {d : Nat} (h : liveD N.n lv (d : Int) = false) : getTo N lv (d + 1) = getTo N lv d := by
  rw [getTo, if_neg (fun q => by rw [h] at q; exact absurd q.1 (by decide))]
theorem getTo_none {N : Bch} {lv : List Bool} {d : Nat} (h : onB N d = false) : getTo N lv (d + 1) = getTo N lv d := by
  rw [getTo, if_neg (fun q => by rw [h] at q; exact absurd q.2.1 (by decide))]
theorem getTo_less {N : Bch} {lv : List Bool} {d : Nat} (h : ¬ (getTo N lv d).1 < onS N d) : getTo N lv (d + 1) = getTo N lv d := by
  rw [getTo, if_neg (fun q => h q.2.2)]
theorem getTo_yes {N : Bch} {lv : List Bool} {d : Nat} (h1 : liveD N.n lv (d : Int) = true) (h2 : onB N d = true) (h3 : (getTo N lv d).1 < onS N d) : getTo N lv (d + 1) = (onS N d, onL N d) := by
  rw [getTo, if_pos ⟨h1, h2, h3⟩]
/-- The answer's own box, and the best one's box. -/
structure GtS (w : World) (s : Int) (A : Option Addr) (c : Nat) (l : List It) (V : World) : Prop where
  box : DcS w V
  c0 : V.cell? ⟨w.heap.size + 1, 0, none⟩ = some (.int .i64 s)
  c1 : V.cell? ⟨w.heap.size + 1, 1, none⟩ = some (.slice A l.length c)
  fz : ∀ i, V.frozen? ⟨w.heap.size + 1, i, none⟩ = false
  own : OwIt 43 V (w.heap.size + 2) (w.heap.size + 2) (.slice A l.length c) l
section
variable {w V V' : World} {s : Int} {A : Option Addr} {c : Nat} {l : List It}
theorem GtS.lt (h : GtS w s A c l V) : w.heap.size + 1 < V.heap.size := World.block_lt_of_cell? _ _ h.c0
theorem GtS.start (w : World) (t : TypeId) : GtS w 0 none 0 [] ((w.alloc (.cells #[.int .i64 0, .slice none 0 0] t)).alloc (.cells #[.int .i64 0, .slice none 0 0] t)) := by
  have hz : (w.alloc (.cells #[.int .i64 0, .slice none 0 0] t)).heap.size = w.heap.size + 1 := by simp
  have k := fun i => cell_of_row _ _ i _ _ _ (heap_alloc_new (w.alloc (.cells #[.int .i64 0, .slice none 0 0] t)) (.cells #[.int .i64 0, .slice none 0 0] t))
  have f := fun i => World.frozen?_alloc_new (w.alloc (.cells #[.int .i64 0, .slice none 0 0] t)) #[.int .i64 0, .slice none 0 0] t i
  rw [hz] at k
  exact ⟨(DcS.start w t).below (below1 _ _), k 0, k 1, fun i => by have := f i; rwa [hz] at this, OwIt.nil _ _ _ _⟩
theorem GtS.below (h : GtS w s A c l V) (hb : Below V.heap.size V V') : GtS w s A c l V' :=
  ⟨h.box.below hb, (hb.cell (p := ⟨w.heap.size + 1, 0, none⟩) h.lt).trans h.c0, (hb.cell (p := ⟨w.heap.size + 1, 1, none⟩) h.lt).trans h.c1, fun i => (hb.frozen (p := ⟨w.heap.size + 1, i, none⟩) h.lt).trans (h.fz i), h.own.below hb⟩
theorem GtS.put (h : GtS w s A c l V) (y : Int) (A' : Option Addr) (c' : Nat) (m : List It) (ho : OwIt 43 V (w.heap.size + 2) (w.heap.size + 2) (.slice A' m.length c') m) :
    GtS w y A' c' m ((V.setCell ⟨w.heap.size + 1, 0, none⟩ (.int .i64 y)).setCell ⟨w.heap.size + 1, 1, none⟩ (.slice A' m.length c')) := by
  have g1 := grown_cell V (w.heap.size + 1) 0 (.int .i64 y)
  have g2 := grown_cell (V.setCell ⟨w.heap.size + 1, 0, none⟩ (.int .i64 y)) (w.heap.size + 1) 1 (.slice A' m.length c')
  have k1 : (V.setCell ⟨w.heap.size + 1, 0, none⟩ (.int .i64 y)).cell? ⟨w.heap.size + 1, 1, none⟩ = some (.slice A l.length c) := (World.cell?_setCell_other _ _ _ _ (by intro e; injection e with _ e; cases e)).trans h.c1
  have hne : ∀ i, some (⟨w.heap.size, i, none⟩ : Addr).block ≠ some (w.heap.size + 1) := fun i e => by injection e with e; have h1 : w.heap.size = w.heap.size + 1 := e; omega
  have hlt := h.box.plt
  have hlt1 : w.heap.size < (V.setCell ⟨w.heap.size + 1, 0, none⟩ (.int .i64 y)).heap.size := by simpa using hlt
  refine ⟨⟨(h.box.1.setCell (p := ⟨w.heap.size + 1, 0, none⟩) (by show w.heap.size ≤ w.heap.size + 1; omega) _).setCell (p := ⟨w.heap.size + 1, 1, none⟩) (by show w.heap.size ≤ w.heap.size + 1; omega) _, ?_, ?_, fun i => by rw [World.frozen?_setCell, World.frozen?_setCell]; exact h.box.2.2.2 i⟩, ?_, World.cell?_setCell_same _ _ _ k1, fun i => by rw [World.frozen?_setCell, World.frozen?_setCell]; exact h.fz i, (ho.far g1 (by omega) (by omega)).far g2 (by omega) (by omega)⟩
  · exact (g2.cell_far _ hlt1 (hne 0)).trans ((g1.cell_far _ hlt (hne 0)).trans h.box.2.1)
  · exact (g2.cell_far _ hlt1 (hne 1)).trans ((g1.cell_far _ hlt (hne 1)).trans h.box.2.2.1)
  · exact (World.cell?_setCell_other _ _ _ _ (by intro e; injection e with _ e; cases e)).trans (World.cell?_setCell_same _ _ _ h.c0)
end
set_option maxHeartbeats 4000000 in
theorem get_any (B b : Nat) (H : BH) (N : Bch) (w : World) (h : BAt w B b H N) (ht : TabOk w) (lv : List Bool) (LA : Option Addr) (ln lc : Nat) (hln : ln = lv.length) (hlv : RdO w w.heap.size LA lv) :
    Calls Tryd.prog 13 #[ptr b, .slice LA ln lc] w fun e w' => ∃ v, e = .returned (.tuple #[.agg #[.int .i64 (getS N lv).1, v], .bool (decide (0 < (getS N lv).1))]) ∧ OwIt 43 w' w.heap.size w.heap.size v (getS N lv).2 ∧ Below w.heap.size w w' := by
  subst hln
  have hn8 := h.ok.n
  have Ht := Lib.hid ht
  have Htp := ht.pos
  have CN := Lib.hid (fun V (hV : Below w.heap.size w V) => bch_len_any _ b H N V (h.below hV))
  have CL := Lib.hid (fun V (hV : Below w.heap.size w V) (d : Nat) (hd : d < N.n) => isLive_any _ b H N V (h.below hV) lv LA lv.length lc rfl (hlv.keep hV.size fun p hp => hV.cell hp) (d : Int) (by omega) (by omega))
  have CO := Lib.hid (fun V (hV : Below w.heap.size w V) (d : Nat) (hd : d < N.n) => onDiskL_any _ b H N V (h.below hV) d hd (ht.below hV ht.pos))
  have S0 := Lib.hid (GtS.start w 29)
  clear h hlv ht
  unfold ptr at CN CL CO ⊢
  go_enter Tryd.func13, Tryd.ntmps13
  obtain ⟨W0, hW0⟩ : ∃ W, ((w.alloc (.cells #[.int .i64 0, .slice none 0 0] 29)).alloc (.cells #[.int .i64 0, .slice none 0 0] 29)) = W := ⟨_, rfl⟩
  rw [hW0] at S0
  go_wp2_with (go_at_call 33; refine (CN.out _ S0.out.box.1).mono ?_; rintro e w3 ⟨rfl, h3⟩; obtain rfl : W0 = w3 := h3.symm)
  go_loopw [12] (fun i wr => ∃ d : Nat, d ≤ N.n ∧ i = .int .i64 d ∧ ∃ A c, GtS w (getTo N lv d).1 A c (getTo N lv d).2 wr) (fun i _ => N.n - (intOf i).toNat)
  case atStart => exact ⟨0, Nat.zero_le _, rfl, none, 0, S0.out⟩
  case round =>
    obtain ⟨d, hd, rfl, A, c, hS⟩ := hrel
    have HS := Lib.hid hS
    clear hS
    by_cases hlt : d < N.n
    · have k0 : (0 : Int) ≤ (d : Int) := by omega
      have k1 : (d : Int) < (N.n : Int) := by omega
      have CLd := Lib.hid (CL.out wr HS.out.box.1 d hlt)
      have COd := Lib.hid (CO.out wr HS.out.box.1 d hlt)
      have Hl := Lib.hid (getTo_live (N := N) (lv := lv) (d := d))
      have Hn := Lib.hid (getTo_none (N := N) (lv := lv) (d := d))
      have Hs := Lib.hid (getTo_less (N := N) (lv := lv) (d := d))
      have Hy := Lib.hid (getTo_yes (N := N) (lv := lv) (d := d))
      cases hx : liveD N.n lv (d : Int) with
      | false =>
        rw [hx] at CLd
        have Hl := Lib.hid (Hl.out hx)
        clear hx Hn Hs Hy COd
        go_wp2_with (go_at_call 34; refine CLd.out.mono ?_; rintro e w5 ⟨rfl, rfl⟩)
        go_roundw
        case rel => exact ⟨d + 1, by omega, by go_num, A, c, by rw [Hl.out]; exact HS.out⟩
        case measure => simp [intOf]; omega
      | true =>
        rw [hx] at CLd
        have Hy := Lib.hid (Hy.out hx)
        clear hx Hl
        have hs64 := onS_le N d
        obtain ⟨s, l, hsl⟩ : ∃ s l, getTo N lv d = (s, l) := ⟨_, _, rfl⟩
        rw [hsl] at HS Hn Hs Hy
        clear hsl
        obtain ⟨y, hy⟩ : ∃ y, onS N d = y := ⟨_, rfl⟩
        obtain ⟨m, hm⟩ : ∃ m, onL N d = m := ⟨_, rfl⟩
        rw [hy] at Hs Hy COd hs64
        rw [hm] at Hy COd
        clear hy hm
        go_wp2_with (go_at_call 34; refine CLd.out.mono ?_; rintro e w5 ⟨rfl, h5⟩; obtain rfl : wr = w5 := h5.symm)
        refine COd.out.mono ?_
        rintro e w6 ⟨v, rfl, ho, hb⟩
        obtain ⟨A6, c6, rfl, hc6, _⟩ := ho.rd
        have hS6 := HS.out.below hb
        have hz := HS.out.lt
        replace ho := ho.le (B' := w.heap.size + 2) (lo' := w.heap.size + 2) (by omega) (by omega)
        have B7 := below1 w6 (.cells #[.int .i64 y, .slice A6 m.length c6] 29)
        have hS7 := Lib.hid (hS6.below B7)
        have ho7 := Lib.hid (ho.below B7)
        have hz6 := hS6.lt
        have q := fun i => cell_of_row _ _ i _ _ _ (heap_alloc_new w6 (.cells #[.int .i64 y, .slice A6 m.length c6] 29))
        obtain ⟨q0, q1⟩ := And.intro (q 0) (q 1)
        have p0 := hS7.out.c0
        have p1 := hS7.out.c1
        obtain ⟨f0, f1⟩ := And.intro (hS7.out.fz 0) (hS7.out.fz 1)
        have HP := Lib.hid (hS7.out.put y A6 c6 m ho7.out)
        clear hb hS6 B7 q ho
        generalize hW7 : w6.alloc (.cells #[.int .i64 y, .slice A6 m.length c6] 29) = W7 at hS7 ho7 q0 q1 p0 p1 f0 f1 HP
        cases hb2 : onB N d with
        | false =>
          have Hn := Lib.hid (Hn.out hb2)
          clear hb2 Hs Hy HP
          go_wp2
          go_roundw
          case rel => exact ⟨d + 1, by omega, by go_num, A, c, by rw [Hn.out]; exact hS7.out⟩
          case measure => simp [intOf]; omega
        | true =>
          have Hy := Lib.hid (Hy.out hb2)
          clear hb2 Hn
          by_cases hgt : s < y
          · have Hy := Lib.hid (Hy.out hgt)
            clear Hs
            go_wp2
            go_roundw
            case rel => exact ⟨d + 1, by omega, by go_num, A6, c6, by rw [Hy.out]; exact HP.out⟩
            case measure => simp [intOf]; omega
          · have Hs := Lib.hid (Hs.out (by omega))
            clear Hy HP
            go_wp2
            go_roundw
            case rel => exact ⟨d + 1, by omega, by go_num, A, c, by rw [Hs.out]; exact hS7.out⟩
            case measure => simp [intOf]; omega
    · obtain rfl : d = N.n := by omega
      have HE : Hid (getS N lv = getTo N lv N.n) := rfl
      have hle := getTo_le N lv N.n
      obtain ⟨s, l, hsl⟩ : ∃ s l, getTo N lv N.n = (s, l) := ⟨_, _, rfl⟩
      rw [hsl] at HS HE hle
      clear hsl
      dsimp only at HS hle
      obtain ⟨p0, p1, pb, po⟩ := HS.out.box.put s (.slice A l.length c)
      have Hpo := Lib.hid (po l (HS.out.own.le (by omega) (by omega)))
      have Hpb := Lib.hid pb
      obtain ⟨q0, q1, q2, q3⟩ := HS.out.box
      obtain ⟨q4, q5⟩ := And.intro (q3 0) (q3 1)
      have c0 := HS.out.c0
      have c1 := HS.out.c1
      clear CN CL CO Ht S0 q3 po pb hW0 HS q0
      have r0 : (((wr.setCell ⟨w.heap.size, 0, none⟩ (.int .i64 s)).setCell ⟨w.heap.size, 1, none⟩ (.slice A l.length c)).drew).cell? ⟨w.heap.size, 0, none⟩ = some (.int .i64 s) := p0
      have r1 : (((wr.setCell ⟨w.heap.size, 0, none⟩ (.int .i64 s)).setCell ⟨w.heap.size, 1, none⟩ (.slice A l.length c)).drew).cell? ⟨w.heap.size, 1, none⟩ = some (.slice A l.length c) := p1
      have Hpb2 := Lib.hid Hpb.out.drew
      have Hpo2 := Lib.hid (Hpo.out.below (Below.refl _ _).drew)
      by_cases hgt : 0 < s
      · have HD := Lib.hid (show decide (0 < s) = true from decide_eq_true hgt)
        go_wp2_with fail
        go_region
        go_wp2
        refine bodyPost_ret (v := .tuple #[.agg #[.int .i64 s, .slice A l.length c], .bool true]) (by simp [results, Tryd.results13, go_sem, r0, r1]) rfl ⟨_, by rw [HE.out, HD.out], by rw [HE.out]; exact Hpo2.out, Hpb2.out⟩
      · have HD := Lib.hid (show decide (0 < s) = false from decide_eq_false hgt)
        go_wp2_with fail
        go_region
        go_wp2
        refine bodyPost_ret (v := .tuple #[.agg #[.int .i64 s, .slice A l.length c], .bool false]) (by simp [results, Tryd.results13, go_sem, r0, r1]; omega) rfl ⟨_, by rw [HE.out, HD.out], by rw [HE.out]; exact Hpo2.out, Hpb2.out⟩
end Go.Proofs.YtoomdgidpplpfaaDoor
end
section
set_option linter.unusedVariables false
set_option linter.unusedSimpArgs false
namespace Go.Proofs.YtoomdgidpplpfaaDoor

/-- What stands at sector k of disk j when these are done. -/
def lastI (l : List It) (j k : Nat) (s : List UInt8) : List UInt8 := l.foldl (fun s x => if x.d = (j : Int) ∧ x.a = (k : Int) then x.b else s) s
theorem lastI_snoc (l : List It) (x : It) (j k : Nat) (s : List UInt8) : lastI (l ++ [x]) j k s = if x.d = (j : Int) ∧ x.a = (k : Int) then x.b else lastI l j k s := by
  unfold lastI; rw [List.foldl_append]; rfl
theorem lastI_none : ∀ {l : List It} {j k : Nat} {s : List UInt8}, (∀ x ∈ l, ¬ (x.d = (j : Int) ∧ x.a = (k : Int))) → lastI l j k s = s
  | [], _, _, _, _ => rfl
  | x :: l, j, k, s, h => by
    show lastI l j k (if x.d = (j : Int) ∧ x.a = (k : Int) then x.b else s) = s
    rw [if_neg (h x (List.mem_cons_self ..))]
    exact lastI_none fun y hy => h y (List.mem_cons_of_mem _ hy)
/-- One of them goes there, and those that go there are alike. -/
theorem lastI_one : ∀ {l : List It} {j k : Nat} {s v : List UInt8}, (∀ x ∈ l, x.d = (j : Int) ∧ x.a = (k : Int) → x.b = v) → (s = v ∨ ∃ x ∈ l, x.d = (j : Int) ∧ x.a = (k : Int)) → lastI l j k s = v
  | [], _, _, _, _, _, h => by
    rcases h with h | ⟨x, hx, _⟩
    · exact h
    · cases hx
  | x :: l, j, k, s, v, ha, h => by
    show lastI l j k (if x.d = (j : Int) ∧ x.a = (k : Int) then x.b else s) = v
    refine lastI_one (fun y hy => ha y (List.mem_cons_of_mem _ hy)) ?_
    by_cases hx : x.d = (j : Int) ∧ x.a = (k : Int)
    · rw [if_pos hx]; exact .inl (ha x (List.mem_cons_self ..) hx)
    · rw [if_neg hx]
      rcases h with h | ⟨y, hy, e⟩
      · exact .inl h
      · rcases List.mem_cons.1 hy with rfl | hy
        · exact absurd e hx
        · exact .inr ⟨y, hy, e⟩
structure GoodB (N : Bch) : Prop where
  dn : N.down = false
  lf : N.left = -1
  ok : ∀ j, j < N.n → (N.D j).Ok
  ps : ∀ j, j < N.n → (N.D j).ps = []
def FitI (n : Nat) (l : List It) : Prop := ∀ x ∈ l, 0 ≤ x.d ∧ x.d < (n : Int) ∧ 0 ≤ x.a ∧ x.a < 52 ∧ x.b.length = 32
structure WtG (N M : Bch) (l : List It) : Prop where
  n : M.n = N.n
  dn : M.down = false
  lf : M.left = -1
  f : ∀ j, j < N.n → (M.D j).f = (N.D j).f
  ok : ∀ j, j < N.n → (M.D j).Ok
  sec : ∀ j, j < N.n → (N.D j).f = false → ∀ k, k < 52 → secAt (M.D j).now k = lastI l j k (secAt (N.D j).now k)
  ps : ∀ j, j < N.n → (M.D j).ps ≠ [] → ∃ x ∈ l, x.d = (j : Int)
  done : M.done ≤ N.done + l.length
  bad : ∀ j, j < N.n → (N.D j).f = true → M.D j = N.D j
theorem wrote_goodI {N : Bch} {l : List It} (hg : GoodB N) (hl : FitI N.n l) : ∀ i, i ≤ l.length → (runTo itWr l N i).1 = 0 ∧ WtG N (runTo itWr l N i).2 (l.take i)
  | 0, _ => ⟨rfl, rfl, hg.dn, hg.lf, fun _ _ => rfl, hg.ok, fun _ _ _ _ _ => by rw [List.take_zero]; rfl, fun j hj h => absurd (hg.ps j hj) h, Nat.le_add_right _ _, fun _ _ _ => rfl⟩
  | i + 1, hi => by
    obtain ⟨h0, g⟩ := wrote_goodI hg hl i (by omega)
    have hx := hl _ (itN_mem (l := l) (k := i) (by omega))
    have htk := its_take (l := l) (i := i) (by omega)
    generalize hxx : itN l i = x at hx htk
    obtain ⟨d, hd⟩ : ∃ d : Nat, x.d = (d : Int) := ⟨x.d.toNat, by omega⟩
    obtain ⟨k, hk⟩ : ∃ k : Nat, x.a = (k : Int) := ⟨x.a.toNat, by omega⟩
    have hdn : d < N.n := by omega
    have hk52 : k < 52 := by omega
    have hpw : (runTo itWr l N i).2.powE (d : Int) = 0 := Bch.powE_ok (Bch.pickE_ok (by omega) (by rw [g.n]; omega)) g.dn
    have hlen : (l.take i).length = i := by simp; omega
    rw [htk]
    cases hf : (N.D d).f with
    | true =>
      have hfm : ((runTo itWr l N i).2.at_ (d : Int)).f = true := (g.f d hdn).trans hf
      have ht : takeE ((runTo itWr l N i).2.at_ (d : Int)).f (k : Int) x.b.length = 5 := by rw [hfm]; exact takeE_fail _ _
      have e1 : (itWr (runTo itWr l N i).2 x).1 = 5 := by
        show (runTo itWr l N i).2.writeE x.d x.a _ = 5
        rw [hd, hk]
        unfold Bch.writeE; rw [if_neg (by simp [hpw]), if_pos (by rw [ht]; decide), ht]
      have e2 : (itWr (runTo itWr l N i).2 x).2 = (runTo itWr l N i).2 := by
        show (runTo itWr l N i).2.write x.d x.a _ = _
        rw [hd, hk]
        unfold Bch.write; rw [if_neg (by simp [hpw]), if_pos (by rw [ht]; decide)]
      rw [runTo_pass h0 (by rw [hxx]; exact e1), hxx, e2]
      refine ⟨rfl, g.n, g.dn, g.lf, g.f, g.ok, fun j hj hfj kk hkk => ?_, fun j hj h => ?_, ?_, g.bad⟩
      · rw [lastI_snoc, if_neg (fun e => by have : d = j := by omega
                                            subst this; rw [hf] at hfj; cases hfj)]
        exact g.sec j hj hfj kk hkk
      · obtain ⟨y, hy, e⟩ := g.ps j hj h
        exact ⟨y, List.mem_append.2 (.inl hy), e⟩
      · have := g.done; rw [List.length_append]; show (runTo itWr l N i).2.done ≤ _; omega
    | false =>
      have hw := Bch.write_ok (N := (runTo itWr l N i).2) (d := d) (k := k) (x := x.b) (by rw [g.n]; omega) hk52 hx.2.2.2.2 ((g.f d hdn).trans hf) g.dn (by rw [g.lf]; decide)
      rw [Bch.count_free (by exact g.lf)] at hw
      have e1 : (itWr (runTo itWr l N i).2 x).1 = 0 := by
        show (runTo itWr l N i).2.writeE x.d x.a _ = 0
        rw [hd, hk]; exact hw.1
      have e2 : (itWr (runTo itWr l N i).2 x).2 = { (runTo itWr l N i).2.set d (((runTo itWr l N i).2.D d).write k x.b) with done := ((runTo itWr l N i).2.set d (((runTo itWr l N i).2.D d).write k x.b)).done + 1 } := by
        show (runTo itWr l N i).2.write x.d x.a _ = _
        rw [hd, hk]; exact hw.2
      rw [runTo_goes h0 (by rw [hxx, e1]; decide), hxx]
      refine ⟨e1, ?_⟩
      rw [e2]
      have hDj : ∀ j, j ≠ d → upd (runTo itWr l N i).2.D d (((runTo itWr l N i).2.D d).write k x.b) j = (runTo itWr l N i).2.D j := fun j hj => upd_other _ _ hj
      have hDd : upd (runTo itWr l N i).2.D d (((runTo itWr l N i).2.D d).write k x.b) d = ((runTo itWr l N i).2.D d).write k x.b := upd_same _ _ _
      refine ⟨g.n, g.dn, g.lf, fun j hj => ?_, fun j hj => ?_, fun j hj hfj kk hkk => ?_, fun j hj h => ?_, ?_, fun j hj hfj => ?_⟩
      · show Dsk.f (upd _ d _ j) = _
        by_cases e : j = d
        · subst e; rw [hDd]; exact g.f j hj
        · rw [hDj j e]; exact g.f j hj
      · show Dsk.Ok (upd _ d _ j)
        by_cases e : j = d
        · subst e; rw [hDd]; exact (g.ok j hj).write hk52 hx.2.2.2.2
        · rw [hDj j e]; exact g.ok j hj
      · show secAt (Dsk.now (upd _ d _ j)) kk = _
        rw [lastI_snoc]
        by_cases e : j = d
        · subst e
          rw [hDd, Dsk.write_now]
          by_cases e2 : kk = k
          · subst e2; rw [if_pos ⟨hd, hk⟩]; exact sec_put_same (g.ok j hj).now hk52 hx.2.2.2.2
          · rw [if_neg (fun q => e2 (by omega)), sec_put_other (g.ok j hj).now hk52 hx.2.2.2.2 e2]
            exact g.sec j hj hfj kk hkk
        · rw [hDj j e, if_neg (fun q => e (by omega))]
          exact g.sec j hj hfj kk hkk
      · by_cases e : j = d
        · exact ⟨x, List.mem_append.2 (.inr (List.mem_singleton.2 rfl)), by rw [hd, e]⟩
        · obtain ⟨y, hy, e'⟩ := g.ps j hj (by rw [← hDj j e]; exact h)
          exact ⟨y, List.mem_append.2 (.inl hy), e'⟩
      · have := g.done; rw [List.length_append]; show (runTo itWr l N i).2.done + 1 ≤ _; simp only [List.length_singleton]; omega
      · show upd (α := Dsk) _ d _ j = _
        rw [hDj j (fun e => by subst e; rw [hf] at hfj; cases hfj)]; exact g.bad j hj hfj
structure FtG (M M2 : Bch) (l : List It) : Prop where
  n : M2.n = M.n
  dn : M2.down = false
  lf : M2.left = M.left
  f : ∀ j, j < M.n → (M2.D j).f = (M.D j).f
  ok : ∀ j, j < M.n → (M2.D j).Ok
  now : ∀ j, j < M.n → (M2.D j).now = (M.D j).now
  ps : ∀ j, j < M.n → (M.D j).f = false → (∃ x ∈ l, x.d = (j : Int)) → (M2.D j).ps = []
  ps2 : ∀ j, j < M.n → (M.D j).ps = [] → (M2.D j).ps = []
  done : M2.done = M.done
  bad : ∀ j, j < M.n → (M.D j).f = true → M2.D j = M.D j
theorem flush_goodI {M : Bch} {l : List It} (hdn : M.down = false) (hok : ∀ j, j < M.n → (M.D j).Ok) (hl : FitI M.n l) : ∀ i, i ≤ l.length → (runTo itFl l M i).1 = 0 ∧ FtG M (runTo itFl l M i).2 (l.take i)
  | 0, _ => ⟨rfl, rfl, hdn, rfl, fun _ _ => rfl, hok, fun _ _ => rfl, fun j hj _ h => (by obtain ⟨x, hx, _⟩ := h; rw [List.take_zero] at hx; cases hx), fun _ _ h => h, rfl, fun _ _ _ => rfl⟩
  | i + 1, hi => by
    obtain ⟨h0, g⟩ := flush_goodI hdn hok hl i (by omega)
    have hx := hl _ (itN_mem (l := l) (k := i) (by omega))
    have htk := its_take (l := l) (i := i) (by omega)
    generalize hxx : itN l i = x at hx htk
    obtain ⟨d, hd⟩ : ∃ d : Nat, x.d = (d : Int) := ⟨x.d.toNat, by omega⟩
    have hdn' : d < M.n := by omega
    have hpw : (runTo itFl l M i).2.powE (d : Int) = 0 := Bch.powE_ok (Bch.pickE_ok (by omega) (by rw [g.n]; omega)) g.dn
    have e2 : (itFl (runTo itFl l M i).2 x).2 = (runTo itFl l M i).2.set d ((runTo itFl l M i).2.D d).flushE := by
      show (runTo itFl l M i).2.flush x.d = _
      rw [hd]
      unfold Bch.flush; rw [if_neg (by simp [hpw])]; rfl
    rw [htk]
    have hDj : ∀ j, j ≠ d → upd (runTo itFl l M i).2.D d ((runTo itFl l M i).2.D d).flushE j = (runTo itFl l M i).2.D j := fun j hj => upd_other _ _ hj
    have hDd : upd (runTo itFl l M i).2.D d ((runTo itFl l M i).2.D d).flushE d = ((runTo itFl l M i).2.D d).flushE := upd_same _ _ _
    have hE : ∀ D : Dsk, D.flushE.f = D.f ∧ D.flushE.now = D.now ∧ (D.Ok → D.flushE.Ok) ∧ (D.f = false → D.flushE.ps = []) ∧ (D.ps = [] → D.flushE.ps = []) ∧ (D.f = true → D.flushE = D) := fun D => by
      unfold Dsk.flushE
      cases hfd : D.f with
      | true => rw [if_pos rfl]; exact ⟨hfd, rfl, id, (fun h => by cases h), id, fun _ => rfl⟩
      | false => rw [if_neg (by decide)]; exact ⟨hfd, rfl, fun h => h.flush, fun _ => rfl, fun _ => rfl, (fun h => by cases h)⟩
    have hg : FtG M ((runTo itFl l M i).2.set d ((runTo itFl l M i).2.D d).flushE) (l.take i ++ [x]) := by
      refine ⟨g.n, g.dn, g.lf, fun j hj => ?_, fun j hj => ?_, fun j hj => ?_, fun j hj hf h => ?_, fun j hj h => ?_, g.done, fun j hj hf => ?_⟩
      · show Dsk.f (upd _ d _ j) = _
        by_cases e : j = d
        · subst e; rw [hDd, (hE _).1]; exact g.f j hj
        · rw [hDj j e]; exact g.f j hj
      · show Dsk.Ok (upd _ d _ j)
        by_cases e : j = d
        · subst e; rw [hDd]; exact (hE _).2.2.1 (g.ok j hj)
        · rw [hDj j e]; exact g.ok j hj
      · show Dsk.now (upd _ d _ j) = _
        by_cases e : j = d
        · subst e; rw [hDd, (hE _).2.1]; exact g.now j hj
        · rw [hDj j e]; exact g.now j hj
      · show Dsk.ps (upd _ d _ j) = _
        by_cases e : j = d
        · subst e; rw [hDd]; exact (hE _).2.2.2.1 ((g.f j hj).trans hf)
        · rw [hDj j e]
          obtain ⟨y, hy, e'⟩ := h
          rcases List.mem_append.1 hy with hy | hy
          · exact g.ps j hj hf ⟨y, hy, e'⟩
          · rw [List.mem_singleton.1 hy, hd] at e'; omega
      · show Dsk.ps (upd _ d _ j) = _
        by_cases e : j = d
        · subst e; rw [hDd]; exact (hE _).2.2.2.2.1 (g.ps2 j hj h)
        · rw [hDj j e]; exact g.ps2 j hj h
      · show upd (α := Dsk) _ d _ j = _
        by_cases e : j = d
        · subst e; rw [hDd, (hE _).2.2.2.2.2 ((g.f j hj).trans hf)]; exact g.bad j hj hf
        · rw [hDj j e]; exact g.bad j hj hf
    cases hf : (M.D d).f with
    | true =>
      have e1 : (itFl (runTo itFl l M i).2 x).1 = 5 := by
        show (runTo itFl l M i).2.flushE x.d = 5
        rw [hd]
        unfold Bch.flushE; rw [if_neg (by simp [hpw]), if_pos]
        exact (g.f d hdn').trans hf
      rw [runTo_pass h0 (by rw [hxx]; exact e1), hxx, e2]
      exact ⟨rfl, hg⟩
    | false =>
      have e1 : (itFl (runTo itFl l M i).2 x).1 = 0 := by
        show (runTo itFl l M i).2.flushE x.d = 0
        rw [hd]
        unfold Bch.flushE; rw [if_neg (by simp [hpw]), if_neg]
        show ¬ ((runTo itFl l M i).2.D d).f = true
        rw [g.f d hdn', hf]; decide
      rw [runTo_goes h0 (by rw [hxx, e1]; decide), hxx]
      exact ⟨e1, by rw [e2]; exact hg⟩
/-- What is settled stands there, and nothing is pending. -/
structure StI (N M : Bch) (l : List It) : Prop where
  n : M.n = N.n
  good : GoodB M
  f : ∀ j, j < N.n → (M.D j).f = (N.D j).f
  sec : ∀ j, j < N.n → (N.D j).f = false → ∀ k, k < 52 → secAt (M.D j).now k = lastI l j k (secAt (N.D j).now k)
  done : M.done ≤ N.done + l.length
  bad : ∀ j, j < N.n → (N.D j).f = true → M.D j = N.D j
theorem settle_good {N : Bch} {l : List It} (hg : GoodB N) (hl : FitI N.n l) : (settleS N l).1 = 0 ∧ StI N (settleS N l).2 l := by
  obtain ⟨h0, g⟩ := wrote_goodI hg hl l.length (Nat.le_refl _)
  rw [List.take_length] at g
  have h0' : (wroteI N l).1 = 0 := h0
  have g' : WtG N (wroteI N l).2 l := g
  have e : settleS N l = runTo itFl l (wroteI N l).2 l.length := if_neg (fun h => h h0')
  obtain ⟨f0, f⟩ := flush_goodI (M := (wroteI N l).2) (l := l) g'.dn (fun j hj => g'.ok j (by rw [g'.n] at hj; exact hj)) (by rw [g'.n]; exact hl) l.length (Nat.le_refl _)
  rw [List.take_length] at f
  have hn := g'.n
  rw [e]
  refine ⟨f0, f.n.trans hn, ⟨f.dn, f.lf.trans g'.lf, fun j hj => f.ok j (by rw [f.n] at hj; exact hj), fun j hj => ?_⟩, fun j hj => (f.f j (by rw [hn]; exact hj)).trans (g'.f j hj), fun j hj hf k hk => ?_, by rw [f.done]; exact g'.done, fun j hj hf => ?_⟩
  · have hj1 : j < (wroteI N l).2.n := by rw [f.n] at hj; exact hj
    have hj2 : j < N.n := by rw [← hn]; exact hj1
    by_cases hp : ((wroteI N l).2.D j).ps = []
    · exact f.ps2 j hj1 hp
    · cases hf : ((wroteI N l).2.D j).f with
      | false => exact f.ps j hj1 hf (g'.ps j hj2 hp)
      | true => exact absurd (by rw [g'.bad j hj2 (by rw [← g'.f j hj2]; exact hf)]; exact hg.ps j hj2) hp
  · rw [f.now j (by rw [hn]; exact hj)]; exact g'.sec j hj hf k hk
  · rw [f.bad j (by rw [hn]; exact hj) (by rw [g'.f j hj]; exact hf)]; exact g'.bad j hj hf
end Go.Proofs.YtoomdgidpplpfaaDoor
end
section
set_option linter.unusedVariables false
set_option linter.unusedSimpArgs false
namespace Go.Proofs.YtoomdgidpplpfaaDoor

theorem logR_get' (D : Dsk) {k : Nat} (hk : k < 4) : (logR D).getD k [] = secAt D.now (2 + k) := by simp [logR, hk]
theorem logR_ext {D : Dsk} {rs : List (List UInt8)} (hl : rs.length = 4) (h : ∀ k, k < 4 → secAt D.now (2 + k) = rs.getD k []) : logR D = rs := by
  apply List.ext_getElem (by simp [logR, hl])
  intro k h1 h2
  have hk : k < 4 := by omega
  have := h k hk
  rw [List.getD_eq_getElem?_getD, List.getElem?_eq_getElem h2] at this
  simpa [logR] using this
theorem logR_same {D D' : Dsk} (h : ∀ k, k < 52 → secAt D'.now k = secAt D.now k) : logR D' = logR D :=
  List.map_congr_left fun k hk => h _ (by have := List.mem_range.1 hk; omega)
theorem gone_good {N : Bch} (h : N.down = false) (j : Nat) : goneD N j = (N.D j).f := by unfold goneD; rw [h]; rfl
theorem onS_f {N : Bch} {j : Nat} (hd : N.down = false) (h : (N.D j).f = true) : onS N j = 0 ∧ onL N j = [] ∧ onB N j = false := by
  have e : goneD N j = true := (gone_good hd j).trans h
  exact ⟨if_pos e, if_pos e, if_pos e⟩
theorem onS_ok {N : Bch} {j : Nat} (hd : N.down = false) (h : (N.D j).f = false) : onS N j = rcS (logR (N.D j)) ∧ onL N j = rcL (logR (N.D j)) ∧ onB N j = rcO (logR (N.D j)) := by
  have e : ¬ goneD N j = true := by rw [gone_good hd j, h]; decide
  exact ⟨if_neg e, if_neg e, if_neg e⟩
theorem rcS_pos (rs : List (List UInt8)) : rcO rs = decide (0 < rcS rs) := by
  unfold rcS
  cases h : rcO rs with
  | true =>
    have := ((recOk_iff _ _).1 ((rcO_iff rs).1 h).2.1).1
    rw [if_pos rfl]; exact (decide_eq_true (by omega)).symm
  | false => rfl
theorem onB_pos (N : Bch) (j : Nat) : onB N j = decide (0 < onS N j) := by
  unfold onB onS
  split
  · rfl
  · exact rcS_pos _
theorem onS_alike {N M : Bch} {j : Nat} (hd : N.down = false) (hd' : M.down = false) (hf : (M.D j).f = (N.D j).f) (h : logR (M.D j) = logR (N.D j)) : onS M j = onS N j ∧ onL M j = onL N j := by
  cases hff : (N.D j).f with
  | true => rw [(onS_f hd hff).1, (onS_f hd hff).2.1, (onS_f hd' (hf.trans hff)).1, (onS_f hd' (hf.trans hff)).2.1]; exact ⟨rfl, rfl⟩
  | false => rw [(onS_ok hd hff).1, (onS_ok hd hff).2.1, (onS_ok hd' (hf.trans hff)).1, (onS_ok hd' (hf.trans hff)).2.1, h]; exact ⟨rfl, rfl⟩
theorem onS_rec {M : Bch} {j : Nat} {s : Int} {l : List It} (hd : M.down = false) (hf : (M.D j).f = false) (hk : recOk s l = true) (h : logR (M.D j) = recB s l) : onS M j = s ∧ onL M j = l := by
  rw [(onS_ok hd hf).1, (onS_ok hd hf).2.1, h]; exact ⟨rcS_recB hk, rcL_recB hk⟩
structure PtG (N M : Bch) (lv : List Bool) (s : Int) (l : List It) : Prop where
  n : M.n = N.n
  good : GoodB M
  f : ∀ j, j < N.n → (M.D j).f = (N.D j).f
  done : M.done ≤ N.done + 32
  put : ∀ j, j < N.n → liveD N.n lv (j : Int) = true → (N.D j).f = false → onS M j = s ∧ onL M j = l
  not : ∀ j, j < N.n → ¬ (liveD N.n lv (j : Int) = true ∧ (N.D j).f = false) → onS M j = onS N j ∧ onL M j = onL N j
theorem fit_put {N : Bch} {lv : List Bool} {s : Int} {l : List It} (hk : recOk s l = true) : FitI N.n (putTo N.n lv (recB s l) N.n) := fun x hx => by
  obtain ⟨j, k, hj, hk4, _, rfl⟩ := mem_put.1 hx
  have h4 := ((sect_iff _).1 (sect_recB hk)).1
  exact ⟨by show (0 : Int) ≤ (j : Int); omega, by show (j : Int) < _; omega, by show (0 : Int) ≤ ((2 + k : Nat) : Int); omega, by show ((2 + k : Nat) : Int) < 52; omega, sect_get (sect_recB hk) k (by omega)⟩
theorem put_good {N : Bch} {lv : List Bool} {s : Int} {l : List It} (hg : GoodB N) (hn : N.n ≤ 8) (hk : recOk s l = true) : (putS N lv s l).1 = 0 ∧ PtG N (putS N lv s l).2 lv s l := by
  obtain ⟨h0, g⟩ := settle_good hg (fit_put (lv := lv) hk)
  have e : putS N lv s l = settleS N (putTo N.n lv (recB s l) N.n) := if_pos hk
  have h4 := ((sect_iff _).1 (sect_recB hk)).1
  rw [e]
  refine ⟨h0, g.n, g.good, g.f, ?_, fun j hj hl hf => ?_, fun j hj h => ?_⟩
  · have h1 := putTo_len N.n lv (recB s l) N.n
    have h2 : N.n * (recB s l).length ≤ 32 := by rw [h4]; omega
    have := g.done; omega
  · refine onS_rec g.good.dn ((g.f j hj).trans hf) hk (logR_ext h4 fun k hk4 => ?_)
    rw [g.sec j hj hf (2 + k) (by omega)]
    refine lastI_one (fun x hx he => ?_) (.inr ⟨secIt j (recB s l) k, mem_put.2 ⟨j, k, hj, by omega, hl, rfl⟩, rfl, rfl⟩)
    obtain ⟨j', k', _, _, _, rfl⟩ := mem_put.1 hx
    have h2 : ((2 + k' : Nat) : Int) = ((2 + k : Nat) : Int) := he.2
    obtain rfl : k' = k := by omega
    rfl
  · cases hf : (N.D j).f with
    | true => rw [(onS_f hg.dn hf).1, (onS_f hg.dn hf).2.1, (onS_f g.good.dn ((g.f j hj).trans hf)).1, (onS_f g.good.dn ((g.f j hj).trans hf)).2.1]; exact ⟨rfl, rfl⟩
    | false =>
      have hl : liveD N.n lv (j : Int) = false := by rw [← Bool.not_eq_true]; exact fun q => h ⟨q, hf⟩
      refine onS_alike hg.dn g.good.dn (g.f j hj) (logR_same fun k hk52 => ?_)
      rw [g.sec j hj hf k hk52]
      refine lastI_none fun x hx he => ?_
      obtain ⟨j', k', _, _, hl', rfl⟩ := mem_put.1 hx
      have h2 : ((j' : Nat) : Int) = (j : Int) := he.1
      obtain rfl : j' = j := by omega
      rw [hl] at hl'; cases hl'
structure ApG (N M : Bch) (lv : List Bool) (l : List It) : Prop where
  n : M.n = N.n
  good : GoodB M
  f : ∀ j, j < N.n → (M.D j).f = (N.D j).f
  done : M.done ≤ N.done + 3
  has : ∀ j, j < N.n → onS M j = onS N j ∧ onL M j = onL N j
  sec : ∀ j, j < N.n → (N.D j).f = false → ∀ k, k < 52 → secAt (M.D j).now k = lastI (l.filter (liveI N.n lv)) j k (secAt (N.D j).now k)
  at' : ∀ x ∈ l, liveD N.n lv x.d = true → (N.D x.d.toNat).f = false → secAt (M.D x.d.toNat).now x.a.toNat = x.b
  not : ∀ j, j < N.n → (N.D j).f = false → ∀ k : Nat, k < 52 → (∀ x ∈ l, liveD N.n lv x.d = true → ¬ (x.d = (j : Int) ∧ x.a = (k : Int))) → secAt (M.D j).now k = secAt (N.D j).now k
theorem recOk_once {s : Int} {l : List It} (h : recOk s l = true) (x y : It) (hx : x ∈ l) (hy : y ∈ l) (hd : x.d = y.d) (ha : x.a = y.a) : x = y := by
  obtain ⟨i, hi, ei⟩ := List.getElem_of_mem hx
  obtain ⟨j, hj, ej⟩ := List.getElem_of_mem hy
  have hi2 : itN l i = x := by rw [← ei]; simp [itN, List.getD_eq_getElem?_getD, hi]
  have hj2 : itN l j = y := by rw [← ej]; simp [itN, List.getD_eq_getElem?_getD, hj]
  have hf := (fineN_iff _ _).1 ((recOk_iff s l).1 h).2
  have hm : meetsB x y = true := (meetsB_iff _ _).2 ⟨hd, ha⟩
  have hm2 : meetsB y x = true := (meetsB_iff _ _).2 ⟨hd.symm, ha.symm⟩
  rcases Nat.lt_trichotomy i j with q | q | q
  · have := (hf j hj).2 i q; rw [hi2, hj2, hm2] at this; cases this
  · subst q; exact hi2.symm.trans hj2
  · have := (hf i hi).2 j q; rw [hi2, hj2, hm] at this; cases this
theorem app_good {N : Bch} {lv : List Bool} {s : Int} {l : List It} (hg : GoodB N) (hk : recOk s l = true) : (appS N lv s l).1 = 0 ∧ ApG N (appS N lv s l).2 lv l := by
  have hfit : FitI N.n (l.filter (liveI N.n lv)) := fun x hx => by
    obtain ⟨h1, h2⟩ := List.mem_filter.1 hx
    have h3 := recOk_may hk x h1
    unfold liveI liveD at h2
    have h4 : x.d < (N.n : Int) := by
      have := (Bool.and_eq_true_iff.1 h2).1
      exact of_decide_eq_true this
    exact ⟨h3.1, h4, by omega, h3.2.2.2.1, h3.2.2.2.2⟩
  obtain ⟨h0, g⟩ := settle_good hg hfit
  have e : appS N lv s l = settleS N (l.filter (liveI N.n lv)) := if_pos hk
  have hl3 := ((recOk_iff s l).1 hk).1.2.2
  have hlen := List.length_filter_le (liveI N.n lv) l
  rw [e]
  have hnot : ∀ j, j < N.n → (N.D j).f = false → ∀ k : Nat, k < 52 → (∀ x ∈ l, liveD N.n lv x.d = true → ¬ (x.d = (j : Int) ∧ x.a = (k : Int))) → secAt ((settleS N (l.filter (liveI N.n lv))).2.D j).now k = secAt (N.D j).now k := fun j hj hf k hk52 h => by
    rw [g.sec j hj hf k hk52]
    exact lastI_none fun x hx he => h x (List.mem_filter.1 hx).1 (List.mem_filter.1 hx).2 he
  refine ⟨h0, g.n, g.good, g.f, by have := g.done; omega, fun j hj => ?_, g.sec, fun x hx hl hf => ?_, hnot⟩
  · cases hf : (N.D j).f with
    | true => rw [(onS_f hg.dn hf).1, (onS_f hg.dn hf).2.1, (onS_f g.good.dn ((g.f j hj).trans hf)).1, (onS_f g.good.dn ((g.f j hj).trans hf)).2.1]; exact ⟨rfl, rfl⟩
    | false =>
      refine onS_alike hg.dn g.good.dn (g.f j hj) (List.map_congr_left fun k hk4 => hnot j hj hf (2 + k) (by have := List.mem_range.1 hk4; omega) fun x hx _ he => ?_)
      have h3 := recOk_may hk x hx
      have := List.mem_range.1 hk4
      omega
  · have h3 := recOk_may hk x hx
    have hmem : x ∈ l.filter (liveI N.n lv) := List.mem_filter.2 ⟨hx, hl⟩
    have hn := (hfit x hmem).2.1
    rw [g.sec x.d.toNat (by omega) hf x.a.toNat (by omega)]
    refine lastI_one (fun y hy he => ?_) (.inr ⟨x, hmem, by omega, by omega⟩)
    rw [recOk_once hk y x (List.mem_filter.1 hy).1 hx (by omega) (by omega)]
theorem goodB_new (n : Nat) : GoodB (Bch.new n) := ⟨rfl, rfl, fun _ _ => Dsk.new_ok, fun _ _ => rfl⟩
/-- A mark that is none: nothing is found. -/
theorem rcO_mark {rs : List (List UInt8)} (h : (rs.getD 0 []).getD 0 0 ≠ 87) : rcO rs = false := by
  rw [← Bool.not_eq_true]
  intro h'
  obtain ⟨_, hk, e⟩ := (rcO_iff rs).1 h'
  apply h
  rw [← e, recB_by ((recOk_iff _ _).1 hk).1.2.2 0 (by omega)]
  rfl
theorem getS_new (n : Nat) (lv : List Bool) (hn : n ≤ 8) : getS (Bch.new n) lv = (0, []) := by
  have h : ∀ d, d ≤ n → getTo (Bch.new n) lv d = (0, []) := fun d => by
    induction d with
    | zero => intro _; rfl
    | succ d ih =>
      intro hd
      have e : onB (Bch.new n) d = false := by
        rw [(onS_ok (N := Bch.new n) (j := d) rfl rfl).2.2]
        apply rcO_mark
        rw [logR_get' _ (by omega)]
        show (secAt Dsk.new.now 2).getD 0 0 ≠ 87
        rw [new_now, sec_zero (by omega)]
        decide
      rw [getTo, if_neg (fun q => by rw [e] at q; exact absurd q.2.1 (by decide))]
      exact ih (by omega)
  exact h n (Nat.le_refl _)
end Go.Proofs.YtoomdgidpplpfaaDoor
end
section
set_option maxRecDepth 8000
set_option linter.unusedVariables false
set_option linter.unusedSimpArgs false
namespace Go.Proofs.YtoomdgidpplpfaaDoor
open Go.RowKit

theorem its64_ok {s : Int} {l : List It} (h : recOk s l = true) : Its64 l := fun k hk => by
  have := recOk_may h _ (itN_mem hk)
  exact ⟨by omega, by omega⟩
theorem s64_ok {s : Int} {l : List It} (h : recOk s l = true) : (-9223372036854775808 ≤ s ∧ s ≤ 9223372036854775807) := by
  have := ((recOk_iff s l).1 h).1; omega
theorem GoodB.len {N : Bch} (h : GoodB N) : ∀ i, i < N.n → (N.D i).ps.length ≤ 1000000 := fun i hi => by rw [h.ps i hi]; exact Nat.zero_le _
section
variable {W w : World} {b : Nat} {H : BH} {N : Bch} {K : List (Nat × Obj)} (h : KX W w b H N K)
include h
theorem KX.rdo {g : Nat} {cs : Array Value} {t : TypeId} {f : Nat × Nat} {lv : List Bool} (hm : (g, Obj.cells cs t f) ∈ K) (hcs : cs = (lv.map Value.bool).toArray) (hl : lv.length ≤ 1000000) : RdO w w.heap.size (some ⟨g, 0, none⟩) lv := rdo_row (h.kp _ hm).1 hcs hl
theorem KX.n8 : N.n ≤ 8 := h.bp.at'.ok.n.2
theorem kx_put (ht : TabOk W) (hg : GoodB N) (hdn : N.done ≤ 1000000) (lv : List Bool) (LA : Option Addr) (ln lc : Nat) (hln : ln = lv.length) (hlv : RdO w w.heap.size LA lv)
    (s : Int) (l : List It) (A : Option Addr) (n c : Nat) (hn : n = l.length) (hnc : n ≤ c) (hrd : RdI w w.heap.size A l) (hk : recOk s l = true) :
    Calls Tryd.prog 12 #[.pointer (some ⟨b, 0, none⟩), .slice LA ln lc, .agg #[.int .i64 s, .slice A n c]] w fun e w' => e = .returned (.int .i64 0) ∧ ∃ H' M, KX W w' b H' M K ∧ PtG N M lv s l := by
  obtain ⟨h0, g⟩ := put_good (lv := lv) hg h.n8 hk
  refine (put_any W w b H N h.bp ht lv LA ln lc hln hlv s l A n c hn hnc hrd (its64_ok hk) (s64_ok hk) hg.len hdn).mono ?_
  rintro e w' ⟨rfl, hc⟩
  rw [h0]
  obtain ⟨H', k⟩ := h.bc hc (put_n _ _ _ _)
  exact ⟨rfl, H', _, k, g⟩
theorem kx_putNo (ht : TabOk W) (hg : GoodB N) (hdn : N.done ≤ 1000000) (lv : List Bool) (LA : Option Addr) (ln lc : Nat) (hln : ln = lv.length) (hlv : RdO w w.heap.size LA lv)
    (s : Int) (l : List It) (A : Option Addr) (n c : Nat) (hn : n = l.length) (hnc : n ≤ c) (hrd : RdI w w.heap.size A l) (h64 : Its64 l) (hs : (-9223372036854775808 ≤ s ∧ s ≤ 9223372036854775807)) (hk : recOk s l = false) :
    Calls Tryd.prog 12 #[.pointer (some ⟨b, 0, none⟩), .slice LA ln lc, .agg #[.int .i64 s, .slice A n c]] w fun e w' => e = .returned (.int .i64 1) ∧ ∃ H', KX W w' b H' N K := by
  have e : putS N lv s l = (1, N) := if_neg (by simp [hk])
  refine (put_any W w b H N h.bp ht lv LA ln lc hln hlv s l A n c hn hnc hrd h64 hs hg.len hdn).mono ?_
  rintro e' w' ⟨rfl, hc⟩
  rw [e] at hc ⊢
  obtain ⟨H', k⟩ := h.bc hc rfl
  exact ⟨rfl, H', k⟩
theorem kx_app (hg : GoodB N) (hdn : N.done ≤ 1000000) (lv : List Bool) (LA : Option Addr) (ln lc : Nat) (hln : ln = lv.length) (hlv : RdO w w.heap.size LA lv)
    (s : Int) (l : List It) (A : Option Addr) (n c : Nat) (hn : n = l.length) (hnc : n ≤ c) (hrd : RdIF w (BF b H N.n) A l) (hk : recOk s l = true) :
    Calls Tryd.prog 16 #[.pointer (some ⟨b, 0, none⟩), .slice LA ln lc, .agg #[.int .i64 s, .slice A n c]] w fun e w' => e = .returned (.int .i64 0) ∧ ∃ H' M, KX W w' b H' M K ∧ ApG N M lv l ∧ Chg (BF b H N.n) w w' := by
  obtain ⟨h0, g⟩ := app_good (lv := lv) hg hk
  refine (app_any W w b H N h.bp lv LA ln lc hln hlv s l A n c hn hnc hrd (its64_ok hk) (s64_ok hk) hg.len hdn).mono ?_
  rintro e w' ⟨rfl, hc⟩
  rw [h0]
  obtain ⟨H', k⟩ := h.bc hc (app_n _ _ _ _)
  obtain ⟨_, _, hch, _⟩ := hc
  exact ⟨rfl, H', _, k, g, hch⟩
theorem kx_appNo (hg : GoodB N) (hdn : N.done ≤ 1000000) (lv : List Bool) (LA : Option Addr) (ln lc : Nat) (hln : ln = lv.length) (hlv : RdO w w.heap.size LA lv)
    (s : Int) (l : List It) (A : Option Addr) (n c : Nat) (hn : n = l.length) (hnc : n ≤ c) (hrd : RdIF w (BF b H N.n) A l) (h64 : Its64 l) (hs : (-9223372036854775808 ≤ s ∧ s ≤ 9223372036854775807)) (hk : recOk s l = false) :
    Calls Tryd.prog 16 #[.pointer (some ⟨b, 0, none⟩), .slice LA ln lc, .agg #[.int .i64 s, .slice A n c]] w fun e w' => e = .returned (.int .i64 1) ∧ ∃ H', KX W w' b H' N K := by
  have e : appS N lv s l = (1, N) := if_neg (by simp [hk])
  refine (app_any W w b H N h.bp lv LA ln lc hln hlv s l A n c hn hnc hrd h64 hs hg.len hdn).mono ?_
  rintro e' w' ⟨rfl, hc⟩
  rw [e] at hc ⊢
  obtain ⟨H', k⟩ := h.bc hc rfl
  exact ⟨rfl, H', k⟩
theorem kx_get (ht : TabOk W) (lv : List Bool) (LA : Option Addr) (ln lc : Nat) (hln : ln = lv.length) (hlv : RdO w w.heap.size LA lv) (s : Int) (l : List It) (hgs : getS N lv = (s, l)) :
    Calls Tryd.prog 13 #[.pointer (some ⟨b, 0, none⟩), .slice LA ln lc] w fun e w' => ∃ A c, e = .returned (.tuple #[.agg #[.int .i64 s, .slice A l.length c], .bool (decide (0 < s))]) ∧ l.length ≤ c ∧ OwIt 43 w' w.heap.size w.heap.size (.slice A l.length c) l ∧ KX W w' b H N K ∧ Below w.heap.size w w' := by
  refine (get_any _ b H N w h.bp.at' (ht.below h.bp.bel ht.pos) lv LA ln lc hln hlv).mono ?_
  rintro e w' ⟨v, rfl, ho, hb⟩
  rw [hgs] at ho ⊢
  obtain ⟨A, c, rfl, hc, _⟩ := ho.rd
  exact ⟨A, c, rfl, hc, ho, h.below hb, hb⟩
end
set_option maxHeartbeats 1000000 in
theorem wakesLg_any (W : World) (ht : TabOk W) : Calls Tryd.prog 11 #[] W fun e w' => e = .returned (.bool true) ∧ Below W.heap.size W w' := by
  have hpn := ptr_eq
  have CN := Lib.hid (bp_new 3 W W (Below.refl _ _) (by omega))
  have Ht := Lib.hid ht
  clear ht
  go_enter Tryd.func11, Tryd.ntmps11
  go_wp2_with fail
  refine CN.out.mono ?_
  rintro e w ⟨b, H, rfl, hp, _, _⟩
  unfold ptr
  have K1 : Hid (KX W w b H (Bch.new 3) []) := ⟨hp, fun p hp => by cases hp⟩
  have K2 := Lib.hid (K1.out.add (.cells #[.bool true, .bool true, .bool true] 4 (0, 0)))
  have R2 := Lib.hid (K2.out.rdo (List.mem_cons_self ..) (lv := [true, true, true]) rfl (by decide))
  clear hp CN
  go_wp2_with (go_at_call 13; refine (kx_get K2.out Ht.out [true, true, true] (some ⟨w.heap.size, 0, none⟩) 3 3 rfl R2.out 0 [] (getS_new 3 _ (by omega))).mono ?_; rintro e w1 ⟨A, c, rfl, _, _, k3, _⟩; have K3 := Lib.hid k3; clear k3)
  have K4 := Lib.hid ((K3.out.below (below1 w1 (.cells #[.int .i64 0, .slice A 0 c] 29 (0, 0)))).add (.cells #[.bool true] 4 (0, 0)))
  rw [show (w1.alloc (.cells #[.int .i64 0, .slice A 0 c] 29 (0, 0))).heap.size = w1.heap.size + 1 by simp] at K4
  have R4 := Lib.hid (K4.out.rdo (List.mem_cons_self ..) (lv := [true]) rfl (by decide))
  go_wp2_with (go_at_call 12; refine (kx_put K4.out Ht.out (goodB_new 3) (by show (0 : Nat) ≤ _; omega) [true] (some ⟨w1.heap.size + 1, 0, none⟩) 1 1 rfl R4.out 1 [] none 0 0 rfl (Nat.le_refl _) (RdI.nil _ _ _) (by decide)).mono ?_; rintro e w2 ⟨rfl, H5, M5, k5, _⟩; have K5 := Lib.hid k5; clear k5)
  go_ret
  exact ⟨rfl, K5.out.bp.bel⟩
end Go.Proofs.YtoomdgidpplpfaaDoor
end
