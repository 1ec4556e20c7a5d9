/- Texts put together: LogGet. -/
import Derived.Test.YtkbhnbkjpnigkaaDoorLday
section
set_option maxRecDepth 8000
set_option linter.unusedVariables false
set_option linter.unusedSimpArgs false
namespace Go.Proofs.YtkbhnbkjpnigkaaDoor
open Go.RowKit

theorem getTo_live {N : Bch} {lv : List Bool} {d : Nat} (h : liveD N.n lv (d : Int) = false) : getTo N lv (d + 1) = getTo N lv d := by
  rw [getTo, if_neg (fun q => by rw [h] at q; exact absurd q.1 (by decide))]
theorem getTo_none {N : Bch} {lv : List Bool} {d : Nat} (h : onB N d = false) : getTo N lv (d + 1) = getTo N lv d := by
  rw [getTo, if_neg (fun q => by rw [h] at q; exact absurd q.2.1 (by decide))]
theorem getTo_less {N : Bch} {lv : List Bool} {d : Nat} (h : ¬ (getTo N lv d).1 < onS N d) : getTo N lv (d + 1) = getTo N lv d := by
  rw [getTo, if_neg (fun q => h q.2.2)]
theorem getTo_yes {N : Bch} {lv : List Bool} {d : Nat} (h1 : liveD N.n lv (d : Int) = true) (h2 : onB N d = true) (h3 : (getTo N lv d).1 < onS N d) : getTo N lv (d + 1) = (onS N d, onL N d) := by
  rw [getTo, if_pos ⟨h1, h2, h3⟩]
/-- The answer's own box, and the best one's box. -/
structure GtS (w : World) (s : Int) (A : Option Addr) (c : Nat) (l : List It) (V : World) : Prop where
  box : DcS w V
  c0 : V.cell? ⟨w.heap.size + 1, 0, none⟩ = some (.int .i64 s)
  c1 : V.cell? ⟨w.heap.size + 1, 1, none⟩ = some (.slice A l.length c)
  fz : ∀ i, V.frozen? ⟨w.heap.size + 1, i, none⟩ = false
  own : OwIt 43 V (w.heap.size + 2) (w.heap.size + 2) (.slice A l.length c) l
section
variable {w V V' : World} {s : Int} {A : Option Addr} {c : Nat} {l : List It}
theorem GtS.lt (h : GtS w s A c l V) : w.heap.size + 1 < V.heap.size := World.block_lt_of_cell? _ _ h.c0
theorem GtS.start (w : World) (t : TypeId) : GtS w 0 none 0 [] ((w.alloc (.cells #[.int .i64 0, .slice none 0 0] t)).alloc (.cells #[.int .i64 0, .slice none 0 0] t)) := by
  have hz : (w.alloc (.cells #[.int .i64 0, .slice none 0 0] t)).heap.size = w.heap.size + 1 := by simp
  have k := fun i => cell_of_row _ _ i _ _ _ (heap_alloc_new (w.alloc (.cells #[.int .i64 0, .slice none 0 0] t)) (.cells #[.int .i64 0, .slice none 0 0] t))
  have f := fun i => World.frozen?_alloc_new (w.alloc (.cells #[.int .i64 0, .slice none 0 0] t)) #[.int .i64 0, .slice none 0 0] t i
  rw [hz] at k
  exact ⟨(DcS.start w t).below (below1 _ _), k 0, k 1, fun i => by have := f i; rwa [hz] at this, OwIt.nil _ _ _ _⟩
theorem GtS.below (h : GtS w s A c l V) (hb : Below V.heap.size V V') : GtS w s A c l V' :=
  ⟨h.box.below hb, (hb.cell (p := ⟨w.heap.size + 1, 0, none⟩) h.lt).trans h.c0, (hb.cell (p := ⟨w.heap.size + 1, 1, none⟩) h.lt).trans h.c1, fun i => (hb.frozen (p := ⟨w.heap.size + 1, i, none⟩) h.lt).trans (h.fz i), h.own.below hb⟩
theorem GtS.put (h : GtS w s A c l V) (y : Int) (A' : Option Addr) (c' : Nat) (m : List It) (ho : OwIt 43 V (w.heap.size + 2) (w.heap.size + 2) (.slice A' m.length c') m) :
    GtS w y A' c' m ((V.setCell ⟨w.heap.size + 1, 0, none⟩ (.int .i64 y)).setCell ⟨w.heap.size + 1, 1, none⟩ (.slice A' m.length c')) := by
  have g1 := grown_cell V (w.heap.size + 1) 0 (.int .i64 y)
  have g2 := grown_cell (V.setCell ⟨w.heap.size + 1, 0, none⟩ (.int .i64 y)) (w.heap.size + 1) 1 (.slice A' m.length c')
  have k1 : (V.setCell ⟨w.heap.size + 1, 0, none⟩ (.int .i64 y)).cell? ⟨w.heap.size + 1, 1, none⟩ = some (.slice A l.length c) := (World.cell?_setCell_other _ _ _ _ (by intro e; injection e with _ e; cases e)).trans h.c1
  have hne : ∀ i, some (⟨w.heap.size, i, none⟩ : Addr).block ≠ some (w.heap.size + 1) := fun i e => by injection e with e; have h1 : w.heap.size = w.heap.size + 1 := e; omega
  have hlt := h.box.plt
  have hlt1 : w.heap.size < (V.setCell ⟨w.heap.size + 1, 0, none⟩ (.int .i64 y)).heap.size := by simpa using hlt
  refine ⟨⟨(h.box.1.setCell (p := ⟨w.heap.size + 1, 0, none⟩) (by show w.heap.size ≤ w.heap.size + 1; omega) _).setCell (p := ⟨w.heap.size + 1, 1, none⟩) (by show w.heap.size ≤ w.heap.size + 1; omega) _, ?_, ?_, fun i => by rw [World.frozen?_setCell, World.frozen?_setCell]; exact h.box.2.2.2 i⟩, ?_, World.cell?_setCell_same _ _ _ k1, fun i => by rw [World.frozen?_setCell, World.frozen?_setCell]; exact h.fz i, (ho.far g1 (by omega) (by omega)).far g2 (by omega) (by omega)⟩
  · exact (g2.cell_far _ hlt1 (hne 0)).trans ((g1.cell_far _ hlt (hne 0)).trans h.box.2.1)
  · exact (g2.cell_far _ hlt1 (hne 1)).trans ((g1.cell_far _ hlt (hne 1)).trans h.box.2.2.1)
  · exact (World.cell?_setCell_other _ _ _ _ (by intro e; injection e with _ e; cases e)).trans (World.cell?_setCell_same _ _ _ h.c0)
end
set_option maxHeartbeats 4000000 in
theorem get_any (B b : Nat) (H : BH) (N : Bch) (w : World) (h : BAt w B b H N) (ht : TabOk w) (lv : List Bool) (LA : Option Addr) (ln lc : Nat) (hln : ln = lv.length) (hlv : RdO w w.heap.size LA lv) :
    Calls Tryd.prog 13 #[ptr b, .slice LA ln lc] w fun e w' => ∃ v, e = .returned (.tuple #[.agg #[.int .i64 (getS N lv).1, v], .bool (decide (0 < (getS N lv).1))]) ∧ OwIt 43 w' w.heap.size w.heap.size v (getS N lv).2 ∧ Below w.heap.size w w' := by
  subst hln
  have hn8 := h.ok.n
  have Ht := Lib.hid ht
  have Htp := ht.pos
  have CN := Lib.hid (fun V (hV : Below w.heap.size w V) => bch_len_any _ b H N V (h.below hV))
  have CL := Lib.hid (fun V (hV : Below w.heap.size w V) (d : Nat) (hd : d < N.n) => isLive_any _ b H N V (h.below hV) lv LA lv.length lc rfl (hlv.keep hV.size fun p hp => hV.cell hp) (d : Int) (by omega) (by omega))
  have CO := Lib.hid (fun V (hV : Below w.heap.size w V) (d : Nat) (hd : d < N.n) => onDiskL_any _ b H N V (h.below hV) d hd (ht.below hV ht.pos))
  have S0 := Lib.hid (GtS.start w 29)
  clear h hlv ht
  unfold ptr at CN CL CO ⊢
  go_enter Tryd.func13, Tryd.ntmps13
  obtain ⟨W0, hW0⟩ : ∃ W, ((w.alloc (.cells #[.int .i64 0, .slice none 0 0] 29)).alloc (.cells #[.int .i64 0, .slice none 0 0] 29)) = W := ⟨_, rfl⟩
  rw [hW0] at S0
  go_wp2_with (go_at_call 33; refine (CN.out _ S0.out.box.1).mono ?_; rintro e w3 ⟨rfl, h3⟩; obtain rfl : W0 = w3 := h3.symm)
  go_loopw [12] (fun i wr => ∃ d : Nat, d ≤ N.n ∧ i = .int .i64 d ∧ ∃ A c, GtS w (getTo N lv d).1 A c (getTo N lv d).2 wr) (fun i _ => N.n - (intOf i).toNat)
  case atStart => exact ⟨0, Nat.zero_le _, rfl, none, 0, S0.out⟩
  case round =>
    obtain ⟨d, hd, rfl, A, c, hS⟩ := hrel
    have HS := Lib.hid hS
    clear hS
    by_cases hlt : d < N.n
    · have k0 : (0 : Int) ≤ (d : Int) := by omega
      have k1 : (d : Int) < (N.n : Int) := by omega
      have CLd := Lib.hid (CL.out wr HS.out.box.1 d hlt)
      have COd := Lib.hid (CO.out wr HS.out.box.1 d hlt)
      have Hl := Lib.hid (getTo_live (N := N) (lv := lv) (d := d))
      have Hn := Lib.hid (getTo_none (N := N) (lv := lv) (d := d))
      have Hs := Lib.hid (getTo_less (N := N) (lv := lv) (d := d))
      have Hy := Lib.hid (getTo_yes (N := N) (lv := lv) (d := d))
      cases hx : liveD N.n lv (d : Int) with
      | false =>
        rw [hx] at CLd
        have Hl := Lib.hid (Hl.out hx)
        clear hx Hn Hs Hy COd
        go_wp2_with (go_at_call 34; refine CLd.out.mono ?_; rintro e w5 ⟨rfl, rfl⟩)
        go_roundw
        case rel => exact ⟨d + 1, by omega, by go_num, A, c, by rw [Hl.out]; exact HS.out⟩
        case measure => simp [intOf]; omega
      | true =>
        rw [hx] at CLd
        have Hy := Lib.hid (Hy.out hx)
        clear hx Hl
        have hs64 := onS_le N d
        obtain ⟨s, l, hsl⟩ : ∃ s l, getTo N lv d = (s, l) := ⟨_, _, rfl⟩
        rw [hsl] at HS Hn Hs Hy
        clear hsl
        obtain ⟨y, hy⟩ : ∃ y, onS N d = y := ⟨_, rfl⟩
        obtain ⟨m, hm⟩ : ∃ m, onL N d = m := ⟨_, rfl⟩
        rw [hy] at Hs Hy COd hs64
        rw [hm] at Hy COd
        clear hy hm
        go_wp2_with (go_at_call 34; refine CLd.out.mono ?_; rintro e w5 ⟨rfl, h5⟩; obtain rfl : wr = w5 := h5.symm)
        refine COd.out.mono ?_
        rintro e w6 ⟨v, rfl, ho, hb⟩
        obtain ⟨A6, c6, rfl, hc6, _⟩ := ho.rd
        have hS6 := HS.out.below hb
        have hz := HS.out.lt
        replace ho := ho.le (B' := w.heap.size + 2) (lo' := w.heap.size + 2) (by omega) (by omega)
        have B7 := below1 w6 (.cells #[.int .i64 y, .slice A6 m.length c6] 29)
        have hS7 := Lib.hid (hS6.below B7)
        have ho7 := Lib.hid (ho.below B7)
        have hz6 := hS6.lt
        have q := fun i => cell_of_row _ _ i _ _ _ (heap_alloc_new w6 (.cells #[.int .i64 y, .slice A6 m.length c6] 29))
        obtain ⟨q0, q1⟩ := And.intro (q 0) (q 1)
        have p0 := hS7.out.c0
        have p1 := hS7.out.c1
        obtain ⟨f0, f1⟩ := And.intro (hS7.out.fz 0) (hS7.out.fz 1)
        have HP := Lib.hid (hS7.out.put y A6 c6 m ho7.out)
        clear hb hS6 B7 q ho
        generalize hW7 : w6.alloc (.cells #[.int .i64 y, .slice A6 m.length c6] 29) = W7 at hS7 ho7 q0 q1 p0 p1 f0 f1 HP
        cases hb2 : onB N d with
        | false =>
          have Hn := Lib.hid (Hn.out hb2)
          clear hb2 Hs Hy HP
          go_wp2
          go_roundw
          case rel => exact ⟨d + 1, by omega, by go_num, A, c, by rw [Hn.out]; exact hS7.out⟩
          case measure => simp [intOf]; omega
        | true =>
          have Hy := Lib.hid (Hy.out hb2)
          clear hb2 Hn
          by_cases hgt : s < y
          · have Hy := Lib.hid (Hy.out hgt)
            clear Hs
            go_wp2
            go_roundw
            case rel => exact ⟨d + 1, by omega, by go_num, A6, c6, by rw [Hy.out]; exact HP.out⟩
            case measure => simp [intOf]; omega
          · have Hs := Lib.hid (Hs.out (by omega))
            clear Hy HP
            go_wp2
            go_roundw
            case rel => exact ⟨d + 1, by omega, by go_num, A, c, by rw [Hs.out]; exact hS7.out⟩
            case measure => simp [intOf]; omega
    · obtain rfl : d = N.n := by omega
      have HE : Hid (getS N lv = getTo N lv N.n) := rfl
      have hle := getTo_le N lv N.n
      obtain ⟨s, l, hsl⟩ : ∃ s l, getTo N lv N.n = (s, l) := ⟨_, _, rfl⟩
      rw [hsl] at HS HE hle
      clear hsl
      dsimp only at HS hle
      obtain ⟨p0, p1, pb, po⟩ := HS.out.box.put s (.slice A l.length c)
      have Hpo := Lib.hid (po l (HS.out.own.le (by omega) (by omega)))
      have Hpb := Lib.hid pb
      obtain ⟨q0, q1, q2, q3⟩ := HS.out.box
      obtain ⟨q4, q5⟩ := And.intro (q3 0) (q3 1)
      have c0 := HS.out.c0
      have c1 := HS.out.c1
      clear CN CL CO Ht S0 q3 po pb hW0 HS q0
      have r0 : (((wr.setCell ⟨w.heap.size, 0, none⟩ (.int .i64 s)).setCell ⟨w.heap.size, 1, none⟩ (.slice A l.length c)).drew).cell? ⟨w.heap.size, 0, none⟩ = some (.int .i64 s) := p0
      have r1 : (((wr.setCell ⟨w.heap.size, 0, none⟩ (.int .i64 s)).setCell ⟨w.heap.size, 1, none⟩ (.slice A l.length c)).drew).cell? ⟨w.heap.size, 1, none⟩ = some (.slice A l.length c) := p1
      have Hpb2 := Lib.hid Hpb.out.drew
      have Hpo2 := Lib.hid (Hpo.out.below (Below.refl _ _).drew)
      by_cases hgt : 0 < s
      · have HD := Lib.hid (show decide (0 < s) = true from decide_eq_true hgt)
        go_wp2_with fail
        go_region
        go_wp2
        refine bodyPost_ret (v := .tuple #[.agg #[.int .i64 s, .slice A l.length c], .bool true]) (by simp [results, Tryd.results13, go_sem, r0, r1]) rfl ⟨_, by rw [HE.out, HD.out], by rw [HE.out]; exact Hpo2.out, Hpb2.out⟩
      · have HD := Lib.hid (show decide (0 < s) = false from decide_eq_false hgt)
        go_wp2_with fail
        go_region
        go_wp2
        refine bodyPost_ret (v := .tuple #[.agg #[.int .i64 s, .slice A l.length c], .bool false]) (by simp [results, Tryd.results13, go_sem, r0, r1]; omega) rfl ⟨_, by rw [HE.out, HD.out], by rw [HE.out]; exact Hpo2.out, Hpb2.out⟩
end Go.Proofs.YtkbhnbkjpnigkaaDoor
end
