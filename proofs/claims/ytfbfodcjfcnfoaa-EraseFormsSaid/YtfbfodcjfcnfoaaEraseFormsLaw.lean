/- EraseForms' walk. -/
import Derived.Test.YtfbfodcjfcnfoaaEraseSame
import Derived.Test.YtfbfodcjfcnfoaaEraseWakes
import Derived.Test.YtfbfodcjfcnfoaaEraseRows
import Derived.Test.YtfbfodcjfcnfoaaSameInt
import Derived.Test.YtfbfodcjfcnfoaaOwnStep
namespace Go.Proofs.Ytfbfodcjfcnfoaa
open Go.RowKit

/-- A slice: where, its room, its bytes; rows of four. -/
abbrev Sl := Option Addr × Nat × List UInt8
def Sl.val (s : Sl) : Value := .slice s.1 s.2.2.length s.2.1
def nilS : Sl := (none, 0, [])
def RdS (W : World) (s : Sl) : Prop := RdB W W.heap.size s.1 s.2.2
def EItems (W : World) (g : Nat) (its : List (Sl × Sl × Sl × Sl)) : Prop := ∀ j, j < its.length → W.cell? ⟨g, j * 4, none⟩ = some (its.getD j (nilS, nilS, nilS, nilS)).1.val ∧ W.cell? ⟨g, j * 4 + 1, none⟩ = some (its.getD j (nilS, nilS, nilS, nilS)).2.1.val ∧ W.cell? ⟨g, j * 4 + 2, none⟩ = some (its.getD j (nilS, nilS, nilS, nilS)).2.2.1.val ∧ W.cell? ⟨g, j * 4 + 3, none⟩ = some (its.getD j (nilS, nilS, nilS, nilS)).2.2.2.val
theorem EItems.below {W W' : World} {g : Nat} {its : List (Sl × Sl × Sl × Sl)} (h : EItems W g its) {B : Nat} (hb : Below B W W') (hB : g < B) : EItems W' g its := fun j hj => by
  obtain ⟨h1, h2, h3, h4⟩ := h j hj
  exact ⟨(hb.cell (p := ⟨g, j * 4, none⟩) hB).trans h1, (hb.cell (p := ⟨g, j * 4 + 1, none⟩) hB).trans h2, (hb.cell (p := ⟨g, j * 4 + 2, none⟩) hB).trans h3, (hb.cell (p := ⟨g, j * 4 + 3, none⟩) hB).trans h4⟩
def cells4 (its : List (Sl × Sl × Sl × Sl)) : List Value := its.flatMap fun r => [r.1.val, r.2.1.val, r.2.2.1.val, r.2.2.2.val]
theorem cells4_get : ∀ (its : List (Sl × Sl × Sl × Sl)) (j : Nat), j < its.length → (cells4 its)[j * 4]? = some (its.getD j (nilS, nilS, nilS, nilS)).1.val ∧ (cells4 its)[j * 4 + 1]? = some (its.getD j (nilS, nilS, nilS, nilS)).2.1.val ∧ (cells4 its)[j * 4 + 2]? = some (its.getD j (nilS, nilS, nilS, nilS)).2.2.1.val ∧ (cells4 its)[j * 4 + 3]? = some (its.getD j (nilS, nilS, nilS, nilS)).2.2.2.val
  | [], j, h => by simp at h
  | r :: its, 0, _ => ⟨rfl, rfl, rfl, rfl⟩
  | r :: its, j + 1, h => by
    have := cells4_get its j (by simpa using h)
    rw [show (j + 1) * 4 = j * 4 + 4 by omega]
    exact this
theorem eitems_start {W : World} {g : Nat} {cs : Array Value} {t : TypeId} {f : Nat × Nat} {its : List (Sl × Sl × Sl × Sl)} (hg : W.heap[g]? = some (.cells cs t f)) (hcs : cs.toList = cells4 its) : EItems W g its := fun j hj => by
  have c4 := fun i => cell_of_row W g i cs t f hg
  obtain ⟨h1, h2, h3, h4⟩ := cells4_get its j hj
  rw [← hcs, Array.getElem?_toList] at h1 h2 h3 h4
  exact ⟨(c4 _).trans h1, (c4 _).trans h2, (c4 _).trans h3, (c4 _).trans h4⟩
/-- What stays as it is while the law runs. -/
def ES (w : World) (ga gb gp gq : Nat) (n : UInt8) (W : World) : Prop :=
  RdB W W.heap.size (some ⟨ga, 0, none⟩) [1, n] ∧ RdB W W.heap.size (some ⟨gb, 0, none⟩) [3, 9] ∧ RdB W W.heap.size (some ⟨gp, 0, none⟩) [2, n ^^^ 9] ∧ RdB W W.heap.size (some ⟨gq, 0, none⟩) [7, n ^^^ 18] ∧ Below w.heap.size w W
theorem ES.below {w : World} {ga gb gp gq : Nat} {n : UInt8} {W W' : World} (h : ES w ga gb gp gq n W) (hb : Below W.heap.size W W') : ES w ga gb gp gq n W' :=
  ⟨(h.1.below hb (Nat.le_refl _)).more hb.size, (h.2.1.below hb (Nat.le_refl _)).more hb.size, (h.2.2.1.below hb (Nat.le_refl _)).more hb.size, (h.2.2.2.1.below hb (Nat.le_refl _)).more hb.size, h.2.2.2.2.trans (hb.mono h.2.2.2.2.size)⟩
def its1 (ga gb gp gq : Nat) (n : UInt8) : List (Sl × Sl × Sl × Sl) :=
  let a : Sl := (some ⟨ga, 0, none⟩, 2, [1, n])
  let b : Sl := (some ⟨gb, 0, none⟩, 2, [3, 9])
  let p : Sl := (some ⟨gp, 0, none⟩, 2, [2, n ^^^ 9])
  let q : Sl := (some ⟨gq, 0, none⟩, 2, [7, n ^^^ 18])
  [(p, q, a, b), (p, q, a, nilS), (p, q, nilS, b), (p, q, nilS, nilS), (p, nilS, a, nilS), (p, nilS, nilS, b), (nilS, q, a, nilS), (nilS, q, nilS, b), (nilS, nilS, a, b), (p, nilS, a, b)]
/-- A row that can be asked: four slices, and what is told. -/
def RowOk (W : World) (it : Sl × Sl × Sl × Sl) (o : Option (List (List UInt8))) : Prop :=
  RdS W it.1 ∧ RdS W it.2.1 ∧ RdS W it.2.2.1 ∧ RdS W it.2.2.2 ∧ solveB 2 it.1.2.2 it.2.1.2.2 [it.2.2.1.2.2, it.2.2.2.2.2] = o
theorem its1_ok {w : World} {ga gb gp gq : Nat} {n : UInt8} {W : World} (h : ES w ga gb gp gq n W) : ∀ k, k < 10 → RowOk W ((its1 ga gb gp gq n).getD k (nilS, nilS, nilS, nilS)) (some [[1, n], [3, 9]]) := fun k hk => by
  obtain ⟨a, b, p, q, _⟩ := h
  have z : RdS W nilS := RdB.nil _ _ _
  match k, hk with
  | 0, _ => exact ⟨p, q, a, b, f0 n⟩
  | 1, _ => exact ⟨p, q, a, z, f1 n⟩
  | 2, _ => exact ⟨p, q, z, b, f2 n⟩
  | 3, _ => exact ⟨p, q, z, z, f3 n⟩
  | 4, _ => exact ⟨p, z, a, z, f4 n⟩
  | 5, _ => exact ⟨p, z, z, b, f5 n⟩
  | 6, _ => exact ⟨z, q, a, z, f6 n⟩
  | 7, _ => exact ⟨z, q, z, b, f7 n⟩
  | 8, _ => exact ⟨z, z, a, b, f8 n⟩
  | 9, _ => exact ⟨p, z, a, b, f9 n⟩
def its2 (ga gb gp gq : Nat) (n : UInt8) (A : Option Addr) (c : Nat) : List (Sl × Sl × Sl × Sl) :=
  let a : Sl := (some ⟨ga, 0, none⟩, 2, [1, n])
  let b : Sl := (some ⟨gb, 0, none⟩, 2, [3, 9])
  let b1 : Sl := (some ⟨gb, 0, none⟩, 2, [3])
  let p : Sl := (some ⟨gp, 0, none⟩, 2, [2, n ^^^ 9])
  let p1 : Sl := (some ⟨gp, 0, none⟩, 2, [2])
  let q : Sl := (some ⟨gq, 0, none⟩, 2, [7, n ^^^ 18])
  let q3 : Sl := (A, c, [7, n ^^^ 18, 1])
  [(nilS, nilS, a, nilS), (p, nilS, nilS, nilS), (nilS, q, nilS, nilS), (nilS, nilS, nilS, nilS), (p, q, a, b1), (p1, q, a, b), (p, q3, a, b)]
theorem its2_ok {w : World} {ga gb gp gq : Nat} {n : UInt8} {W : World} {A : Option Addr} {c : Nat} (h : ES w ga gb gp gq n W) (h3 : RdB W W.heap.size A [7, n ^^^ 18, 1]) : ∀ k, k < 7 → RowOk W ((its2 ga gb gp gq n A c).getD k (nilS, nilS, nilS, nilS)) none := fun k hk => by
  obtain ⟨a, b, p, q, _⟩ := h
  have z : RdS W nilS := RdB.nil _ _ _
  match k, hk with
  | 0, _ => exact ⟨z, z, a, z, n0 n⟩
  | 1, _ => exact ⟨p, z, z, z, n1 n⟩
  | 2, _ => exact ⟨z, q, z, z, n2 n⟩
  | 3, _ => exact ⟨z, z, z, z, n3⟩
  | 4, _ => exact ⟨p, q, a, b.take 1, n4 n⟩
  | 5, _ => exact ⟨p.take 1, q, a, b, n5 n⟩
  | 6, _ => exact ⟨p, h3, a, b, n6 n⟩
theorem rdr_sl {W : World} {s s' : Sl} (h : RdS W s) (h' : RdS W s') : RdR (W.alloc (.cells #[.slice s.1 s.2.2.length s.2.1, .slice s'.1 s'.2.2.length s'.2.1] 22)) (W.alloc (.cells #[.slice s.1 s.2.2.length s.2.1, .slice s'.1 s'.2.2.length s'.2.1] 22)).heap.size (some ⟨W.heap.size, 0, none⟩) [s.2.2, s'.2.2] := rdr_pair h h'
theorem rdr_nine {W : World} {g : Nat} {A : Option Addr} {n c : Nat} {bs : List UInt8} {t : TypeId} {f : Nat × Nat} (hg : W.heap[g]? = some (.cells #[.slice A n c, .slice A n c, .slice A n c, .slice A n c, .slice A n c, .slice A n c, .slice A n c, .slice A n c, .slice A n c] t f)) (hn : n = bs.length) (h : RdB W W.heap.size A bs) : RdR W W.heap.size (some ⟨g, 0, none⟩) [bs, bs, bs, bs, bs, bs, bs, bs, bs] := by
  subst hn
  exact rdr_cells hg (Array.getElem?_eq_some_iff.1 hg).1 (by simp) fun k hk => by
    match k, hk with
    | 0, _ => exact ⟨A, c, rfl, h⟩
    | 1, _ => exact ⟨A, c, rfl, h⟩
    | 2, _ => exact ⟨A, c, rfl, h⟩
    | 3, _ => exact ⟨A, c, rfl, h⟩
    | 4, _ => exact ⟨A, c, rfl, h⟩
    | 5, _ => exact ⟨A, c, rfl, h⟩
    | 6, _ => exact ⟨A, c, rfl, h⟩
    | 7, _ => exact ⟨A, c, rfl, h⟩
    | 8, _ => exact ⟨A, c, rfl, h⟩
theorem rdr_miss {W : World} {g : Nat} {A A' Az : Option Addr} {n n' c c' cz : Nat} {bs bs' : List UInt8} {t : TypeId} {f : Nat × Nat} (hg : W.heap[g]? = some (.cells #[.slice A n c, .slice none 0 0, .slice A' n' c', .slice Az 0 cz] t f)) (hn : n = bs.length) (hn' : n' = bs'.length) (h : RdB W W.heap.size A bs) (h' : RdB W W.heap.size A' bs') : RdR W W.heap.size (some ⟨g, 0, none⟩) [bs, [], bs', []] := by
  subst hn hn'
  exact rdr_cells hg (Array.getElem?_eq_some_iff.1 hg).1 (by simp) fun k hk => by
    match k, hk with
    | 0, _ => exact ⟨A, c, rfl, h⟩
    | 1, _ => exact ⟨none, 0, rfl, RdB.nil _ _ _⟩
    | 2, _ => exact ⟨A', c', rfl, h'⟩
    | 3, _ => exact ⟨Az, cz, rfl, RdB.nil _ _ _⟩
set_option maxRecDepth 100000 in
set_option maxHeartbeats 6400000 in
theorem eforms (n : UInt8) (w : World) : Calls Try.prog 3 #[.int .u8 (n.toNat : Int)] w fun e w' => e = .returned (.bool true) ∧ Below w.heap.size w w' := by
  have ex9 := xor_u8 n 9
  have ex18 := xor_u8 n 18
  rw [show ((UInt8.toNat 9 : Nat) : Int) = 9 from rfl] at ex9
  rw [show ((UInt8.toNat 18 : Nat) : Int) = 18 from rfl] at ex18
  go_enter Try.func3, Try.ntmps3
  go_upto_region 3 with fail
  have S4 : ES w w.heap.size (w.heap.size + 1) (w.heap.size + 1 + 1) (w.heap.size + 1 + 1 + 1) n ((((w.alloc (.cells #[.int .u8 1, .int .u8 (n.toNat : Int)] 5)).alloc (.cells #[.int .u8 3, .int .u8 9] 5)).alloc (.cells #[.int .u8 2, .int .u8 ((n.toNat ^^^ 9 : Nat) : Int)] 5)).alloc (.cells #[.int .u8 7, .int .u8 ((n.toNat ^^^ 18 : Nat) : Int)] 5)) :=
    ⟨rdb_lit (by rw [hp_old _ _ _ (by simp <;> omega), hp_old _ _ _ (by simp <;> omega), hp_old _ _ _ (by simp)]; exact hp_new _ _ _ rfl) (by simp) (by simp [bv]),
     rdb_lit (by rw [hp_old _ _ _ (by simp <;> omega), hp_old _ _ _ (by simp)]; exact hp_new _ _ _ (by simp)) (by simp) (by simp [bv]),
     rdb_lit (by rw [hp_old _ _ _ (by simp)]; exact hp_new _ _ _ (by simp)) (by simp) (by simp [bv]),
     rdb_lit (hp_new _ _ _ (by simp)) (by simp) (by simp [bv]), below4 w _ _ _ _⟩
  generalize (((w.alloc (.cells #[.int .u8 1, .int .u8 (n.toNat : Int)] 5)).alloc (.cells #[.int .u8 3, .int .u8 9] 5)).alloc (.cells #[.int .u8 2, .int .u8 ((n.toNat ^^^ 9 : Nat) : Int)] 5)).alloc (.cells #[.int .u8 7, .int .u8 ((n.toNat ^^^ 18 : Nat) : Int)] 5) = w4 at S4 ⊢
  generalize w.heap.size + 1 = gb at S4 ⊢
  generalize gb + 1 = gp at S4 ⊢
  generalize gp + 1 = gq at S4 ⊢
  obtain ⟨ga, hga⟩ : ∃ ga, ga = w.heap.size := ⟨_, rfl⟩
  rw [← hga] at S4 ⊢
  clear hga
  go_wp2_with fail
  go_loopw [67] (fun i wr => ∃ k : Nat, k ≤ 10 ∧ i = .int .i64 k ∧ EItems wr w4.heap.size (its1 ga gb gp gq n) ∧ w4.heap.size < wr.heap.size ∧ ES w ga gb gp gq n wr) (fun i _ => 10 - (intOf i).toNat)
  case atStart => exact ⟨0, by omega, rfl, eitems_start (hp_new _ _ _ rfl) rfl, by simp, S4.below (below1 _ _)⟩
  case round =>
    obtain ⟨k, hk, rfl, hI, hlt0, hE⟩ := hrel
    by_cases hlt : k < 10
    · obtain ⟨h1, h2, h3, h4⟩ := hI k hlt
      have hok := its1_ok hE k hlt
      generalize (its1 ga gb gp gq n).getD k (nilS, nilS, nilS, nilS) = it at h1 h2 h3 h4 hok
      obtain ⟨⟨A0, c0, x0⟩, ⟨A1, c1, x1⟩, ⟨A2, c2, x2⟩, ⟨A3, c3, x3⟩⟩ := it
      obtain ⟨r0, r1, r2, r3, hsv⟩ := hok
      simp only [Sl.val] at h1 h2 h3 h4
      simp only [RdS] at r0 r1 r2 r3
      simp only at hsv
      go_wp2_with fail
      have B2 := below2 wr (.cells #[.slice A0 x0.length c0, .slice A1 x1.length c1, .slice A2 x2.length c2, .slice A3 x3.length c3] 23) (.cells #[.slice A2 x2.length c2, .slice A3 x3.length c3] 22)
      have hs2 := B2.size
      refine (solve_any A0 A1 _ x0 x1 [x2, x3] _ c0 _ c1 2 2 2 _ rfl rfl rfl (by decide) ((r0.below B2 (Nat.le_refl _)).more hs2) ((r1.below B2 (Nat.le_refl _)).more hs2) (rdr_block2 (hp_new _ _ _ (by simp)) rfl rfl ((r2.below B2 (Nat.le_refl _)).more hs2) ((r3.below B2 (Nat.le_refl _)).more hs2) (Nat.le_refl _))).mono ?_
      rw [hsv]
      rintro e w5 ⟨gy, cy, rfl, hy, hb5⟩
      have F5 := B2.trans (hb5.mono hs2)
      have hE5 := hE.below F5
      clear B2 hb5 r0 r1 r2 r3
      go_wp2_with fail
      have F6 := below1 w5 (.cells #[.slice (some ⟨ga, 0, none⟩) 2 2, .slice (some ⟨gb, 0, none⟩) 2 2] 22)
      have hE6 := hE5.below F6
      refine (sameRows_any _ _ [[1, n], [3, 9]] [[1, n], [3, 9]] 2 2 cy 2 _ rfl rfl ((hy.below F6).rdr (by simp)) (rdr_block2 (hp_new _ _ _ rfl) rfl rfl hE6.1 hE6.2.1 (Nat.le_refl _))).mono ?_
      rintro e w7 ⟨rfl, hb7⟩
      rw [decide_eq_true rfl]
      have hE7 := hE6.below hb7
      have F7 := F5.trans ((F6.trans (hb7.mono F6.size)).mono F5.size)
      clear hE5 hE6 F5 F6 hb7 hy
      go_wp2
      go_roundw
      case rel => exact ⟨k + 1, by omega, by go_num, hI.below F7 hlt0, Nat.lt_of_lt_of_le hlt0 F7.size, hE7⟩
      case measure => simp [intOf]; omega
    · obtain rfl : k = 10 := by omega
      clear hI hlt0
      have i1 : (1 : Int) ≤ 2 := by omega
      have CC : Hid (∀ W, ES w ga gb gp gq n W → Calls Try.prog 7 #[.slice (some ⟨gq, 0, none⟩) 2 2] W fun e w' => ∃ v, e = .returned v ∧ OwB 5 w' W.heap.size v [7, n ^^^ 18] ∧ Below W.heap.size W w') :=
        Lib.hid fun W h => copy_any _ 2 2 _ [7, n ^^^ 18] W rfl h.2.2.2.1
      go_wp2_with fail
      go_cut [67, 122, 123, 124] (fun _ s122 s123 s124 W => ∃ g A c, s122 = .slice (some ⟨g, 0, none⟩) 7 7 ∧ s123 = .int .i64 7 ∧ s124 = .int .i64 0 ∧ EItems W g (its2 ga gb gp gq n A c) ∧ g < W.heap.size ∧ RdB W W.heap.size A [7, n ^^^ 18, 1] ∧ ES w ga gb gp gq n W)
      case first =>
        go_region_held3 (fun _ => True) (trivial)
          (first
            | (go_at_call 7
               (with_reducible refine (CC.out _ ?_).mono ?_)
               (first | exact hE.below ((Below.refl _ _).drew) | exact hE.below ((below1 _ _).drew))
               rintro e wa ⟨va, rfl, hoa, hba⟩
               have hwa : Below wr.heap.size wr wa := by first | exact (Below.refl _ _).drew.trans (hba.mono (Nat.le_refl _)) | exact (below1 _ _).drew.trans (hba.mono (by simp))
               obtain ⟨Ba, hBa, hoa⟩ : ∃ Ba, wr.heap.size ≤ Ba ∧ OwB 5 wa Ba va [7, n ^^^ 18] := ⟨_, by simp, hoa⟩
               dsimp only)
            | (refine step_append_B _ (by rfl) _ _ _ (by rfl) wr.heap.size 5 Try.underlying22 info_u8 va [7, n ^^^ 18] (by rfl) ((hoa.le hBa).below (below1 _ _)) _ (some ⟨wa.heap.size, 0, none⟩) 1 1 [1] (by rfl) rfl (rdb_lit (hp_new _ _ _ rfl) (by simp) rfl) (by simp) (hwa.alloc hwa.size _).size ?_
               intro vb wb hob hgb hatb
               have hEb := hE.below ((hwa.alloc hwa.size _).grown hgb (hwa.alloc hwa.size _).size (fun j hj => ((hoa.le hBa).lt j hj).1))
               obtain ⟨Ab, cb, rfl, _, hrb⟩ := hob.rd
               dsimp only)
            | (refine step_append_B _ (by rfl) _ _ _ (by rfl) wr.heap.size 5 Try.underlying22 info_u8 va [7, n ^^^ 18] (by rfl) (hoa.le hBa) _ (some ⟨wr.heap.size, 0, none⟩) 1 1 [1] (by rfl) rfl (rdb_lit ((hba.block _ (by simp)).trans (hp_new _ _ _ rfl)) (by simp) rfl) (by simp) hwa.size ?_
               intro vb wb hob hgb hatb
               have hEb := hE.below (hwa.grown hgb hwa.size (fun j hj => ((hoa.le hBa).lt j hj).1))
               obtain ⟨Ab, cb, rfl, _, hrb⟩ := hob.rd
               dsimp only))
        all_goals (go_wp2_with fail; go_meet; exact ⟨_, Ab, cb, rfl, rfl, rfl, eitems_start (hp_new _ _ _ rfl) rfl, by simp, (hrb.below (below1 _ _) (Nat.le_refl _)).more (by simp), hEb.below (below1 _ _)⟩)
      case rest =>
        obtain ⟨g2, Ab, cb, rfl, rfl, rfl, hI2, hg2, hrb, hEc⟩ := hcut
        clear hE S4 CC
        go_wp2_with fail
        go_loopw [124] (fun i wr => ∃ k : Nat, k ≤ 7 ∧ i = .int .i64 k ∧ EItems wr g2 (its2 ga gb gp gq n Ab cb) ∧ g2 < wr.heap.size ∧ RdB wr wr.heap.size Ab [7, n ^^^ 18, 1] ∧ ES w ga gb gp gq n wr) (fun i _ => 7 - (intOf i).toNat)
        case atStart => exact ⟨0, by omega, rfl, hI2, hg2, hrb, hEc⟩
        case round =>
          obtain ⟨k, hk, rfl, hI, hlt0, hr3, hE⟩ := hrel
          rename World => wi
          by_cases hlt : k < 7
          · obtain ⟨h1, h2, h3, h4⟩ := hI k hlt
            have hok := its2_ok (c := cb) hE hr3 k hlt
            generalize (its2 ga gb gp gq n Ab cb).getD k (nilS, nilS, nilS, nilS) = it at h1 h2 h3 h4 hok
            obtain ⟨⟨A0, c0, x0⟩, ⟨A1, c1, x1⟩, ⟨A2, c2, x2⟩, ⟨A3, c3, x3⟩⟩ := it
            obtain ⟨r0, r1, r2, r3, hsv⟩ := hok
            simp only [Sl.val] at h1 h2 h3 h4
            simp only [RdS] at r0 r1 r2 r3
            simp only at hsv
            go_wp2_with fail
            have B2 := below2 wi (.cells #[.slice A0 x0.length c0, .slice A1 x1.length c1, .slice A2 x2.length c2, .slice A3 x3.length c3] 23) (.cells #[.slice A2 x2.length c2, .slice A3 x3.length c3] 22)
            have hs2 := B2.size
            refine (solve_any A0 A1 _ x0 x1 [x2, x3] _ c0 _ c1 2 2 2 _ rfl rfl rfl (by decide) ((r0.below B2 (Nat.le_refl _)).more hs2) ((r1.below B2 (Nat.le_refl _)).more hs2) (rdr_block2 (hp_new _ _ _ (by simp)) rfl rfl ((r2.below B2 (Nat.le_refl _)).more hs2) ((r3.below B2 (Nat.le_refl _)).more hs2) (Nat.le_refl _))).mono ?_
            rw [hsv]
            rintro e w5 ⟨rfl, hb5⟩
            have F5 := B2.trans (hb5.mono hs2)
            have hE5 := hE.below F5
            have hr5 := (hr3.below F5 (Nat.le_refl _)).more F5.size
            clear B2 hb5 r0 r1 r2 r3
            go_wp2
            go_roundw
            case rel => exact ⟨k + 1, by omega, by go_num, hI.below F5 hlt0, Nat.lt_of_lt_of_le hlt0 F5.size, hr5, hE5⟩
            case measure => simp [intOf]; omega
          · obtain rfl : k = 7 := by omega
            clear hI hlt0 hr3 hI2 hg2 hrb hEc
            go_wp2_with fail
            refine (solve_any _ _ none [2, n ^^^ 9] [7, n ^^^ 18] [] 2 2 2 2 0 0 2 wi rfl rfl rfl (by decide) hE.2.2.1 hE.2.2.2.1 ⟨by simp, fun h => by simp at h⟩).mono ?_
            rw [n7]
            rintro e w5 ⟨rfl, hb5⟩
            have E5 := hE.below hb5
            clear hE hb5
            go_wp2_with fail
            refine (solve_any none none _ [] [] [[]] 0 0 0 0 1 1 0 _ rfl rfl rfl (by decide) (RdB.nil _ _ _) (RdB.nil _ _ _) (rdr_block1 (hp_new _ _ _ rfl) rfl (RdB.nil _ _ none) (Nat.le_refl _))).mono ?_
            rw [n8]
            rintro e w6 ⟨rfl, hb6⟩
            have E6 := (E5.below (below1 w5 _)).below hb6
            clear E5 hb6
            go_wp2_with fail
            have E6' := E6.below (below1 w6 (.cells #[.slice (some ⟨ga, 0, none⟩) 2 2, .slice (some ⟨ga, 0, none⟩) 2 2, .slice (some ⟨ga, 0, none⟩) 2 2, .slice (some ⟨ga, 0, none⟩) 2 2, .slice (some ⟨ga, 0, none⟩) 2 2, .slice (some ⟨ga, 0, none⟩) 2 2, .slice (some ⟨ga, 0, none⟩) 2 2, .slice (some ⟨ga, 0, none⟩) 2 2, .slice (some ⟨ga, 0, none⟩) 2 2] 22))
            refine (solve_any _ _ _ [2, n ^^^ 9] [7, n ^^^ 18] [[1, n], [1, n], [1, n], [1, n], [1, n], [1, n], [1, n], [1, n], [1, n]] 2 2 2 2 9 9 2 _ rfl rfl rfl (by decide) E6'.2.2.1 E6'.2.2.2.1 (rdr_nine (hp_new _ _ _ rfl) rfl E6'.1)).mono ?_
            rw [n9]
            rintro e w7 ⟨rfl, hb7⟩
            have E7 := E6'.below hb7
            clear E6 E6' hb7
            go_wp2_with fail
            have E8 := E7.below (below2 w7 (.cells #[] 5) (.cells #[.slice (some ⟨ga, 0, none⟩) 2 2, .slice none 0 0, .slice (some ⟨gb, 0, none⟩) 2 2, .slice (some ⟨w7.heap.size, 0, none⟩) 0 0] 22))
            refine (missing_any _ [[1, n], [], [3, 9], []] 4 4 _ rfl (by decide) (rdr_miss (hp_new _ _ _ (by simp)) rfl rfl E8.1 E8.2.1)).mono ?_
            rw [n10]
            rintro e w8 ⟨v8, rfl, ho8, hb8⟩
            have E9 := E8.below hb8
            clear E7 E8 hb8
            obtain ⟨A8, c8, rfl, hr8⟩ := ho8.rdI (by simp)
            go_wp2_with fail
            refine (sameInt_any A8 _ [1, 3] [1, 3] 2 2 c8 2 _ rfl rfl ((hr8.below (below1 w8 _) (Nat.le_refl _)).more (by simp)) (rdi_lit (hp_new _ _ _ rfl) (by simp) rfl)).mono ?_
            rintro e w9 ⟨rfl, hb9⟩
            rw [decide_eq_true rfl]
            have E10 := (E9.below (below1 w8 _)).below hb9
            clear E9 hb9 ho8 hr8
            go_wp2_with fail
            refine (missing_any none [] 0 0 w9 rfl (by decide) ⟨by simp, fun h => by simp at h⟩).mono ?_
            rintro e w10 ⟨v10, rfl, ho10, hb10⟩
            obtain ⟨A10, c10, rfl, _⟩ := ho10.rd
            have E11 := E10.below hb10
            clear ho10 hb10 E10
            go_wp2_with fail
            refine (wakesErase_any w10).mono ?_
            rintro e w11 ⟨rfl, hb11⟩
            have E12 := E11.below hb11
            go_wp2
            go_ret
            exact ⟨rfl, E12.2.2.2.2⟩
end Go.Proofs.Ytfbfodcjfcnfoaa
