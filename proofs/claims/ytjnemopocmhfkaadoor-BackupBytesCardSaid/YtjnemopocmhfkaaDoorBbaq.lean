/- Texts put together: RdX, Kx, Ks, BakCat, EachFl. -/
import Derived.Test.YtjnemopocmhfkaaDoorBbap
import Derived.Test.YtjnemopocmhfkaaDoorBbah
import Derived.Test.YtjnemopocmhfkaaDoorBbaa
import Derived.Test.YtjnemopocmhfkaaDoorBbal
section
set_option linter.unusedVariables false
set_option linter.unusedSimpArgs false
namespace Go.Proofs.YtjnemopocmhfkaaDoor
open Go.RowKit

def RdBX (F : Nat → Prop) (w : World) (A : Option Addr) (bs : List UInt8) : Prop :=
  bs.length ≤ 140737488355328 ∧ (0 < bs.length → ∃ b off, A = some ⟨b, off, none⟩ ∧ b < w.heap.size ∧ ¬ F b ∧ ∀ k, k < bs.length → w.cell? ⟨b, off + k, none⟩ = some (.int .u8 ((bs.getD k 0).toNat : Int)))
def RdRX (F : Nat → Prop) (w : World) (A : Option Addr) (rs : List (List UInt8)) : Prop :=
  rs.length ≤ 140737488355328 ∧ (0 < rs.length → ∃ b off, A = some ⟨b, off, none⟩ ∧ b < w.heap.size ∧ ¬ F b ∧ ∀ k, k < rs.length → ∃ A' c, w.cell? ⟨b, off + k, none⟩ = some (.slice A' (rs.getD k []).length c) ∧ RdBX F w A' (rs.getD k []))
section
variable {F F' : Nat → Prop} {w w' : World} {A : Option Addr} {bs : List UInt8} {rs : List (List UInt8)}
theorem RdBX.rdb (h : RdBX F w A bs) : RdB w w.heap.size A bs :=
  ⟨h.1, fun h0 => by
    obtain ⟨b, off, e, hb, _, hc⟩ := h.2 h0
    exact ⟨b, off, e, hb, hc⟩⟩
theorem RdRX.rdr (h : RdRX F w A rs) : RdR w w.heap.size A rs :=
  ⟨h.1, fun h0 => by
    obtain ⟨b, off, e, hb, _, hc⟩ := h.2 h0
    refine ⟨b, off, e, hb, fun k hk => ?_⟩
    obtain ⟨A', c, h1, h2⟩ := hc k hk
    exact ⟨A', c, h1, h2.rdb⟩⟩
theorem RdBX.keep (h : RdBX F w A bs) (hz : w.heap.size ≤ w'.heap.size) (hk : ∀ p : Addr, ¬ F p.block → p.block < w.heap.size → w'.cell? p = w.cell? p) (hF : ∀ k, k < w.heap.size → F' k → F k) : RdBX F' w' A bs :=
  ⟨h.1, fun h0 => by
    obtain ⟨b, off, e, hb, hl, hc⟩ := h.2 h0
    exact ⟨b, off, e, by omega, fun q => hl (hF b hb q), fun k hk' => (hk ⟨b, off + k, none⟩ hl hb).trans (hc k hk')⟩⟩
theorem RdRX.keep (h : RdRX F w A rs) (hz : w.heap.size ≤ w'.heap.size) (hk : ∀ p : Addr, ¬ F p.block → p.block < w.heap.size → w'.cell? p = w.cell? p) (hF : ∀ k, k < w.heap.size → F' k → F k) : RdRX F' w' A rs :=
  ⟨h.1, fun h0 => by
    obtain ⟨b, off, e, hb, hl, hc⟩ := h.2 h0
    refine ⟨b, off, e, by omega, fun q => hl (hF b hb q), fun k hk' => ?_⟩
    obtain ⟨A', c, h1, h2⟩ := hc k hk'
    exact ⟨A', c, (hk ⟨b, off + k, none⟩ hl hb).trans h1, h2.keep hz hk hF⟩⟩
theorem RdBX.below (h : RdBX F w A bs) (hb : Below w.heap.size w w') : RdBX F w' A bs := h.keep hb.size (fun _ _ hp => hb.cell hp) fun _ _ q => q
theorem RdRX.below (h : RdRX F w A rs) (hb : Below w.heap.size w w') : RdRX F w' A rs := h.keep hb.size (fun _ _ hp => hb.cell hp) fun _ _ q => q
theorem chg_cell {F : Nat → Prop} {w w' : World} (hc : Chg F w w') (p : Addr) (hF : ¬ F p.block) (hp : p.block < w.heap.size) : w'.cell? p = w.cell? p := World.cell?_of_block (hc.block p.block hp hF)
theorem RdBX.chg (h : RdBX F w A bs) (hc : Chg F w w') (hF : ∀ k, k < w.heap.size → F' k → F k) : RdBX F' w' A bs := h.keep hc.size (fun p q hp => chg_cell hc p q hp) hF
theorem RdRX.chg (h : RdRX F w A rs) (hc : Chg F w w') (hF : ∀ k, k < w.heap.size → F' k → F k) : RdRX F' w' A rs := h.keep hc.size (fun p q hp => chg_cell hc p q hp) hF
theorem RdBF.rdbx {lo : Nat} (h : RdBF lo w A bs) (hF : ∀ k, k < w.heap.size → lo ≤ k → ¬ F k) : RdBX F w A bs :=
  ⟨h.1, fun h0 => by
    obtain ⟨b, off, e, hb, hl, hc⟩ := h.2 h0
    exact ⟨b, off, e, hb, hF b hb hl, hc⟩⟩
theorem RdF.rdrx {lo : Nat} (h : RdF lo w A rs) (hF : ∀ k, k < w.heap.size → lo ≤ k → ¬ F k) : RdRX F w A rs :=
  ⟨h.1, fun h0 => by
    obtain ⟨b, off, e, hb, hl, hc⟩ := h.2 h0
    refine ⟨b, off, e, hb, hF b hb hl, fun k hk => ?_⟩
    obtain ⟨A', c, h1, h2⟩ := hc k hk
    exact ⟨A', c, h1, h2.rdbx hF⟩⟩
theorem RdRX.at (h : RdRX F w A rs) {k : Nat} (hk : k < rs.length) : ∃ b off A' c, A = some ⟨b, off, none⟩ ∧ w.cell? ⟨b, off + k, none⟩ = some (.slice A' (rs.getD k []).length c) ∧ RdBX F w A' (rs.getD k []) := by
  obtain ⟨b, off, e, _, _, hc⟩ := h.2 (by omega)
  obtain ⟨A', c, h1, h2⟩ := hc k hk
  exact ⟨b, off, A', c, e, h1, h2⟩
end
/-- What a call on a bench leaves of rows that are none of its own. -/
theorem bnew_weak {w : World} {b n : Nat} {H H' : BH} (hm : BNew w b H H' n) : ∀ k, k < w.heap.size → BF b H' n k → BF b H n k := fun k hk e => by
  rcases hm k e with h | h
  · exact h
  · omega
/-- Yes and no, read, and none of a bench's. -/
def RdOX (F : Nat → Prop) (w : World) (A : Option Addr) (lv : List Bool) : Prop :=
  lv.length ≤ 9223372036854775807 ∧ (0 < lv.length → ∃ b off, A = some ⟨b, off, none⟩ ∧ b < w.heap.size ∧ ¬ F b ∧ ∀ k, k < lv.length → w.cell? ⟨b, off + k, none⟩ = some (.bool (lv.getD k false)))
section
variable {F F' : Nat → Prop} {w w' : World} {A : Option Addr} {lv : List Bool}
theorem RdOX.rdo (h : RdOX F w A lv) : RdO w w.heap.size A lv :=
  ⟨h.1, fun h0 => by
    obtain ⟨b, off, e, hb, _, hc⟩ := h.2 h0
    exact ⟨b, off, e, hb, hc⟩⟩
theorem RdOX.keep (h : RdOX F w A lv) (hz : w.heap.size ≤ w'.heap.size) (hk : ∀ p : Addr, ¬ F p.block → p.block < w.heap.size → w'.cell? p = w.cell? p) (hF : ∀ k, k < w.heap.size → F' k → F k) : RdOX F' w' A lv :=
  ⟨h.1, fun h0 => by
    obtain ⟨b, off, e, hb, hl, hc⟩ := h.2 h0
    exact ⟨b, off, e, by omega, fun q => hl (hF b hb q), fun k hk' => (hk ⟨b, off + k, none⟩ hl hb).trans (hc k hk')⟩⟩
theorem RdOX.below (h : RdOX F w A lv) (hb : Below w.heap.size w w') : RdOX F w' A lv := h.keep hb.size (fun _ _ hp => hb.cell hp) fun _ _ q => q
theorem RdOX.chg (h : RdOX F w A lv) (hc : Chg F w w') (hF : ∀ k, k < w.heap.size → F' k → F k) : RdOX F' w' A lv := h.keep hc.size (fun p q hp => chg_cell hc p q hp) hF
end
end Go.Proofs.YtjnemopocmhfkaaDoor
end
section
set_option maxRecDepth 8000
set_option linter.unusedVariables false
set_option linter.unusedSimpArgs false
namespace Go.Proofs.YtjnemopocmhfkaaDoor
open Go.RowKit

structure KX (W w : World) (b : Nat) (H : BH) (N : Bch) (K : List (Nat × Obj)) : Prop where
  bp : BP W w b H N
  kp : ∀ p ∈ K, w.heap[p.1]? = some p.2 ∧ ¬ BF b H N.n p.1 ∧ W.heap.size ≤ p.1
section
variable {W w w' : World} {b : Nat} {H : BH} {N : Bch} {K : List (Nat × Obj)}
theorem KX.below (h : KX W w b H N K) (hb : Below w.heap.size w w') : KX W w' b H N K :=
  ⟨h.bp.grow hb, fun p hp => ⟨(hb.block _ (Array.getElem?_eq_some_iff.1 (h.kp p hp).1).1).trans (h.kp p hp).1, (h.kp p hp).2⟩⟩
theorem KX.add (h : KX W w b H N K) (o : Obj) : KX W (w.alloc o) b H N ((w.heap.size, o) :: K) := by
  refine ⟨h.bp.alloc o, fun p hp => ?_⟩
  rcases List.mem_cons.1 hp with rfl | hp
  · exact ⟨heap_alloc_new _ _, (fun e => by have h9 : w.heap.size < w.heap.size := (h.bp.at'.flt e).2; omega), h.bp.bel.size⟩
  · exact (h.below (below1 w o)).kp p hp
end
section
variable {W w : World} {b : Nat} {H : BH} {N : Bch} {K : List (Nat × Obj)} (h : KX W w b H N K)
include h
end
end Go.Proofs.YtjnemopocmhfkaaDoor
end
section
set_option maxRecDepth 20000
set_option linter.unusedVariables false
set_option linter.unusedSimpArgs false
namespace Go.Proofs.YtjnemopocmhfkaaDoor
open Go.RowKit

structure KS (W w : World) (b : Nat) (H : BH) (N : Bch) (K : List (Nat × Obj)) (R : List (Option Addr × List (List UInt8))) (S : List (Option Addr × List UInt8)) : Prop where
  kx : KX W w b H N K
  rx : ∀ p ∈ R, RdRX (BF b H N.n) w p.1 p.2
  sx : ∀ p ∈ S, RdBX (BF b H N.n) w p.1 p.2
section
variable {W w w' : World} {b : Nat} {H : BH} {N : Bch} {K : List (Nat × Obj)} {R : List (Option Addr × List (List UInt8))} {S : List (Option Addr × List UInt8)}
theorem KX.ks (h : KX W w b H N K) : KS W w b H N K [] [] := ⟨h, fun _ hp => absurd hp (by simp), fun _ hp => absurd hp (by simp)⟩
theorem KS.bp (h : KS W w b H N K R S) : BP W w b H N := h.kx.bp
theorem KS.below (h : KS W w b H N K R S) (hb : Below w.heap.size w w') : KS W w' b H N K R S := ⟨h.kx.below hb, fun p hp => (h.rx p hp).below hb, fun p hp => (h.sx p hp).below hb⟩
theorem KS.bc (h : KS W w b H N K R S) {N' : Bch} (hc : BC W w w' b H N.n N') (hn : N'.n = N.n) : ∃ H', KS W w' b H' N' K R S := by
  obtain ⟨H', a, c, m⟩ := hc
  have hx : KX W w' b H' N' K := by
    refine ⟨a, fun p hp => ?_⟩
    obtain ⟨h1, h2, h3⟩ := h.kx.kp p hp
    have hl := (Array.getElem?_eq_some_iff.1 h1).1
    exact ⟨(c.block _ hl h2).trans h1, by rw [hn]; exact BC.off m hl h2, h3⟩
  exact ⟨H', hx, fun p hp => by rw [hn]; exact (h.rx p hp).chg c (bnew_weak m), fun p hp => by rw [hn]; exact (h.sx p hp).chg c (bnew_weak m)⟩
theorem KS.add (h : KS W w b H N K R S) (o : Obj) : KS W (w.alloc o) b H N ((w.heap.size, o) :: K) R S := ⟨h.kx.add o, fun p hp => (h.rx p hp).below (below1 w o), fun p hp => (h.sx p hp).below (below1 w o)⟩
theorem KS.flt (h : KS W w b H N K R S) : ∀ k, BF b H N.n k → k < w.heap.size := fun k hk => (h.bp.at'.flt hk).2
theorem KS.off (h : KS W w b H N K R S) {lo : Nat} (hlo : w.heap.size ≤ lo) : ∀ k, k < w'.heap.size → lo ≤ k → ¬ BF b H N.n k := fun k _ hk e => by have := h.flt k e; omega
/-- With rows that were made since. -/
theorem KS.rows (h : KS W w b H N K R S) (hb : Below w.heap.size w w') {A : Option Addr} {rs : List (List UInt8)} (hr : RdF w.heap.size w' A rs) : KS W w' b H N K ((A, rs) :: R) S := by
  have h' := h.below hb
  refine ⟨h'.kx, fun p hp => ?_, h'.sx⟩
  rcases List.mem_cons.1 hp with rfl | hp
  · exact hr.rdrx (h.off (Nat.le_refl _))
  · exact h'.rx p hp
theorem KS.slice (h : KS W w b H N K R S) (hb : Below w.heap.size w w') {A : Option Addr} {bs : List UInt8} (hr : RdBF w.heap.size w' A bs) : KS W w' b H N K R ((A, bs) :: S) := by
  have h' := h.below hb
  refine ⟨h'.kx, h'.rx, fun p hp => ?_⟩
  rcases List.mem_cons.1 hp with rfl | hp
  · exact hr.rdbx (h.off (Nat.le_refl _))
  · exact h'.sx p hp
theorem KS.rd (h : KS W w b H N K R S) {A : Option Addr} {rs : List (List UInt8)} (hm : (A, rs) ∈ R) : RdR w w.heap.size A rs := (h.rx _ hm).rdr
theorem KS.sl (h : KS W w b H N K R S) {A : Option Addr} {bs : List UInt8} (hm : (A, bs) ∈ S) : RdB w w.heap.size A bs := (h.sx _ hm).rdb
theorem KS.lv (h : KS W w b H N K R S) {g : Nat} {cs : Array Value} {t : TypeId} {f : Nat × Nat} {lv : List Bool} (hm : (g, Obj.cells cs t f) ∈ K) (hcs : cs = (lv.map Value.bool).toArray) (hl : lv.length ≤ 1000000) : RdOX (BF b H N.n) w (some ⟨g, 0, none⟩) lv := by
  subst hcs
  obtain ⟨h1, h2, _⟩ := h.kx.kp _ hm
  refine ⟨by omega, fun _ => ⟨g, 0, rfl, (Array.getElem?_eq_some_iff.1 h1).1, h2, fun k hk => ?_⟩⟩
  rw [Nat.zero_add, cell_of_row w g k _ t f h1, List.getElem?_toArray, List.getElem?_map, List.getElem?_eq_getElem hk]
  simp [List.getD_eq_getElem?_getD, hk]
end
section
variable {W w : World} {b : Nat} {H : BH} {N : Bch} {K : List (Nat × Obj)} {R : List (Option Addr × List (List UInt8))} {S : List (Option Addr × List UInt8)} (h : KS W w b H N K R S)
include h
end
end Go.Proofs.YtjnemopocmhfkaaDoor
end
section
set_option maxRecDepth 20000
set_option linter.unusedVariables false
set_option linter.unusedSimpArgs false
namespace Go.Proofs.YtjnemopocmhfkaaDoor
open Go.RowKit

def unlB (b : List UInt8) : Bool := (b.length : Int) != 32
theorem bkUnlike_any (A : Option Addr) (n c : Nat) (V : World) (r : Bool) (hr : ((n : Int) != 32) = r) : Calls Tryd.prog 25 #[.slice A n c] V fun e V' => e = .returned (.bool r) ∧ V' = V := by
  subst hr
  go_enter Tryd.func25, Tryd.ntmps25
  go_wp2
  go_ret
  exact ⟨rfl, rfl⟩
theorem rsTake {rs : List (List UInt8)} {i : Nat} (hi : i < rs.length) : rs.take (i + 1) = rs.take i ++ [rs.getD i []] := by
  rw [List.take_succ_eq_append_getElem hi]; simp [hi]
theorem bkIdx_any (A : Option Addr) (n c : Nat) (rs : List (List UInt8)) (w : World) (hn : rs.length = n) (h : RdR w w.heap.size A rs) :
    Calls Tryd.prog 42 #[.slice A n c, .func (.func 25) #[] #[]] w fun e w' => ∃ r : Int, e = .returned (.int .i64 r) ∧ decide (0 ≤ r) = rs.any unlB ∧ w' = w := by
  subst hn
  have H := Lib.hid h
  have hmx := h.1
  clear h
  go_enter Tryd.func42, Tryd.ntmps42
  go_wp2
  go_loopw [8] (fun i wr => ∃ j : Nat, j ≤ rs.length ∧ i = .int .i64 j ∧ (rs.take j).any unlB = false ∧ wr = w) (fun i _ => rs.length - (intOf i).toNat)
  case atStart => exact ⟨0, Nat.zero_le _, rfl, by simp, rfl⟩
  case round =>
    obtain ⟨j, hj, rfl, hall, rfl⟩ := hrel
    have Hall := Lib.hid hall
    clear hall
    by_cases hlt : j < rs.length
    · obtain ⟨g, off, rfl, hg, hc⟩ := H.out.2 (by omega)
      obtain ⟨D', c', hrp, _⟩ := hc j hlt
      clear hc
      have Hts := Lib.hid (rsTake hlt)
      have Hm := Lib.hid (show rs.getD j [] ∈ rs by simp [hlt])
      have CL := Lib.hid (bkUnlike_any D' (rs.getD j []).length c' wr (unlB (rs.getD j [])) rfl)
      generalize rs.getD j [] = y at hrp Hts Hm CL
      have k0 : (0 : Int) ≤ (j : Int) := by omega
      have k1 : (j : Int) < (rs.length : Int) := by omega
      generalize y.length = yl at hrp CL
      cases hpk : unlB y with
      | true =>
        rw [hpk] at CL
        have Hpk := Lib.hid hpk
        clear hpk
        go_wp2_with (go_at_call 25; refine CL.out.mono ?_; rintro e w1 ⟨rfl, rfl⟩)
        go_ret
        exact ⟨(j : Int), rfl, by rw [decide_eq_true (by omega)]; exact (List.any_eq_true.2 ⟨y, Hm.out, Hpk.out⟩).symm, rfl⟩
      | false =>
        rw [hpk] at CL
        have Hpk := Lib.hid hpk
        clear hpk
        go_wp2_with (go_at_call 25; refine CL.out.mono ?_; rintro e w1 ⟨rfl, rfl⟩)
        go_roundw
        case rel => exact ⟨j + 1, by omega, by go_num, by rw [Hts.out, List.any_append, Hall.out]; simpa using Hpk.out, trivial⟩
        case measure => simp [intOf]; omega
    · obtain rfl : j = rs.length := by omega
      go_wp2
      go_ret
      exact ⟨-1, rfl, by have := Hall.out; rw [List.take_length] at this; rw [this]; decide, rfl⟩
theorem bkAnyU_any (A : Option Addr) (n c : Nat) (rs : List (List UInt8)) (w : World) (hn : rs.length = n) (h : RdR w w.heap.size A rs) :
    Calls Tryd.prog 24 #[.slice A n c, .func (.func 25) #[] #[]] w fun e w' => e = .returned (.bool (rs.any unlB)) ∧ w' = w := by
  have C := Lib.hid (bkIdx_any A n c rs w hn h)
  clear h hn
  go_enter Tryd.func24, Tryd.ntmps24
  go_wp2_with fail
  refine C.out.mono ?_
  rintro e w1 ⟨r, rfl, hr, rfl⟩
  have Hr := Lib.hid hr
  clear hr
  go_wp2
  go_ret
  exact ⟨by rw [← Hr.out]; rfl, rfl⟩
theorem zeroRow_size (n : Nat) : (Builtin.zeroCells (Value.slice none 0 0).cells n).size = n := by
  rw [size_zeroCells]; exact Nat.mul_one n
/-- append(nothing, n of nothing): a new row. -/
theorem run_append_nilR (w : World) (ty : TypeId) (n : Nat) (h0 : 0 < n) (hn : n ≤ 1000) :
    ∃ (cap : Nat) (cs : Array Value), (Builtin.append_ #[31, 3] ty #[.slice none 0 0, .int .i64 (n : Int)]).run Tryd.prog w = .ok (.slice (some ⟨w.heap.size, 0, none⟩) n cap) (w.drew.alloc (.cells cs 48)) ∧ cs.size = cap ∧ n ≤ cap ∧ cap ≤ maxLen := by
  obtain ⟨i, hi, hzz⟩ := Option.map_eq_some_iff.1 info_row
  simp only [Prod.mk.injEq] at hzz
  obtain ⟨hz, hs, hb⟩ := hzz
  have hr := Lib.run_append_nil_zeros (P := Tryd.prog) w _ _ ty _ i _ .i64 .i64 Tryd.underlying31 Tryd.underlying3 hi hz n h0 (by omega) (by omega) (by rw [hb]; omega)
  have hge := grownCap_ge w n 0 48
  have hcm : grownCap w n 0 48 ≤ maxLen := grownCap_le_maxLen w n 0 _ (by unfold maxLen; omega)
  refine ⟨_, _, hr, ?_, hge, hcm⟩
  simp only [Array.size_append, List.size_toArray, zeroRow_size]
  omega
theorem wpList_append_nilR {w : World} {ops : Array Oper} {rest : List Oper} {o : Oper} {a : Act} {Q : Exit → Act → World → Prop} (hw : Region.wanted o (yielded ops a.tmps) = true) (s x : Operand)
    (ho : o.op = .call { callee := .builtin .append, args := #[s, x], argTypes := #[31, 3] }) (n : Nat) (hs : a.eval s = .slice none 0 0) (hx : a.eval x = .int .i64 (n : Int)) (h0 : 0 < n) (hn : n ≤ 1000)
    (h : ∀ (cap : Nat) (cs : Array Value), cs.size = cap → n ≤ cap → cap ≤ maxLen → wpList Tryd.prog ops Q rest (a.put o.dst (.slice (some ⟨w.heap.size, 0, none⟩) n cap)) (w.drew.alloc (.cells cs 48))) : wpList Tryd.prog ops Q (o :: rest) a w := by
  refine BigFrame.wpList_want hw fun K hK => ?_
  obtain ⟨cap, cs, hrun, h2, h3, h4⟩ := run_append_nilR w o.type n h0 hn
  unfold Oper.wp execOp
  simp only [ho, resolve, invoke, builtin, Sem.run_bind, Sem.run_pure, Result.andThen_ok, List.map_toArray, List.map_cons, List.map_nil, hs, hx, hrun]
  exact hK _ _ (h cap cs h2 h3 h4)
theorem bkGrow_any (n : Nat) (h0 : 0 < n) (hn : n ≤ 1000) (w : World) :
    Calls Tryd.prog 43 #[.slice none 0 0, .int .i64 (n : Int)] w fun e w' => ∃ v, e = .returned v ∧ w'.ownsRow w.heap.size 48 1 v 0 [] ∧ Below w.heap.size w w' := by
  have i0 : (0 : Int) < (n : Int) := by omega
  have i1 : ¬ ((n : Int) < 0) := by omega
  go_enter Tryd.func43, Tryd.ntmps43
  go_wp2_with (at_builtin; refine wpList_append_nilR rfl _ _ rfl n rfl rfl h0 hn ?_; intro cap cs h1 h2 h3; have k0 : (0 : Int) ≤ (cap : Int) := by omega)
  go_ret
  exact ⟨_, rfl, ⟨rfl, .inr ⟨w.heap.size, cap, cs, rfl, Nat.le_refl _, heap_alloc_new w.drew _, Nat.zero_le _, h3, by omega, by simp⟩⟩, (Below.refl _ _).drew.trans (below1 w.drew _)⟩
/-- A row's slices as values, none of F's. -/
def RowsXF (F : Nat → Prop) (w : World) (xs : List Value) (rs : List (List UInt8)) : Prop :=
  xs.length = rs.length ∧ ∀ k, k < rs.length → ∃ A c, xs[k]? = some (.slice A (rs.getD k []).length c) ∧ RdBX F w A (rs.getD k [])
theorem RdRX.vals {F : Nat → Prop} {w : World} {A : Option Addr} {rs : List (List UInt8)} (h : RdRX F w A rs) : ∃ xs, RdV w w.heap.size A xs ∧ RowsXF F w xs rs ∧ ∀ u ∈ xs, u.oneCell' = true := by
  obtain ⟨xs, h1, h2, h3⟩ := h.rdr.vals
  refine ⟨xs, h1, ⟨h2.1, fun k hk => ?_⟩, h3⟩
  obtain ⟨b, off, rfl, hb, _, hc⟩ := h.2 (by omega)
  obtain ⟨A', c, e, hr⟩ := hc k hk
  obtain ⟨b', off', e', _, hc'⟩ := h1 (by rw [h2.1]; omega)
  injection e' with e'
  injection e' with e1 e2 _
  subst e1 e2
  have e3 := hc' k (by rw [h2.1]; exact hk)
  exact ⟨A', c, e3.symm.trans e, hr⟩
theorem RowsXF.append {F : Nat → Prop} {w : World} {xs ys : List Value} {rs qs : List (List UInt8)} (h : RowsXF F w xs rs) (h' : RowsXF F w ys qs) : RowsXF F w (xs ++ ys) (rs ++ qs) :=
  ⟨by rw [List.length_append, List.length_append, h.1, h'.1], fun k hk => by
    by_cases q : k < rs.length
    · rw [List.getElem?_append_left (by rw [h.1]; exact q), List.getD_eq_getElem?_getD, List.getElem?_append_left q, ← List.getD_eq_getElem?_getD]
      exact h.2 k q
    · rw [List.getElem?_append_right (by rw [h.1]; omega), List.getD_eq_getElem?_getD, List.getElem?_append_right (by omega), ← List.getD_eq_getElem?_getD, h.1]
      exact h'.2 (k - rs.length) (by rw [List.length_append] at hk; omega)⟩
theorem RowsXF.below {F : Nat → Prop} {w w' : World} {xs : List Value} {rs : List (List UInt8)} (h : RowsXF F w xs rs) (hb : Below w.heap.size w w') : RowsXF F w' xs rs :=
  ⟨h.1, fun k hk => by
    obtain ⟨A, c, e, hr⟩ := h.2 k hk
    exact ⟨A, c, e, hr.below hb⟩⟩
theorem rdrx_own {F : Nat → Prop} {w : World} {base : Nat} {e : TypeId} {v : Value} {n : Nat} {xs : List Value} {rs : List (List UInt8)} (h : w.ownsRow base e 1 v n xs) (hF : ∀ k, F k → k < base) (hl : rs.length ≤ 140737488355328) (hx : RowsXF F w xs rs) :
    ∃ A cap, v = .slice A rs.length cap ∧ RdRX F w A rs := by
  have hn : n = rs.length := by have := h.1; have := hx.1; omega
  subst hn
  rcases h.2 with ⟨rfl, h0⟩ | ⟨g, cap, cur, rfl, hb, hg, h3, _, _, htk⟩
  · exact ⟨none, 0, by rw [h0], hl, fun h => by omega⟩
  · refine ⟨_, cap, rfl, hl, fun _ => ⟨g, 0, rfl, (Array.getElem?_eq_some_iff.1 hg).1, fun q => by have := hF g q; omega, fun k hk => ?_⟩⟩
    obtain ⟨A, c, h1, h2⟩ := hx.2 k hk
    refine ⟨A, c, ?_, h2⟩
    rw [← htk, List.getElem?_take, if_pos (by omega), Array.getElem?_toList] at h1
    rw [Nat.zero_add, cell_of_row w g k cur e (0, 0) hg]
    exact h1
set_option maxHeartbeats 1600000 in
theorem bkConcat_any (F : Nat → Prop) (g : Nat) (A1 A2 : Option Addr) (n1 n2 c1 c2 : Nat) (t : TypeId) (f : Nat × Nat) (r1 r2 : List (List UInt8)) (w : World) (hF : ∀ k, F k → k < w.heap.size) (hg : w.heap[g]? = some (.cells #[.slice A1 n1 c1, .slice A2 n2 c2] t f)) (hn1 : r1.length = n1) (hn2 : r2.length = n2) (h0 : 0 < n1) (hle : n1 + n2 ≤ 1000)
    (h1 : RdRX F w A1 r1) (h2 : RdRX F w A2 r2) :
    Calls Tryd.prog 26 #[.slice (some ⟨g, 0, none⟩) 2 2] w fun e w' => ∃ A' c', e = .returned (.slice A' (n1 + n2) c') ∧ RdRX F w' A' (r1 ++ r2) ∧ Below w.heap.size w w' := by
  obtain ⟨xs, v1, x1, o1⟩ := h1.vals
  obtain ⟨ys, v2, x2, o2⟩ := h2.vals
  have hlx := x1.1.trans hn1
  have hly := x2.1.trans hn2
  have HX := Lib.hid (x1.append x2)
  have HL : Hid ((r1 ++ r2).length = n1 + n2) := by show _ = _; rw [List.length_append, hn1, hn2]
  have V1 := Lib.hid v1
  have V2 := Lib.hid v2
  have O1 := Lib.hid o1
  have O2 := Lib.hid o2
  have HF := Lib.hid hF
  have hlx' := Lib.hid hlx
  have hly' := Lib.hid hly
  have hgl := (Array.getElem?_eq_some_iff.1 hg).1
  have q0 := cell_of_row w g 0 _ t f hg
  have q1 := cell_of_row w g 1 _ t f hg
  have Q0 : Hid (w.cell? ⟨g, 0, none⟩ = some (.slice A1 n1 c1)) := q0
  have Q1 : Hid (w.cell? ⟨g, 1, none⟩ = some (.slice A2 n2 c2)) := q1
  clear q0 q1 hg v1 v2 x1 x2 o1 o2 hF hlx hly h1 h2 hn1 hn2
  go_enter Tryd.func26, Tryd.ntmps26
  go_wp2
  go_loopw [3, 11] (fun s i wr => ∃ j : Nat, j ≤ 2 ∧ i = .int .i64 j ∧ s = .int .i64 (((if j = 0 then 0 else if j = 1 then n1 else n1 + n2 : Nat)) : Int) ∧ w = wr) (fun _ i _ => 2 - (intOf i).toNat)
  case atStart => exact ⟨0, by omega, rfl, rfl, rfl⟩
  case round =>
    obtain ⟨j, hj, rfl, rfl, rfl⟩ := hrel
    obtain rfl | rfl | rfl : j = 0 ∨ j = 1 ∨ j = 2 := by omega
    · have q0 := Q0.out
      simp only [if_pos]
      go_wp2
      go_roundw
      case rel => exact ⟨1, by omega, by go_num, by go_num, trivial⟩
      case measure => simp [intOf]
    · have q1 := Q1.out
      have i1 : ¬ ((n1 : Int) + (n2 : Int) < 0) := by omega
      simp only [if_pos, if_neg (show ¬ (1 : Nat) = 0 by omega)]
      go_wp2
      go_roundw
      case rel => exact ⟨2, by omega, by go_num, by go_num, trivial⟩
      case measure => simp [intOf]
    · simp only [if_neg (show ¬ (2 : Nat) = 0 by omega), if_neg (show ¬ (2 : Nat) = 1 by omega)]
      have CG0 := bkGrow_any (n1 + n2) (by omega) hle w
      rw [Int.natCast_add] at CG0
      have CG := Lib.hid CG0
      clear CG0
      go_wp2_with fail
      (with_reducible refine CG.out.mono ?_); rintro e w1 ⟨v1, rfl, ho1, hb1⟩
      have B1 := Lib.hid hb1
      have R1 := Lib.hid ho1
      have hlt1 := Lib.hid hgl
      clear hb1 ho1 CG
      go_wp2
      go_loopw [6, 27] (fun o i wx => ∃ j : Nat, j ≤ 2 ∧ i = .int .i64 j ∧ wx.ownsRow w.heap.size 48 1 o (if j = 0 then 0 else if j = 1 then n1 else n1 + n2) (if j = 0 then [] else if j = 1 then xs else xs ++ ys) ∧ Below w.heap.size w wx) (fun _ i _ => 2 - (intOf i).toNat)
      case atStart => exact ⟨0, by omega, rfl, R1.out, B1.out⟩
      case round =>
        obtain ⟨j, hj, rfl, hown, hbx⟩ := hrel
        have Hbx := Lib.hid hbx
        obtain rfl | rfl | rfl : j = 0 ∨ j = 1 ∨ j = 2 := by omega
        · simp only [if_pos] at hown
          have q0 := (Hbx.out.cell (p := ⟨g, 0, none⟩) hgl).trans Q0.out
          have Hown := Lib.hid hown
          clear hown hbx
          go_wp2_with (at_builtin; refine wpList_append_V rfl _ _ _ rfl w.heap.size 48 (.slice none 0 0) 24 Tryd.underlying31 info_row rfl _ 0 [] rfl Hown.out w.heap.size A1 n1 c1 xs rfl hlx'.out.symm (V1.out.below Hbx.out (Nat.le_refl _)) O1.out (by unfold maxLen; omega) (by omega) Hbx.out.size ?_; intro v2 w2 hown2 hg2 hat2)
          have hb2 := Hbx.out.grown hg2 Hbx.out.size (fun k e => (Hown.out.lt k e).1)
          rw [Nat.zero_add, List.nil_append] at hown2
          have Hown2 := Lib.hid hown2
          clear hown2 hg2 hat2 q0
          go_wp2
          go_roundw
          case rel => exact ⟨1, by omega, by go_num, Hown2.out, hb2⟩
          case measure => simp [intOf]
        · simp only [if_neg (show ¬ (1 : Nat) = 0 by omega), if_pos] at hown
          have q1 := (Hbx.out.cell (p := ⟨g, 1, none⟩) hgl).trans Q1.out
          have Hown := Lib.hid hown
          clear hown hbx
          go_wp2_with (at_builtin; refine wpList_append_V rfl _ _ _ rfl w.heap.size 48 (.slice none 0 0) 24 Tryd.underlying31 info_row rfl _ n1 xs rfl Hown.out w.heap.size A2 n2 c2 ys rfl hly'.out.symm (V2.out.below Hbx.out (Nat.le_refl _)) O2.out (by unfold maxLen; omega) (by omega) Hbx.out.size ?_; intro v2 w2 hown2 hg2 hat2)
          have hb2 := Hbx.out.grown hg2 Hbx.out.size (fun k e => (Hown.out.lt k e).1)
          have Hown2 := Lib.hid hown2
          clear hown2 hg2 hat2 q1
          go_wp2
          go_roundw
          case rel => exact ⟨2, by omega, by go_num, Hown2.out, hb2⟩
          case measure => simp [intOf]
        · simp only [if_neg (show ¬ (2 : Nat) = 0 by omega), if_neg (show ¬ (2 : Nat) = 1 by omega)] at hown
          obtain ⟨A', c', rfl, hr⟩ := rdrx_own hown HF.out (by rw [HL.out]; omega) (HX.out.below Hbx.out)
          have Hr := Lib.hid hr
          rw [HL.out]
          clear hown hbx hr
          go_wp2
          go_ret
          exact ⟨A', c', rfl, Hr.out, Hbx.out⟩
end Go.Proofs.YtjnemopocmhfkaaDoor
end
section
set_option maxRecDepth 20000
set_option linter.unusedVariables false
set_option linter.unusedSimpArgs false
namespace Go.Proofs.YtjnemopocmhfkaaDoor
open Go.RowKit

set_option maxHeartbeats 4000000 in
theorem eachFl_any (W w : World) (b : Nat) (H : BH) (N : Bch) (h : BP W w b H N) (lv : List Bool) (A : Option Addr) (m cp : Nat) (hm : m = lv.length) (hv : RdOX (BF b H N.n) w A lv) :
    Calls Tryd.prog 28 #[.pointer (some ⟨b, 0, none⟩), .slice A m cp, .func (.func 31) #[.pointer (some ⟨b, 0, none⟩)] #[]] w fun e w' => e = .returned (.int .i64 (onTo flF lv N N.n).1) ∧ BC W w w' b H N.n (onTo flF lv N N.n).2 := by
  subst hm
  have Hh := Lib.hid h
  have hn8 := h.at'.ok.n
  have CL := Lib.hid (bp_len W w b H N h)
  have Hv := Lib.hid hv
  obtain ⟨rr, hrr⟩ : ∃ rr, onTo flF lv N N.n = rr := ⟨_, rfl⟩
  rw [hrr]
  have Hall := Lib.hid hrr.symm
  clear hrr
  have CV := Lib.hid (fun (W1 : World) (H1 : BH) (N1 : Bch) (hp : BP W W1 b H1 N1) (hv1 : RdOX (BF b H1 N.n) W1 A lv) (j : Nat) (hj : j ≤ 1000000) => alvIs_any W.heap.size b H1 N1 W1 hp.at' lv A lv.length cp rfl hv1.rdo (j : Int) (by omega) (by omega))
  clear h hv
  obtain ⟨n0, hn0⟩ : ∃ n0, N.n = n0 := ⟨_, rfl⟩
  rw [hn0] at CL Hall hn8
  have Hn0 := Lib.hid hn0
  clear hn0
  go_enter Tryd.func28, Tryd.ntmps28
  go_wp2_with fail
  (with_reducible refine CL.out.mono ?_); rintro e w1 ⟨rfl, rfl⟩
  go_wp2
  go_loopw [11] (fun i wr => ∃ j : Nat, j ≤ n0 ∧ i = .int .i64 j ∧ (onTo flF lv N j).1 = 0 ∧ BC W w1 wr b H N.n (onTo flF lv N j).2) (fun i _ => n0 - (intOf i).toNat)
  case atStart => exact ⟨0, Nat.zero_le _, rfl, rfl, Hh.out.self⟩
  case round =>
    obtain ⟨j, hj, rfl, hz, hbc⟩ := hrel
    have Hz := Lib.hid hz
    have Hbc := Lib.hid hbc
    obtain ⟨Hj, aj, cj, nj⟩ := hbc
    have Haj := Lib.hid aj
    have Hcj := Lib.hid cj
    have Hnj := Lib.hid nj
    clear hz aj cj nj
    by_cases hlt : j < n0
    · have i0 : (0 : Int) ≤ (j : Int) := by omega
      have i1 : (j : Int) < (n0 : Int) := by omega
      have Hnn : Hid ((onTo flF lv N j).2.n = N.n) := flushed_n j
      have CL1 := Lib.hid (CV.out wr Hj _ Haj.out (Hv.out.chg Hcj.out (bnew_weak Hnj.out)) j (by omega))
      have HLv := Lib.hid (show alvD (onTo flF lv N j).2.n lv (j : Int) = lv.getD j false by rw [alvD_nat, Hnn.out, Hn0.out, decide_eq_true hlt]; rfl)
      rw [HLv.out] at CL1
      cases hb : lv.getD j false with
      | false =>
        rw [hb] at CL1
        have HS := Lib.hid (onTo_skip Hz.out hb)
        clear hb CL CV HLv
        go_wp2_with (go_at_call 34; (with_reducible refine CL1.out.mono ?_); rintro e w2 ⟨rfl, h2⟩; obtain rfl : wr = w2 := h2.symm)
        go_roundw
        case rel => exact ⟨j + 1, by omega, by go_num, by rw [HS.out]; exact Hz.out, by rw [HS.out]; exact Hbc.out⟩
        case measure => simp [intOf]; omega
      | true =>
        rw [hb] at CL1
        have CF := Lib.hid (show Calls Tryd.prog 31 #[.pointer (some ⟨b, 0, none⟩), .int .i64 (j : Int)] wr fun e w' => e = .returned (.int .i64 (flF (onTo flF lv N j).2 j).1) ∧ BC W wr w' b Hj (onTo flF lv N j).2.n (flF (onTo flF lv N j).2 j).2 from bp_flush W wr b Hj _ Haj.out (j : Int) (i64n (by omega)))
        have HX : Hid (∀ w2, BC W wr w2 b Hj (onTo flF lv N j).2.n (flF (onTo flF lv N j).2 j).2 → BC W w1 w2 b H N.n (flF (onTo flF lv N j).2 j).2) := fun w2 h2 => by
          rw [Hnn.out] at h2
          exact h2.seq Hcj.out Hnj.out
        have HG := Lib.hid (fun hq => onTo_goes (f := flF) Hz.out hb hq)
        have HP := Lib.hid (fun hq => onTo_pass (f := flF) Hz.out hb hq)
        clear hb CL CV HLv
        generalize flF (onTo flF lv N j).2 j = r at CF HX HG HP
        obtain ⟨e, Nx⟩ := r
        by_cases h5 : e = 5
        · have HP := Lib.hid (HP.out h5)
          clear HG
          rw [h5] at CF
          clear h5
          go_wp2_with (first | (go_at_call 34; (with_reducible refine CL1.out.mono ?_); rintro e w2 ⟨rfl, h2⟩; obtain rfl : wr = w2 := h2.symm) | (go_at_call 31; (with_reducible refine CF.out.mono ?_); rintro e w3 ⟨rfl, ht⟩; have Ht := Lib.hid (HX.out _ ht); clear ht))
          go_roundw
          case rel => exact ⟨j + 1, by omega, by go_num, by rw [HP.out], by rw [HP.out]; exact Ht.out⟩
          case measure => simp [intOf]; omega
        · have HG := Lib.hid (HG.out h5)
          clear HP
          by_cases h0 : e = 0
          · rw [h0] at CF HG
            clear h5 h0
            go_wp2_with (first | (go_at_call 34; (with_reducible refine CL1.out.mono ?_); rintro e w2 ⟨rfl, h2⟩; obtain rfl : wr = w2 := h2.symm) | (go_at_call 31; (with_reducible refine CF.out.mono ?_); rintro e w3 ⟨rfl, ht⟩; have Ht := Lib.hid (HX.out _ ht); clear ht))
            go_roundw
            case rel => exact ⟨j + 1, by omega, by go_num, by rw [HG.out], by rw [HG.out]; exact Ht.out⟩
            case measure => simp [intOf]; omega
          · have n5 : (e != 5) = true := by rw [bne_iff_ne]; exact h5
            have n0' : (e != 0) = true := by rw [bne_iff_ne]; exact h0
            have HS := Lib.hid (onTo_stop (f := flF) (lv := lv) (N := N) (i := j + 1) (by rw [HG.out]; exact h0) n0 (by omega))
            clear h5 h0
            go_wp2_with (first | (go_at_call 34; (with_reducible refine CL1.out.mono ?_); rintro e w2 ⟨rfl, h2⟩; obtain rfl : wr = w2 := h2.symm) | (go_at_call 31; (with_reducible refine CF.out.mono ?_); rintro e w3 ⟨rfl, ht⟩; have Ht := Lib.hid (HX.out _ ht); clear ht))
            go_ret
            exact ⟨by rw [Hall.out, HS.out, HG.out]; rfl, by rw [Hall.out, HS.out, HG.out]; exact Ht.out⟩
    · obtain rfl : j = n0 := by omega
      go_wp2
      go_ret
      exact ⟨by rw [Hall.out, Hz.out]; rfl, by rw [Hall.out]; exact Hbc.out⟩
end Go.Proofs.YtjnemopocmhfkaaDoor
end
