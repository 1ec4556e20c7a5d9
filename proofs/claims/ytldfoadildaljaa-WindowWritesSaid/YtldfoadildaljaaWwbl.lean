/- Texts put together: WinMine, RbdFr, RbdPut. -/
import Derived.Test.YtldfoadildaljaaWwbj
import Derived.Test.YtldfoadildaljaaWwae
import Derived.Test.YtldfoadildaljaaWwbk
import Derived.Test.YtldfoadildaljaaWwbh
section
set_option linter.unusedVariables false
set_option linter.unusedSimpArgs false
namespace Go.Proofs.Ytldfoadildaljaa

section
variable {l d c l' c' R K wa wb : Int} {D' : Nat}
/-- The kind of what stands in the window's rows; data is of the window's sectors. -/
theorem Pn.mine (P : Pn l d c l' (D' : Int) c' R K wa wb) {k : Int} {ds : List (List UInt8)} (hl : (ds.length : Int) = R * wb) (h32 : ∀ x ∈ ds, x.length = 32) {t i : Nat} (ht : t < 16) (h0 : k * R ≤ (t : Int)) (h1 : (t : Int) < (k + 1) * R) (hi : i < D') :
    plBOk l' (D' : Int) c' (i : Int) (t : Int) = true ∧ (plBk l' (D' : Int) c' (i : Int) (t : Int) = 0 → ∃ j, j < ds.length ∧ (wfl l' (D' : Int) c' (k * (R * wb)) ds t).getD i [] = ds.getD j []) := by
  have hok := plOk_mk P.b (show (0 : Int) ≤ (t : Int) by omega) (by omega)
  have hB : plBOk l' (D' : Int) c' (i : Int) (t : Int) = true := by
    unfold plBOk; rw [hok, decide_eq_true ⟨by omega, by omega⟩]; rfl
  refine ⟨hB, fun h => ?_⟩
  have hp : (i : Int) ≠ plP l' (D' : Int) c' (t : Int) := fun e => by
    unfold plBk at h; rw [if_pos hB, if_pos e] at h; exact absurd h (by decide)
  have hq : (i : Int) ≠ plQ l' (D' : Int) c' (t : Int) := fun e => by
    unfold plBk at h; rw [if_pos hB, if_neg hp, if_pos e] at h; exact absurd h (by decide)
  obtain ⟨a1, a2, a3⟩ := plK_spec hB hp hq
  obtain ⟨q, hq⟩ : ∃ q : Nat, plK l' (D' : Int) c' (i : Int) (t : Int) = (q : Int) := ⟨(plK l' (D' : Int) c' (i : Int) (t : Int)).toNat, by omega⟩
  rw [hq] at a2 a3
  have gr := gr_mk (l := l') (c := c') (r := (t : Int)) (D := D') P.b (by omega) (by omega)
  have hwd := gr.wd
  have hqW : q < roW l' (D' : Int) := by omega
  have hpD := gr.R.pD q hqW
  rw [gr.eD] at hpD
  have hir : i = roS D' (roF l' (D' : Int) c' (t : Int)) q := by omega
  obtain ⟨w1, w2⟩ := P.wrow_ok hl h32 (k := k) ht h0 h1
  have hW := gr.hW
  have hWid : gWid l' (D' : Int) c' = (D' : Int) - (l' - 4) := gWid_yes P.b
  obtain ⟨s1, s2⟩ := P.span (j := (q : Int)) h0 h1 (by omega) (by have := P.ew'; omega)
  have e : (k + 1) * (R * wb) = k * (R * wb) + R * wb := by rw [Int.add_mul, Int.one_mul]
  rw [e] at s2
  refine ⟨(plN l' (D' : Int) c' (t : Int) (q : Int) - k * (R * wb)).toNat, by omega, ?_⟩
  unfold wfl
  rw [gr.eD, hir, fillL_at gr.hF (by omega), allL_data (by rw [w1]; exact hqW)]
  unfold wrow
  have hn : (plNums l' (D' : Int) c' (t : Int))[q]? = some (plN l' (D' : Int) c' (t : Int) (q : Int)) := by
    unfold plNums
    rw [if_pos hok, List.getElem?_map, List.getElem?_range (by omega)]
    rfl
  rw [List.getD_eq_getElem?_getD, List.getElem?_map, hn]
  rfl
end
theorem Wx.told {M : Bch} {m r0 R : Nat} {lv : List Bool} {wr : Nat → List (List UInt8)} (h : Wx (Bch.new m) M m lv m r0 R wr) {d k : Nat} (hd : d < m) (hk : k < 52) :
    M.readE (d : Int) (k : Int) = 0 ∧ ((36 + r0 ≤ k ∧ k < 36 + r0 + R ∧ lv.getD d false = true) → M.read (d : Int) (k : Int) = (wr (k - 36)).getD d []) ∧ (¬ (36 + r0 ≤ k ∧ k < 36 + r0 + R ∧ lv.getD d false = true) → M.read (d : Int) (k : Int) = zeroL 32) := by
  obtain ⟨a, b⟩ := Bch.read_ok (N := M) (d := d) (k := k) (by rw [h.wg.n]; exact hd) hk ((h.f d).trans rfl) h.wg.dn
  refine ⟨a, fun q => ?_, fun q => ?_⟩
  · rw [b, h.sec d hd k hk, if_pos ⟨q.1, q.2.1, hd, srvD_mk hd q.2.2 rfl⟩]
  · rw [b, h.sec d hd k hk, if_neg (fun e => q ⟨e.1, e.2.1, (srvD_yes e.2.2.2).2.1⟩)]
    exact new_zero hk
theorem odd_ne {x : List UInt8} (h : x.getD 0 0 ≠ 0) : x ≠ zeroL 32 := fun e => h (by rw [e]; rfl)
end Go.Proofs.Ytldfoadildaljaa
end
section
set_option linter.unusedVariables false
set_option linter.unusedSimpArgs false
namespace Go.Proofs.Ytldfoadildaljaa
open Go.RowKit

section
variable {W w : World} {b : Nat} {H : BH} {N : Bch} {K : List (Nat × Obj)} {R : List (Option Addr × List (List UInt8))} {S : List (Option Addr × List UInt8)}
end
section
variable {N : Bch} {m k : Nat} {G : RG} {zs : List Int}
end
end Go.Proofs.Ytldfoadildaljaa
end
section
set_option linter.unusedVariables false
set_option linter.unusedSimpArgs false
namespace Go.Proofs.Ytldfoadildaljaa
open Go.RowKit

theorem bool_cell {w : World} {p : Nat} {lv : List Bool} {t : TypeId} {f : Nat × Nat} (h : w.heap[p]? = some (.cells (lv.map Value.bool).toArray t f)) {o : Nat} {v : Value} (hc : w.cell? ⟨p, o, none⟩ = some v) : ∃ x : Bool, v = .bool x := by
  rw [cell_of_row w p o _ t f h, List.getElem?_toArray, List.getElem?_map] at hc
  cases hx : lv[o]? with
  | none => rw [hx] at hc; cases hc
  | some x => rw [hx] at hc; injection hc with hc; exact ⟨x, hc.symm⟩
theorem KS.putB {W w w' : World} {b : Nat} {H : BH} {N : Bch} {p : Nat} {lv : List Bool} {t : TypeId} {f : Nat × Nat} {o' : Obj} {K : List (Nat × Obj)} {R : List (Option Addr × List (List UInt8))} {S : List (Option Addr × List UInt8)} (h : KS W w b H N ((p, .cells (lv.map Value.bool).toArray t f) :: K) R S) (hg : w.grownBy w' (some p)) (hb : w'.heap[p]? = some o') (hne : ∀ r ∈ K, r.1 ≠ p) : KS W w' b H N ((p, o') :: K) R S := by
  have hp := (h.kx.kp _ (List.mem_cons_self ..)).1
  dsimp only at hp
  have hcell : ∀ q : Addr, q.block ≠ p → q.block < w.heap.size → w'.cell? q = w.cell? q := fun q h1 h2 => World.cell?_of_block (hg.block q.block h2 fun e => h1 (by injection e))
  have hB : ∀ {A : Option Addr} {bs : List UInt8}, RdBX (BF b H N.n) w A bs → RdBX (BF b H N.n) w' A bs := fun {A bs} h0 => ⟨h0.1, fun hn => by
    obtain ⟨b', off, e, hl, hF, hc⟩ := h0.2 hn
    have hbp : b' ≠ p := fun e2 => by
      subst e2
      obtain ⟨x, hx⟩ := bool_cell hp (hc 0 hn)
      cases hx
    exact ⟨b', off, e, Nat.lt_of_lt_of_le hl hg.size, hF, fun k hk => (hcell ⟨b', off + k, none⟩ hbp hl).trans (hc k hk)⟩⟩
  refine ⟨h.kx.put (K1 := []) rfl hg hb (by simpa using hne), fun q hq => ?_, fun q hq => hB (h.sx q hq)⟩
  have h0 := h.rx q hq
  refine ⟨h0.1, fun hn => ?_⟩
  obtain ⟨b', off, e, hl, hF, hc⟩ := h0.2 hn
  have hbp : b' ≠ p := fun e2 => by
    subst e2
    obtain ⟨A', c, h1, _⟩ := hc 0 hn
    obtain ⟨x, hx⟩ := bool_cell hp h1
    cases hx
  refine ⟨b', off, e, Nat.lt_of_lt_of_le hl hg.size, hF, fun k hk => ?_⟩
  obtain ⟨A', c, h1, h2⟩ := hc k hk
  exact ⟨A', c, (hcell ⟨b', off + k, none⟩ hbp hl).trans h1, hB h2⟩
theorem pend_zero {N : Bch} (h : ∀ i, i < N.n → (N.D i).ps = []) : N.pend = 0 := offs_zero h
end Go.Proofs.Ytldfoadildaljaa
end
