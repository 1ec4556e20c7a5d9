/- Texts put together: RbdFr, RbdPut. -/
import Derived.Test.YtadmofpipfdedaaRqbi
import Derived.Test.YtadmofpipfdedaaRqbf
section
set_option linter.unusedVariables false
set_option linter.unusedSimpArgs false
namespace Go.Proofs.Ytadmofpipfdedaa
open Go.RowKit

/-- A disk lost, and a new one in its place. -/
def frB (N : Bch) (k : Nat) : Bch := (N.fail (k : Int)).replace (k : Int)
theorem fr_ok {N : Bch} {k : Nat} (hk : k < N.n) : N.pickE (k : Int) = 0 ∧ (N.fail (k : Int)).replaceE (k : Int) = 0 ∧ (∀ i, (frB N k).D i = if i = k then Dsk.new else N.D i) ∧ (frB N k).n = N.n ∧ (frB N k).down = N.down ∧ (frB N k).left = N.left ∧ (frB N k).done = N.done := by
  have hp : N.pickE (k : Int) = 0 := Bch.pickE_ok (by omega) (by omega)
  have hp2 : (N.fail (k : Int)).pickE (k : Int) = 0 := Bch.pickE_ok (by omega) (by rw [fail_is]; omega)
  have hfk : ((N.fail (k : Int)).at_ (k : Int)).f = true := by
    show ((N.fail (k : Int)).D ((k : Int)).toNat).f = true
    rw [fail_D hk, show ((k : Int)).toNat = k by omega, if_pos rfl]; rfl
  have hr : (N.fail (k : Int)).replaceE (k : Int) = 0 := by
    unfold Bch.replaceE
    rw [if_neg (by rw [hp2]; simp), if_pos hfk]
  have he : frB N k = (N.fail (k : Int)).set k Dsk.new := by
    unfold frB Bch.replace
    rw [if_neg (by rw [hr]; simp)]
    rfl
  have hf : N.fail (k : Int) = N.set k Dsk.failed := by
    unfold Bch.fail
    rw [if_neg (by rw [hp]; simp)]
    rfl
  refine ⟨hp, hr, fun i => ?_, ?_, ?_, ?_, ?_⟩
  · rw [he]
    show upd (N.fail (k : Int)).D k Dsk.new i = _
    by_cases e : i = k
    · subst e; rw [upd_same, if_pos rfl]
    · rw [upd_other _ _ e, if_neg e, fail_D hk, if_neg e]
  · rw [he, hf]; rfl
  · rw [he, hf]; rfl
  · rw [he, hf]; rfl
  · rw [he, hf]; rfl
section
variable {W w : World} {b : Nat} {H : BH} {N : Bch} {K : List (Nat × Obj)} {R : List (Option Addr × List (List UInt8))} {S : List (Option Addr × List UInt8)}
theorem replace_n (N : Bch) (d : Int) : (N.replace d).n = N.n := by unfold Bch.replace; split <;> rfl
theorem ks_replace (h : KS W w b H N K R S) (d : Int) (hd : i64B d) : Calls Try.prog 16 #[.pointer (some ⟨b, 0, none⟩), .int .i64 d] w fun e w' => e = .returned (.int .i64 (N.replaceE d)) ∧ ∃ H', KS W w' b H' (N.replace d) K R S := by
  refine (bp_replace W w b H N h.bp d hd).mono ?_
  rintro e w' ⟨rfl, ht⟩
  obtain ⟨H', k'⟩ := h.bc ht (replace_n _ _)
  exact ⟨rfl, H', k'⟩
end
section
variable {N : Bch} {m k : Nat} {G : RG} {zs : List Int}
/-- The rows by numbers. -/
def rsZ (G : RG) (zs : List Int) (t : Nat) : List (List UInt8) := datL zs t (roW (G.L t) (G.D t))
theorem Fb.st (h : Fb N m (rowG G zs) 16 0) (hle : ∀ t, t < 16 → G.D t ≤ (m : Int)) (hG : G.ok = true) {t i : Nat} (ht : t < 16) (hi : (i : Int) < G.D t) : secAt (N.D i).now (36 + t) = (flR G (rsZ G zs) t).getD i [] := by
  have hD := hle t ht
  rw [h.row (by omega) ht, rowG_len, if_pos (by omega)]
  rfl
theorem Fb.no (h : Fb N m (rowG G zs) 16 0) {t i : Nat} (hm : i < m) (ht : t < 16) (hi : ¬ (i : Int) < G.D t) : secAt (N.D i).now (36 + t) = zeroL 32 := by
  rw [h.row hm ht, rowG_len, if_neg (by omega)]
/-- What Disk finds: rows that stand, but on the new disk. -/
theorem Fb.rbh (h : Fb N m (rowG G zs) 16 0) (hle : ∀ t, t < 16 → G.D t ≤ (m : Int)) (hG : G.ok = true) (hk : k < m) {M : Bch} {lv : List Bool} (hn : M.n = m) (hd : M.down = false) (hD : ∀ i, i < m → lv.getD i false = true → M.D i = N.D i) (hf : (M.D k).f = false) (ho : OutK G k (M.D k)) (hl : lv.getD k false = false) : RbH M lv G k (rsZ G zs) ∧ StR M lv G (rsZ G zs) := by
  have hs : StR M lv G (rsZ G zs) := fun t ht i hi hs => by
    obtain ⟨h1, h2, _⟩ := srvD_yes hs
    rw [hD i (by omega) h2]
    exact h.st hle hG ht hi
  exact ⟨rbh_of hG (by omega) hd hf hl (rows_dat G zs) hs ho, hs⟩
/-- A disk that Disk has told is as the lost one was. -/
theorem rb_same {M M0 : Bch} (h : Fb N m (rowG G zs) 16 0) (hle : ∀ t, t < 16 → G.D t ≤ (m : Int)) (hG : G.ok = true) (hk : k < m) (I : RbI M0 M G k) (hz : RbZ M G k (rsZ G zs) 16) : ∀ j, j < 52 → secAt (M.D k).now j = secAt (N.D k).now j := fun j hj => by
  by_cases hin : inK G k j
  · obtain ⟨t, ht, hkd, rfl⟩ := hin
    rw [hz.2 t ht hkd, h.st hle hG ht hkd]
  · rw [I.out.now hj hin]
    by_cases h36 : j < 36
    · exact (h.low hk h36).symm
    · obtain ⟨t, rfl⟩ : ∃ t, j = 36 + t := ⟨j - 36, by omega⟩
      exact (h.no hk (by omega) (fun e => hin ⟨t, by omega, e, rfl⟩)).symm
end
end Go.Proofs.Ytadmofpipfdedaa
end
section
set_option linter.unusedVariables false
set_option linter.unusedSimpArgs false
namespace Go.Proofs.Ytadmofpipfdedaa
open Go.RowKit

theorem bool_cell {w : World} {p : Nat} {lv : List Bool} {t : TypeId} {f : Nat × Nat} (h : w.heap[p]? = some (.cells (lv.map Value.bool).toArray t f)) {o : Nat} {v : Value} (hc : w.cell? ⟨p, o, none⟩ = some v) : ∃ x : Bool, v = .bool x := by
  rw [cell_of_row w p o _ t f h, List.getElem?_toArray, List.getElem?_map] at hc
  cases hx : lv[o]? with
  | none => rw [hx] at hc; cases hc
  | some x => rw [hx] at hc; injection hc with hc; exact ⟨x, hc.symm⟩
theorem KS.putB {W w w' : World} {b : Nat} {H : BH} {N : Bch} {p : Nat} {lv : List Bool} {t : TypeId} {f : Nat × Nat} {o' : Obj} {K : List (Nat × Obj)} {R : List (Option Addr × List (List UInt8))} {S : List (Option Addr × List UInt8)} (h : KS W w b H N ((p, .cells (lv.map Value.bool).toArray t f) :: K) R S) (hg : w.grownBy w' (some p)) (hb : w'.heap[p]? = some o') (hne : ∀ r ∈ K, r.1 ≠ p) : KS W w' b H N ((p, o') :: K) R S := by
  have hp := (h.kx.kp _ (List.mem_cons_self ..)).1
  dsimp only at hp
  have hcell : ∀ q : Addr, q.block ≠ p → q.block < w.heap.size → w'.cell? q = w.cell? q := fun q h1 h2 => World.cell?_of_block (hg.block q.block h2 fun e => h1 (by injection e))
  have hB : ∀ {A : Option Addr} {bs : List UInt8}, RdBX (BF b H N.n) w A bs → RdBX (BF b H N.n) w' A bs := fun {A bs} h0 => ⟨h0.1, fun hn => by
    obtain ⟨b', off, e, hl, hF, hc⟩ := h0.2 hn
    have hbp : b' ≠ p := fun e2 => by
      subst e2
      obtain ⟨x, hx⟩ := bool_cell hp (hc 0 hn)
      cases hx
    exact ⟨b', off, e, Nat.lt_of_lt_of_le hl hg.size, hF, fun k hk => (hcell ⟨b', off + k, none⟩ hbp hl).trans (hc k hk)⟩⟩
  refine ⟨h.kx.put (K1 := []) rfl hg hb (by simpa using hne), fun q hq => ?_, fun q hq => hB (h.sx q hq)⟩
  have h0 := h.rx q hq
  refine ⟨h0.1, fun hn => ?_⟩
  obtain ⟨b', off, e, hl, hF, hc⟩ := h0.2 hn
  have hbp : b' ≠ p := fun e2 => by
    subst e2
    obtain ⟨A', c, h1, _⟩ := hc 0 hn
    obtain ⟨x, hx⟩ := bool_cell hp h1
    cases hx
  refine ⟨b', off, e, Nat.lt_of_lt_of_le hl hg.size, hF, fun k hk => ?_⟩
  obtain ⟨A', c, h1, h2⟩ := hc k hk
  exact ⟨A', c, (hcell ⟨b', off + k, none⟩ hbp hl).trans h1, hB h2⟩
theorem pend_zero {N : Bch} (h : ∀ i, i < N.n → (N.D i).ps = []) : N.pend = 0 := offs_zero h
end Go.Proofs.Ytadmofpipfdedaa
end
