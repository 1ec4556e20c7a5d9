/- Texts put together: CloneB, Keep, OwnZ, Rows2, EraseMath, CopyS, Str, LawArgs, Laid. -/
import Derived.Test.YtjnemopocmhfkaaDoorBlad
import Derived.Test.YtjnemopocmhfkaaDoorBlab
import Derived.Lib.AppendZerosOnto
import Derived.Deep.Matrix
import Derived.Lib.LazyBuf
import Derived.Laws.BytesArg
import Derived.Laws.BytesString
import Derived.Lib.ConvBytes
import Derived.Deep.Grids
import Derived.Test.YtjnemopocmhfkaaDoorCards
import Derived.Test.YtjnemopocmhfkaaDoorTie
section
set_option maxRecDepth 8000
namespace Go.Proofs.YtjnemopocmhfkaaDoor
open Go.RowKit

theorem own_empty (w : World) : OwB 5 (w.alloc (.cells #[] 5)) w.heap.size (.slice (some ⟨w.heap.size, 0, none⟩) 0 0) [] :=
  ⟨World.ownsRow_lit w #[] 0 (Nat.le_refl _) (by unfold maxLen; omega) rfl, by simp⟩
theorem clone_any (A : Option Addr) (bs : List UInt8) (n c : Nat) (w : World) (hn : n = bs.length) (hp : 0 < bs.length) (hr : RdB w w.heap.size A bs) :
    Calls Tryd.prog 49 #[.slice A n c] w fun e w' => ∃ v, e = .returned v ∧ OwB 5 w' w.heap.size v bs ∧ Below w.heap.size w w' := by
  have hl := hr.1
  obtain ⟨b, off, rfl, hb, hc⟩ := hr.2 hp
  subst hn
  have ho := own_empty w
  have hq : ∀ W : World, (binOp .eql 48 (.slice (some ⟨b, off, none⟩) bs.length c) (.slice none 0 0)).run Tryd.prog W = .ok (.bool false) W := fun _ => rfl
  have hr1 := hr.below (below1 w (.cells #[] 5)) (Nat.le_refl _)
  go_enter Tryd.func49, Tryd.ntmps49
  go_wp2_with (at_builtin; refine wpList_append_B _ rfl _ _ _ rfl w.heap.size 5 Tryd.underlying48 info_u8 (.slice (some ⟨w.heap.size, 0, none⟩) 0 0) [] rfl ho w.heap.size (some ⟨b, off, none⟩) bs.length c bs rfl rfl hr1 (by simpa using hl) (by simp) ?_; intro v' w' hown hg hat)
  have hbw := (below1 w (.cells #[] 5)).grown hg (by simp) (by simp [Value.ownBlock])
  rw [List.nil_append] at hown
  go_ret
  exact ⟨v', rfl, hown, hbw⟩
end Go.Proofs.YtjnemopocmhfkaaDoor
end
section
namespace Go.Proofs.YtjnemopocmhfkaaDoor
open Go.RowKit

theorem take_snoc_eq {bs bs' : List UInt8} {j : Nat} (h : bs.take j = bs'.take j) (hj : j < bs.length) (hj' : j < bs'.length) (he : bs.getD j 0 = bs'.getD j 0) : bs.take (j + 1) = bs'.take (j + 1) := by
  rw [List.take_succ_eq_append_getElem hj, List.take_succ_eq_append_getElem hj', h]
  have e : bs[j] = bs'[j] := by simpa [hj, hj'] using he
  rw [e]
theorem getD_of_eq {bs bs' : List UInt8} (h : bs = bs') (j : Nat) : bs.getD j 0 = bs'.getD j 0 := by rw [h]
theorem u8_bne {a b : UInt8} (h : a ≠ b) : ((a.toNat : Int) != (b.toNat : Int)) = true := by
  rw [bne_iff_ne]; intro h'; exact h (UInt8.toNat_inj.1 (by omega))
def SamePost (bs bs' : List UInt8) (w : World) (e : Ending) (w' : World) : Prop := e = .returned (.bool (decide (bs = bs'))) ∧ ∃ m, w' = w.drewN m
set_option maxHeartbeats 400000 in
theorem same_any (A A' : Option Addr) (n n' c c' B : Nat) (bs bs' : List UInt8) (w : World) (hn : n = bs.length) (hn' : n' = bs'.length) (hr : RdB w B A bs) (hr' : RdB w B A' bs') :
    Calls Tryd.prog 20 #[.slice A n c, .slice A' n' c'] w (SamePost bs bs' w) := by
  subst hn hn'
  have hl := hr.1
  have hl' := hr'.1
  by_cases hlen : bs.length = bs'.length
  · have hle := Lib.hid hlen
    have hne : ((bs.length : Int) != (bs'.length : Int)) = false := by rw [hlen]; simp
    clear hlen
    go_enter Tryd.func20, Tryd.ntmps20
    go_wp2
    go_loopw [5] (fun i wr => ∃ j m : Nat, j ≤ bs.length ∧ i = .int .i64 j ∧ bs.take j = bs'.take j ∧ wr = w.drewN m) (fun i _ => bs.length - (intOf i).toNat)
    case atStart => exact ⟨0, 0, Nat.zero_le _, rfl, rfl, rfl⟩
    case round =>
      obtain ⟨j, m, hj, rfl, htk, rfl⟩ := hrel
      have Htk := Lib.hid htk
      clear htk
      by_cases hlt : j < bs.length
      · have hlt' : j < bs'.length := by have := hle.out; omega
        obtain ⟨b, off, rfl, hb, hc⟩ := hr.2 (by omega)
        obtain ⟨b', off', rfl, hb', hc'⟩ := hr'.2 (by omega)
        have h1 := hc j hlt
        have h2 := hc' j hlt'
        have i0 : (0 : Int) ≤ (j : Int) := by omega
        have i1 : (j : Int) < (bs.length : Int) := by omega
        have i2 : (j : Int) < (bs'.length : Int) := by omega
        clear hc hc'
        by_cases he : bs.getD j 0 = bs'.getD j 0
        · have Hsn := Lib.hid (take_snoc_eq Htk.out hlt hlt' he)
          rw [← he] at h2
          clear he
          generalize bs.getD j 0 = x at h1 h2
          go_wp2
          go_quiet (fail)
          go_wp2
          go_roundw
          case rel => exact ⟨j + 1, _, by omega, by go_num, Hsn.out, rfl⟩
          case measure => simp [intOf]; omega
        · have hd : decide (bs = bs') = false := by simpa using fun h => he (getD_of_eq h j)
          have Hd := Lib.hid hd
          have hb := u8_bne he
          clear hd he
          generalize bs.getD j 0 = x at h1 hb
          generalize bs'.getD j 0 = y at h2 hb
          go_wp2
          go_quiet (fail)
          go_wp2
          go_ret
          exact ⟨by rw [Hd.out]; rfl, m + nq, World.drewN_drewN _ _ _⟩
      · obtain rfl : j = bs.length := by omega
        have Hd : Hid (decide (bs = bs') = true) := by
          have h1 := Htk.out
          rw [List.take_length, hle.out, List.take_length] at h1
          exact decide_eq_true h1
        go_wp2
        go_ret
        exact ⟨by rw [Hd.out]; rfl, m, rfl⟩
  · go_enter Tryd.func20, Tryd.ntmps20
    have hne : ((bs.length : Int) != (bs'.length : Int)) = true := by rw [bne_iff_ne]; omega
    go_wp2
    go_ret
    exact ⟨by rw [decide_eq_false (fun h => hlen (by rw [h]))]; rfl, 0, rfl⟩
end Go.Proofs.YtjnemopocmhfkaaDoor
end
section
namespace Go.Proofs.YtjnemopocmhfkaaDoor
open Go.RowKit

section
variable {P : Program} (w : World)
end
end Go.Proofs.YtjnemopocmhfkaaDoor
end
section
namespace Go.Proofs.YtjnemopocmhfkaaDoor
open Go.ChangeShapes Go.WideShapes Go.ChangeAt Go.RowKit

section
variable {H : Type} {enc : TypeId × Value → H} {P : Program}
end

end Go.Proofs.YtjnemopocmhfkaaDoor
end
section
namespace Go.Proofs.YtjnemopocmhfkaaDoor

section
variable {N : Nat} {p q : List UInt8} {all : List (List UInt8)} {i j : Nat}
end
end Go.Proofs.YtjnemopocmhfkaaDoor
end
section
set_option linter.unusedVariables false
set_option linter.unusedSimpArgs false
namespace Go.Proofs.YtjnemopocmhfkaaDoor
open Go.RowKit

def setsB (bs : List UInt8) : Nat → List UInt8 → List UInt8
  | _, [] => bs
  | o, x :: r => setsB (bs.set o x) (o + 1) r
theorem OwB.sets {e : TypeId} {B g n cap : Nat} : ∀ (xs : List UInt8) (o : Nat) {w : World} {bs : List UInt8}, OwB e w B (.slice (some ⟨g, 0, none⟩) n cap) bs → bs.length = n →
    OwB e (w.setCells g o (xs.map fun x => Value.int .u8 (x.toNat : Int))) B (.slice (some ⟨g, 0, none⟩) n cap) (setsB bs o xs) ∧ w.grownBy (w.setCells g o (xs.map fun x => Value.int .u8 (x.toNat : Int))) (some g)
  | [], _, w, _, h, _ => ⟨h, World.grownBy.refl w _⟩
  | x :: r, o, w, bs, h, hn => by
    obtain ⟨h1, h2⟩ := h.set hn o x
    obtain ⟨h3, h4⟩ := OwB.sets r (o + 1) h1 ((List.length_set ..).trans hn)
    exact ⟨h3, h2.trans h4⟩
theorem size_u8' (w : World) : (Go.sizeOf 5).run Tryd.prog w = .ok 1 w := by kernel_rfl
/-- copy(own, a text). -/
theorem wpList_copy_S {w : World} {ops : Array Oper} {rest : List Oper} {o : Oper} {a : Act} {Q : Exit → Act → World → Prop} (hw : Region.wanted o (yielded ops a.tmps) = true) (d x : Operand)
    (ho : o.op = .call { callee := .builtin .copy, args := #[d, x], argTypes := #[48, 9] })
    (g n cap B : Nat) (ds xs : List UInt8) (hd : a.eval d = .slice (some ⟨g, 0, none⟩) n cap) (hx : a.eval x = .string ⟨xs.toArray⟩) (hown : OwB 5 w B (.slice (some ⟨g, 0, none⟩) n cap) ds) (hdn : ds.length = n) (hle : xs.length ≤ n)
    (h : ∀ w', OwB 5 w' B (.slice (some ⟨g, 0, none⟩) n cap) (setsB ds 0 xs) → w.grownBy w' (some g) → ∀ r : Value, wpList Tryd.prog ops Q rest (a.put o.dst r) w') : wpList Tryd.prog ops Q (o :: rest) a w := by
  refine BigFrame.wpList_want hw fun K hK => ?_
  have hsz : (⟨xs.toArray⟩ : ByteArray).size = xs.length := by show xs.toArray.size = _; simp
  have hrun := Go.run_copy_string (P := Tryd.prog) w 48 9 o.type 5 g 0 n cap ⟨xs.toArray⟩ Tryd.underlying48 size_u8' (by rw [hsz]; exact hle)
    (fun j hj => by rw [Nat.zero_add, (hown.cell hdn j (by omega)).1]; rfl) (fun j hj => by rw [Nat.zero_add]; exact (hown.cell hdn j (by omega)).2)
  obtain ⟨h1, h2⟩ := hown.sets xs 0 hdn
  unfold Oper.wp execOp
  simp only [ho, resolve, invoke, builtin, Sem.run_bind, Sem.run_pure, Result.andThen_ok, List.map_toArray, List.map_cons, List.map_nil, hd, hx, hrun]
  exact hK _ _ (h _ h1 h2 _)
end Go.Proofs.YtjnemopocmhfkaaDoor
end
section
namespace Go.Proofs.YtjnemopocmhfkaaDoor
open Go.RowKit

/-- Bytes as a text. -/
def str (bs : List UInt8) : Value := .string ⟨bs.toArray⟩
theorem conv_str (A : Option Addr) (bs : List UInt8) (n c B : Nat) (w : World) (hn : n = bs.length) (hr : RdB w B A bs) : (convert 48 9 (.slice A n c)).run Tryd.prog w = .ok (str bs) w := by
  subst hn
  rcases Nat.eq_zero_or_pos bs.length with h0 | hp
  · have : bs = [] := List.eq_nil_of_length_eq_zero h0
    subst this
    rcases A with _ | a
    · exact run_convert_bytes_nil w _ _ Tryd.underlying48 Tryd.underlying5 _ _ _ Tryd.underlying9
    · have h := run_convert_bytes_string (P := Tryd.prog) w _ _ _ (some a) 0 c Tryd.underlying48 Tryd.underlying5 Tryd.underlying9
      have h2 := run_bytesToString (P := Tryd.prog) w a 0 c [] (by simp [loadCells, loadCellsFrom])
      exact h.trans h2
  · obtain ⟨b, off, rfl, _, hc⟩ := hr.2 hp
    have h := run_convert_bytes_arg (P := Tryd.prog) w _ _ Tryd.underlying48 Tryd.underlying5 b off bs.length c (bs.map fun x => (x.toNat : Int)) (by simp) (fun i hi => by
      rw [hc i hi]; simp [hi]) _ Tryd.underlying9
    have e : (bs.map fun x => (x.toNat : Int)).map (fun n => UInt8.ofNat n.toNat) = bs := by
      rw [List.map_map]
      exact (List.map_congr_left (g := id) fun x _ => by simp).trans (List.map_id bs)
    rw [h]
    unfold str strOfNums
    rw [e]
theorem str_eql (t : TypeId) (a b : List UInt8) (w : World) : (binOp .eql t (str a) (str b)).run Tryd.prog w = .ok (.bool (a == b)) w := by unfold str; rw [binOp_string_eql]; simp
end Go.Proofs.YtjnemopocmhfkaaDoor
end
section
namespace Go.Proofs.YtjnemopocmhfkaaDoor
open Go.ChangeShapes Go.WideShapes Go.ChangeAt Go.RowKit Go.Deep

section
variable {H : Type} {enc : TypeId × Value → H} {P : Program}
theorem addr_of {W : World} {x : Addr} {u : Value} (h : W.cell? (x.add 0) = some u) : ∃ b off, x = ⟨b, off, none⟩ ∧ b < W.heap.size := by
  obtain ⟨b, off, spot⟩ := x
  have hspot : spot = none := by simpa [Addr.add] using World.cell?_spot h
  subst hspot
  have := World.block_lt_of_cell? _ _ h
  exact ⟨b, off, rfl, by simpa [Addr.add] using this⟩
theorem addr_add (b off k : Nat) : ((⟨b, off, none⟩ : Addr).add k) = ⟨b, off + k, none⟩ := by unfold Addr.add; by_cases hk0 : k = 0 <;> simp [hk0]
/-- A slice of whole numbers that came in. -/
theorem open_rdz {t e : TypeId} (ht : P.underlying t = some (.slice e)) (he : P.underlying e = some (.int .i64)) (hc : P.cellsOf e = 1) {r : Reach} {W : World} {base : Nat} {v : Value} {d : DataW H} {p : List MemPlace}
    (hv : Value.okWide P W r base t v) (h : DataW.Trod enc P W 0 (fun _ => true) true t v d p) : ∃ A zs cap, v = .slice A zs.length cap ∧ zs.length ≤ cap ∧ RdZ W W.heap.size A zs := by
  obtain ⟨A, len, cap, rfl⟩ := okWide_slice ht hv
  obtain ⟨fuel, hf⟩ := h
  rcases open_ints ht he hc hf with ⟨hcs, _⟩ | ⟨x, l, c, zs, hcs, _, hl, hm, hz, hd, hcell, hwz⟩
  · simp [Value.cells] at hcs
    obtain ⟨rfl, rfl, rfl⟩ := hcs
    exact ⟨none, [], 0, rfl, Nat.le_refl _, RdZ.nil _ _ _⟩
  · simp [Value.cells] at hcs
    obtain ⟨rfl, rfl, rfl⟩ := hcs
    simp only [if_true] at hz
    have hL : (zs.take len).length = len := by rw [List.length_take]; omega
    refine ⟨some x, zs.take len, cap, by rw [hL], by rw [hL]; exact hl, by rw [hL]; unfold maxLen at hm; omega, fun z hz => bounds_i64 (hwz z (List.mem_of_mem_take hz)), fun hn => ?_⟩
    rw [hL] at hn
    obtain ⟨b, off, rfl, hb⟩ := addr_of (hcell 0 (by omega))
    refine ⟨b, off, rfl, hb, fun k hk => ?_⟩
    rw [hL] at hk
    have := hcell k (by omega)
    rw [addr_add] at this
    rw [this]
    simp [hk]
end
end Go.Proofs.YtjnemopocmhfkaaDoor
end
section
namespace Go.Proofs.YtjnemopocmhfkaaDoor
open Go.ChangeShapes Go.WideShapes Go.ChangeAt Go.RowKit

theorem laidOut : laidOutB Tryd.prog = true := by kernel_rfl
theorem own : ownKnob Tryd.prog.godebug = none := by kernel_rfl
theorem gTab : Tryd.prog.globalNamed "wattle/crc.nibbles" = some 0 := by kernel_rfl
theorem gTabType : (Tryd.prog.globals[0]?).map (·.type) = some 93 := by kernel_rfl
theorem cellsTab : Tryd.prog.cellsOf 93 = 16 := by kernel_rfl
theorem cellsU32 : Tryd.prog.cellsOf 70 = 1 := by kernel_rfl
def laidAll : List (String × DataW Unit) := [("wattle/crc.nibbles", Rows.laid_wattle_crc_nibbles)]
theorem table {W : World} (h : laidMetH Tryd.prog laidAll W) : Lib.TabIs Tryd.prog W "wattle/crc.nibbles" .u32 (nibs.map fun n : Nat => (n : Int)) :=
  Lib.tabIs_of_head (rest := []) gTab gTabType Tryd.underlying93 Tryd.underlying70 cellsU32 cellsTab h
theorem tabOk {W : World} (h : laidMetH Tryd.prog laidAll W) : TabOk W := fun i hi => by
  have h1 := (table h).cell gTab i (by simpa [nibs] using hi)
  rw [h1, (show ∀ i, i < 16 → (nibs.map fun n : Nat => (n : Int)).getD i 0 = ((nibs.getD i 0 : Nat) : Int) by decide) i hi]
/-- A world for the witness: the settled one, the table (block 0) holding what its initialiser lays. -/
noncomputable def laidWorld (os : Os) : World :=
  { World.holding Tryd.prog os ⟨#[], #[], []⟩ with heap := (World.holding Tryd.prog os ⟨#[], #[], []⟩).heap.modify 0 fun
      | .cells _ t frozen => .cells #[.int .u32 0, .int .u32 274646895, .int .u32 549293790, .int .u32 820201905, .int .u32 1098587580, .int .u32 1361435347, .int .u32 1640403810, .int .u32 1905808397, .int .u32 2197175160, .int .u32 2460548119, .int .u32 2722870694, .int .u32 2987750089, .int .u32 3280807620, .int .u32 3553878443, .int .u32 3811616794, .int .u32 4084100981] t frozen
      | o => o }
end Go.Proofs.YtjnemopocmhfkaaDoor
end
