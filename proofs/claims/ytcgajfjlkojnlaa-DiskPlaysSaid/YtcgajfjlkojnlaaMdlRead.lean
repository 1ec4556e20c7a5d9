/- What the model's New and Read compute. -/
import Derived.Test.YtcgajfjlkojnlaaMdl
import Derived.Test.YtcgajfjlkojnlaaDskAll
namespace Go.Proofs.Ytcgajfjlkojnlaa
open Go.RowKit

theorem makeSb (w : World) : (Instr.makeSlice 25 (.int .i64 32) (.int .i64 32)).run Try.prog w = .ok (.slice (some ⟨w.heap.size, 0, none⟩) 32 32) (w.alloc (.cells (zcells 32) 5)) := make_bytes 32 (by omega) w
theorem str_eq_guard (x y : Operand) (a : List UInt8) (v : Value) (w : World) : (eqGuard .eql 9 x y (str a) v).run Try.prog w = .ok () w := by unfold str; rw [eqGuard_at_string]; rfl
theorem str_ne_guard (x y : Operand) (a : List UInt8) (v : Value) (w : World) : (eqGuard .neq 9 x y (str a) v).run Try.prog w = .ok () w := by unfold str; rw [eqGuard_at_string]; rfl
theorem mdl_new_any (w : World) : Calls Try.prog 24 #[] w fun e w' => ∃ mb mm, e = .returned (.pointer (some ⟨mb, 0, none⟩)) ∧ MdlAt w' w.heap.size mb mm 0 (.slice none 0 0) (.slice none 0 0) Dsk.new (fun _ => none) ∧ Below w.heap.size w w' := by
  have hmm := @run_makeMap Try.prog
  have H := Lib.hid (show MdlAt ((w.alloc (.map #[] 0)).alloc (.cells (mcells w.heap.size (.slice none 0 0) (.slice none 0 0) false).toArray 50)) w.heap.size (w.heap.size + 1) w.heap.size 0 (.slice none 0 0) (.slice none 0 0) Dsk.new (fun _ => none) from
    ⟨hp_new _ _ _ (by simp), (mapS_new w).heap (hp_old _ _ _ (by simp)), World.ownsRow_nil _ _ _ _, World.ownsRow_nil _ _ _ _, ⟨by omega, by omega⟩, by omega, by simp [Value.ownBlock], by simp [Value.ownBlock], by simp [Value.ownBlock], by simp [Value.ownBlock], fun k h => by simp [Value.ownBlock] at h,
      fun k hk => by rw [show Dsk.new.S = zeroS from rfl, sec_zero hk]; rfl, fun k x h => by simp at h, Dsk.new_ok⟩)
  go_enter Try.func24, Try.ntmps24
  go_wp2
  go_ret
  exact ⟨w.heap.size + 1, w.heap.size, rfl, H.out, below2 _ _ _⟩
/-- What is read so far. -/
def soFar (D : Dsk) (F : Int → Option (List UInt8)) (k i : Nat) : List UInt8 := match lastOf (D.ps.take i) k with | some x => x | none => (F (k : Int)).getD []
set_option maxHeartbeats 800000 in
theorem mdl_read_any (B mb mm n : Nat) (av xv : Value) (D : Dsk) (F : Int → Option (List UInt8)) (w : World) (h : MdlAt w B mb mm n av xv D F) (k : Nat) (hk : k < 52) (hps : D.ps.length ≤ 2000000) :
    Calls Try.prog 28 #[.pointer (some ⟨mb, 0, none⟩), .int .i64 (k : Int)] w fun e w' => e = .returned (str (secAt D.now k)) ∧ Below w.heap.size w w' := by
  have Hh := Lib.hid h
  have hc0 := h.cell 0 (.map (some mm)) rfl
  have hc1 := h.cell 1 av rfl
  have hc2 := h.cell 2 xv rfl
  have hlook := h.map.look (k : Int) (by omega)
  obtain ⟨Aa, ca, rfl, hca, Hga⟩ := own_form h.ats
  obtain ⟨Ax, cx, rfl, hcx, Hgx⟩ := own_form h.xs
  have Hlt := Lib.hid (fun j hj => h.lt (k := j) hj)
  have Hread := Lib.hid (h.read hk)
  have H0 : Hid ((F (k : Int)).getD [] = soFar D F k 0) := rfl
  clear h
  rw [H0.out] at hlook
  go_enter Try.func28, Try.ntmps28
  go_wp2
  go_loopw [5, 19] (fun sv si wr => ∃ i : Nat, i ≤ D.ps.length ∧ si = .int .i64 i ∧ sv = str (soFar D F k i) ∧ wr = w) (fun _ si _ => D.ps.length - (intOf si).toNat)
  case atStart => exact ⟨0, Nat.zero_le _, rfl, rfl, rfl⟩
  case round =>
    obtain ⟨i, hi, rfl, rfl, rfl⟩ := hrel
    by_cases hlt : i < D.ps.length
    · obtain ⟨ga, rfl, _⟩ := Hga (by omega)
      obtain ⟨gx, rfl, _⟩ := Hgx (by omega)
      have h1 := own_cell_at Hh.out.ats i (by simpa using hlt)
      have h2 := own_cell_at Hh.out.xs i (by simpa using hlt)
      have hs : soFar D F k (i + 1) = if (D.ps.getD i (0, [])).1 = k then (D.ps.getD i (0, [])).2 else soFar D F k i := by
        unfold soFar
        rw [take_getD_succ hlt, lastOf_snoc]
        by_cases e : (D.ps.getD i (0, [])).1 = k
        · rw [if_pos e, if_pos e]
        · rw [if_neg e, if_neg e]
      have hp : D.ps[i]? = some (D.ps.getD i (0, [])) := by simp [hlt]
      rw [List.getElem?_map, hp] at h1 h2
      generalize D.ps.getD i (0, []) = p at h1 h2 hs
      simp only [Option.map_some] at h1 h2
      have i0 : (0 : Int) ≤ (i : Int) := by omega
      have i1 : (i : Int) < (D.ps.length : Int) := by omega
      have Hs := Lib.hid hs
      clear hp hs hc0 hlook
      by_cases he : p.1 = k
      · have e1 : ((p.1 : Int) == (k : Int)) = true := by rw [he]; simp
        have Hs2 := Lib.hid (show soFar D F k (i + 1) = p.2 by rw [Hs.out, if_pos he])
        clear he
        go_wp2
        go_roundw
        case rel => exact ⟨i + 1, by omega, by go_num, by rw [Hs2.out], by trivial⟩
        case measure => simp [intOf]; omega
      · have e1 : ((p.1 : Int) == (k : Int)) = false := by rw [beq_eq_false_iff_ne]; omega
        have Hs2 := Lib.hid (show soFar D F k (i + 1) = soFar D F k i by rw [Hs.out, if_neg he])
        clear he
        go_wp2
        go_roundw
        case rel => exact ⟨i + 1, by omega, by go_num, by rw [Hs2.out], by trivial⟩
        case measure => simp [intOf]; omega
    · obtain rfl : i = D.ps.length := by omega
      have hmk := makeSb
      have hso : (soFar D F k D.ps.length = [] ∧ secAt D.now k = List.replicate 32 0) ∨ (soFar D F k D.ps.length ≠ [] ∧ secAt D.now k = soFar D F k D.ps.length) := by
        have hr := Hread.out
        unfold soFar
        rw [List.take_length]
        cases hl : lastOf D.ps k with
        | some x =>
          rw [hl] at hr
          right
          refine ⟨?_, hr⟩
          intro e
          have : x.length = 32 := by
            have h32 := secAt_len (L := D.now) (k := k) (by rw [Hh.out.ok.now]; omega)
            rw [hr] at h32; exact h32
          simp only at e
          rw [e] at this; simp at this
        | none =>
          rw [hl] at hr
          cases hF : F (k : Int) with
          | some x =>
            rw [hF] at hr
            right
            refine ⟨?_, hr⟩
            intro e
            have := Hh.out.len _ _ hF
            simp only [Option.getD_some] at e
            rw [e] at this; simp at this
          | none => rw [hF] at hr; left; exact ⟨rfl, hr⟩
      rcases hso with ⟨h1, h2⟩ | ⟨h1, h2⟩
      · have H2 := Lib.hid h2
        rw [h1]
        have hg := str_eq_guard
        have hq : ∀ V : World, (binOp .eql 9 (str []) (.string ⟨#[]⟩)).run Try.prog V = .ok (.bool true) V := fun V => str_eql _ [] [] V
        have hcv := conv_str (some ⟨wr.heap.size, 0, none⟩) (List.replicate 32 0) 32 32 (wr.heap.size + 1) (wr.alloc (.cells (zcells 32) 5)) rfl (by have := (own_make 5 wr 32 (by omega)).rdS.1; exact this.more (by simp))
        clear h1 h2 hc0 hlook
        go_wp2
        go_ret
        exact ⟨by rw [H2.out]; rfl, below1 _ _⟩
      · have H2 := Lib.hid h2
        have hg := str_eq_guard
        have hq : ∀ V : World, (binOp .eql 9 (str (soFar D F k D.ps.length)) (.string ⟨#[]⟩)).run Try.prog V = .ok (.bool false) V := fun V => by
          have := str_eql 9 (soFar D F k D.ps.length) [] V
          rw [show (soFar D F k D.ps.length == ([] : List UInt8)) = false from beq_eq_false_iff_ne.2 h1] at this
          exact this
        generalize soFar D F k D.ps.length = x at hq H2
        clear h1 h2 hc0 hlook
        go_wp2
        go_ret
        exact ⟨by rw [H2.out]; rfl, Below.refl _ _⟩
end Go.Proofs.Ytcgajfjlkojnlaa
