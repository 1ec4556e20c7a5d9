/- BenchPlays: a bench, models beside it, and what each owns. -/
import Derived.Test.YtpiilfgikgkneaaBchP
import Derived.Test.YtpiilfgikgkneaaMdl
import Derived.Test.YtpiilfgikgkneaaDskAll
import Derived.Test.YtpiilfgikgkneaaDskLeft
import Derived.Test.YtpiilfgikgkneaaOwnStep
import Derived.Test.YtpiilfgikgkneaaOrd
import Derived.Test.YtpiilfgikgkneaaMapStr
import Derived.Test.YtpiilfgikgkneaaDskAllD
namespace Go.Proofs.Ytpiilfgikgkneaa
open Go.RowKit

/-- So many disks that have not failed, with at most i writes. -/
structure Nice (N : Bch) (n i : Nat) : Prop where
  n : N.n = n
  f : ∀ d, (N.D d).f = false
  ps : ∀ d, (N.D d).ps.length ≤ i
  done : N.done ≤ i
theorem Nice.new (n : Nat) : Nice (Bch.new n) n 0 := ⟨rfl, fun _ => rfl, fun _ => Nat.le_refl _, Nat.le_refl _⟩
section
variable {N : Bch} {n i : Nat}
theorem Nice.more {j : Nat} (h : Nice N n i) (hj : i ≤ j) : Nice N n j := ⟨h.n, h.f, fun d => Nat.le_trans (h.ps d) hj, Nat.le_trans h.done hj⟩
theorem Nice.set (h : Nice N n i) (d : Nat) {X : Dsk} (hf : X.f = false) (hp : X.ps.length ≤ i) : Nice (N.set d X) n i :=
  ⟨h.n, fun j => by
    show (upd N.D d X j).f = false
    by_cases e : j = d
    · rw [e, upd_same]; exact hf
    · rw [upd_other _ _ e]; exact h.f j, fun j => by
    show (upd N.D d X j).ps.length ≤ i
    by_cases e : j = d
    · rw [e, upd_same]; exact hp
    · rw [upd_other _ _ e]; exact h.ps j, h.done⟩
theorem Nice.count (h : Nice N n i) : Nice N.count n (i + 1) := by
  unfold Bch.count
  split
  · exact ⟨h.n, h.f, fun d => Nat.le_succ_of_le (h.ps d), Nat.le_succ_of_le h.done⟩
  · exact ⟨h.n, h.f, fun d => Nat.le_succ_of_le (h.ps d), Nat.succ_le_succ h.done⟩
theorem Nice.write (h : Nice N n i) (d k : Int) (x : List UInt8) : Nice (N.write d k x) n (i + 1) := by
  unfold Bch.write
  split
  · exact h.more (Nat.le_succ _)
  · split
    · exact h.more (Nat.le_succ _)
    · split
      · exact h.count
      · refine Nice.more (i := i + 1) ?_ (Nat.le_refl _)
        have h2 : Nice (N.set d.toNat ((N.at_ d).write k.toNat x)) n (i + 1) := (h.more (Nat.le_succ i)).set _ (h.f _) (by
          show ((N.at_ d).ps ++ [(k.toNat, x)]).length ≤ i + 1
          rw [List.length_append]
          exact Nat.succ_le_succ (h.ps _))
        have h3 : Nice (N.set d.toNat ((N.at_ d).write k.toNat x)).count n (i + 2) := h2.count
        refine ⟨h3.n, h3.f, fun j => ?_, ?_⟩
        · rw [Bch.count_D]; exact h2.ps j
        · unfold Bch.count
          split
          · exact h2.done
          · exact Nat.succ_le_succ h.done
theorem Nice.flush (h : Nice N n i) (d : Int) : Nice (N.flush d) n i := by
  unfold Bch.flush
  split
  · exact h
  · have hf : (N.at_ d).f = false := h.f _
    have e : (N.at_ d).flushE = (N.at_ d).flush := by unfold Dsk.flushE; rw [if_neg (by rw [hf]; simp)]
    rw [e]
    exact h.set _ hf (Nat.zero_le _)
theorem Nice.limit (h : Nice N n i) (v : Int) : Nice (N.limit v) n i := by
  unfold Bch.limit
  split
  · exact h
  · exact ⟨h.n, h.f, h.ps, h.done⟩
theorem Nice.crash (h : Nice N n i) (ks : List Bool) : Nice (N.crash ks) n i :=
  ⟨h.n, fun d => by
    show (if d < N.n then _ else _ : Dsk).f = false
    split
    · exact h.f d
    · exact h.f d, fun d => by
    show (if d < N.n then _ else _ : Dsk).ps.length ≤ i
    split
    · exact Nat.zero_le _
    · exact h.ps d, h.done⟩
theorem Nice.psb (h : Nice N n i) (hi : i ≤ 2000000) : ∀ j, j < N.n → (N.D j).ps.length ≤ 2000000 := fun j _ => Nat.le_trans (h.ps j) hi
end
theorem limit_n (N : Bch) (v : Int) : (N.limit v).n = N.n := by unfold Bch.limit; split <;> rfl
theorem fail_n (N : Bch) (d : Int) : (N.fail d).n = N.n := by unfold Bch.fail; split <;> rfl
theorem flush_n (N : Bch) (d : Int) : (N.flush d).n = N.n := by unfold Bch.flush; split <;> rfl
theorem replace_n (N : Bch) (d : Int) : (N.replace d).n = N.n := by unfold Bch.replace; split <;> rfl
theorem damage_n (N : Bch) (d k : Int) (x : List UInt8) : (N.damage d k x).n = N.n := by unfold Bch.damage; split <;> rfl
/-- Two benches beside one another. -/
structure P2 (W w : World) (b : Nat) (H : BH) (N : Bch) (b2 : Nat) (H2 : BH) (N2 : Bch) : Prop where
  p1 : BP W w b H N
  p2 : BP W w b2 H2 N2
  ap : ∀ k, BF b H N.n k → ¬ BF b2 H2 N2.n k
section
variable {W w w' : World} {b b2 : Nat} {H H2 : BH} {N N2 : Bch}
theorem P2.symm (h : P2 W w b H N b2 H2 N2) : P2 W w b2 H2 N2 b H N := ⟨h.p2, h.p1, fun k h2 h1 => h.ap k h1 h2⟩
theorem P2.grow (h : P2 W w b H N b2 H2 N2) (hb : Below w.heap.size w w') : P2 W w' b H N b2 H2 N2 := ⟨h.p1.grow hb, h.p2.grow hb, h.ap⟩
theorem P2.step1 (h : P2 W w b H N b2 H2 N2) {N' : Bch} (hn : N'.n = N.n) (hc : BC W w w' b H N.n N') : ∃ H', P2 W w' b H' N' b2 H2 N2 := by
  obtain ⟨H', hp, hg, hm⟩ := hc
  have hd : ∀ k, BF b2 H2 N2.n k → ¬ BF b H N.n k := fun k h2 h1 => h.ap k h1 h2
  refine ⟨H', hp, ⟨h.p2.at'.chg hg hd, h.p2.bel.trans (hg.below (fun k hk => (h.p1.at'.flt hk).1) h.p2.bel.size)⟩, fun k h1 h2 => ?_⟩
  rw [hn] at h1
  rcases hm k h1 with e | e
  · exact h.ap k e h2
  · have := (h.p2.at'.flt h2).2; omega
theorem P2.step2 (h : P2 W w b H N b2 H2 N2) {N' : Bch} (hn : N'.n = N2.n) (hc : BC W w w' b2 H2 N2.n N') : ∃ H', P2 W w' b H N b2 H' N' := by
  obtain ⟨H', hp⟩ := h.symm.step1 hn hc
  exact ⟨H', hp.symm⟩
end
theorem bp_clone (W w : World) (b : Nat) (H : BH) (N : Bch) (h : BP W w b H N) (hps : ∀ i, i < N.n → (N.D i).ps.length ≤ 2000000) :
    Calls Try.prog 33 #[.pointer (some ⟨b, 0, none⟩)] w fun e w' => ∃ b' H', e = .returned (.pointer (some ⟨b', 0, none⟩)) ∧ P2 W w' b H N b' H' N ∧ Below w.heap.size w w' := by
  refine (bch_clone_any _ b H N w h.at' hps).mono ?_
  rintro e w' ⟨b', H', rfl, a, hb⟩
  exact ⟨b', H', rfl, ⟨h.grow hb, ⟨a.mono h.bel.size, h.bel.trans (hb.mono h.bel.size)⟩, fun k h1 h2 => by have := (a.flt h2).1; have := (h.at'.flt h1).2; omega⟩, hb⟩
end Go.Proofs.Ytpiilfgikgkneaa
namespace Go.Proofs.Ytpiilfgikgkneaa
open Go.RowKit

theorem makeSb (w : World) : (Instr.makeSlice 31 (.int .i64 32) (.int .i64 32)).run Try.prog w = .ok (.slice (some ⟨w.heap.size, 0, none⟩) 32 32) (w.alloc (.cells (zcells 32) 5)) := make_bytes 32 (by omega) w
theorem str_eq_guard (x y : Operand) (a : List UInt8) (v : Value) (w : World) : (eqGuard .eql 9 x y (str a) v).run Try.prog w = .ok () w := by unfold str; rw [eqGuard_at_string]; rfl
theorem str_ne_guard (x y : Operand) (a : List UInt8) (v : Value) (w : World) : (eqGuard .neq 9 x y (str a) v).run Try.prog w = .ok () w := by unfold str; rw [eqGuard_at_string]; rfl
theorem mdl_new_any (w : World) : Calls Try.prog 22 #[] w fun e w' => ∃ mb mm, e = .returned (.pointer (some ⟨mb, 0, none⟩)) ∧ MdlAt w' w.heap.size mb mm 0 (.slice none 0 0) (.slice none 0 0) Dsk.new (fun _ => none) ∧ Below w.heap.size w w' := by
  have hmm := @run_makeMap Try.prog
  have H := Lib.hid (show MdlAt ((w.alloc (.map #[] 0)).alloc (.cells (mcells w.heap.size (.slice none 0 0) (.slice none 0 0) false).toArray 70)) w.heap.size (w.heap.size + 1) w.heap.size 0 (.slice none 0 0) (.slice none 0 0) Dsk.new (fun _ => none) from
    ⟨hp_new _ _ _ (by simp), (mapS_new w).heap (hp_old _ _ _ (by simp)), World.ownsRow_nil _ _ _ _, World.ownsRow_nil _ _ _ _, ⟨by omega, by omega⟩, by omega, by simp [Value.ownBlock], by simp [Value.ownBlock], by simp [Value.ownBlock], by simp [Value.ownBlock], fun k h => by simp [Value.ownBlock] at h,
      fun k hk => by rw [show Dsk.new.S = zeroS from rfl, sec_zero hk]; rfl, fun k x h => by simp at h, Dsk.new_ok⟩)
  go_enter Try.func22, Try.ntmps22
  go_wp2
  go_ret
  exact ⟨w.heap.size + 1, w.heap.size, rfl, H.out, below2 _ _ _⟩
/-- What is read so far. -/
def soFar (D : Dsk) (F : Int → Option (List UInt8)) (k i : Nat) : List UInt8 := match lastOf (D.ps.take i) k with | some x => x | none => (F (k : Int)).getD []
set_option maxHeartbeats 800000 in
theorem mdl_read_any (B mb mm n : Nat) (av xv : Value) (D : Dsk) (F : Int → Option (List UInt8)) (w : World) (h : MdlAt w B mb mm n av xv D F) (k : Nat) (hk : k < 52) (hps : D.ps.length ≤ 2000000) :
    Calls Try.prog 24 #[.pointer (some ⟨mb, 0, none⟩), .int .i64 (k : Int)] w fun e w' => e = .returned (str (secAt D.now k)) ∧ Below w.heap.size w w' := by
  have Hh := Lib.hid h
  have hc0 := h.cell 0 (.map (some mm)) rfl
  have hc1 := h.cell 1 av rfl
  have hc2 := h.cell 2 xv rfl
  have hlook := h.map.look (k : Int) (by omega)
  obtain ⟨Aa, ca, rfl, hca, Hga⟩ := own_form h.ats
  obtain ⟨Ax, cx, rfl, hcx, Hgx⟩ := own_form h.xs
  have Hlt := Lib.hid (fun j hj => h.lt (k := j) hj)
  have Hread := Lib.hid (h.read hk)
  have H0 : Hid ((F (k : Int)).getD [] = soFar D F k 0) := rfl
  clear h
  rw [H0.out] at hlook
  go_enter Try.func24, Try.ntmps24
  go_wp2
  go_loopw [5, 19] (fun sv si wr => ∃ i : Nat, i ≤ D.ps.length ∧ si = .int .i64 i ∧ sv = str (soFar D F k i) ∧ wr = w) (fun _ si _ => D.ps.length - (intOf si).toNat)
  case atStart => exact ⟨0, Nat.zero_le _, rfl, rfl, rfl⟩
  case round =>
    obtain ⟨i, hi, rfl, rfl, rfl⟩ := hrel
    by_cases hlt : i < D.ps.length
    · obtain ⟨ga, rfl, _⟩ := Hga (by omega)
      obtain ⟨gx, rfl, _⟩ := Hgx (by omega)
      have h1 := own_cell_at Hh.out.ats i (by simpa using hlt)
      have h2 := own_cell_at Hh.out.xs i (by simpa using hlt)
      have hs : soFar D F k (i + 1) = if (D.ps.getD i (0, [])).1 = k then (D.ps.getD i (0, [])).2 else soFar D F k i := by
        unfold soFar
        rw [take_getD_succ hlt, lastOf_snoc]
        by_cases e : (D.ps.getD i (0, [])).1 = k
        · rw [if_pos e, if_pos e]
        · rw [if_neg e, if_neg e]
      have hp : D.ps[i]? = some (D.ps.getD i (0, [])) := by simp [hlt]
      rw [List.getElem?_map, hp] at h1 h2
      generalize D.ps.getD i (0, []) = p at h1 h2 hs
      simp only [Option.map_some] at h1 h2
      have i0 : (0 : Int) ≤ (i : Int) := by omega
      have i1 : (i : Int) < (D.ps.length : Int) := by omega
      have Hs := Lib.hid hs
      clear hp hs hc0 hlook
      by_cases he : p.1 = k
      · have e1 : ((p.1 : Int) == (k : Int)) = true := by rw [he]; simp
        have Hs2 := Lib.hid (show soFar D F k (i + 1) = p.2 by rw [Hs.out, if_pos he])
        clear he
        go_wp2
        go_roundw
        case rel => exact ⟨i + 1, by omega, by go_num, by rw [Hs2.out], by trivial⟩
        case measure => simp [intOf]; omega
      · have e1 : ((p.1 : Int) == (k : Int)) = false := by rw [beq_eq_false_iff_ne]; omega
        have Hs2 := Lib.hid (show soFar D F k (i + 1) = soFar D F k i by rw [Hs.out, if_neg he])
        clear he
        go_wp2
        go_roundw
        case rel => exact ⟨i + 1, by omega, by go_num, by rw [Hs2.out], by trivial⟩
        case measure => simp [intOf]; omega
    · obtain rfl : i = D.ps.length := by omega
      have hmk := makeSb
      have hso : (soFar D F k D.ps.length = [] ∧ secAt D.now k = List.replicate 32 0) ∨ (soFar D F k D.ps.length ≠ [] ∧ secAt D.now k = soFar D F k D.ps.length) := by
        have hr := Hread.out
        unfold soFar
        rw [List.take_length]
        cases hl : lastOf D.ps k with
        | some x =>
          rw [hl] at hr
          right
          refine ⟨?_, hr⟩
          intro e
          have : x.length = 32 := by
            have h32 := secAt_len (L := D.now) (k := k) (by rw [Hh.out.ok.now]; omega)
            rw [hr] at h32; exact h32
          simp only at e
          rw [e] at this; simp at this
        | none =>
          rw [hl] at hr
          cases hF : F (k : Int) with
          | some x =>
            rw [hF] at hr
            right
            refine ⟨?_, hr⟩
            intro e
            have := Hh.out.len _ _ hF
            simp only [Option.getD_some] at e
            rw [e] at this; simp at this
          | none => rw [hF] at hr; left; exact ⟨rfl, hr⟩
      rcases hso with ⟨h1, h2⟩ | ⟨h1, h2⟩
      · have H2 := Lib.hid h2
        rw [h1]
        have hg := str_eq_guard
        have hq : ∀ V : World, (binOp .eql 9 (str []) (.string ⟨#[]⟩)).run Try.prog V = .ok (.bool true) V := fun V => str_eql _ [] [] V
        have hcv := conv_str (some ⟨wr.heap.size, 0, none⟩) (List.replicate 32 0) 32 32 (wr.heap.size + 1) (wr.alloc (.cells (zcells 32) 5)) rfl (by have := (own_make 5 wr 32 (by omega)).rdS.1; exact this.more (by simp))
        clear h1 h2 hc0 hlook
        go_wp2
        go_ret
        exact ⟨by rw [H2.out]; rfl, below1 _ _⟩
      · have H2 := Lib.hid h2
        have hg := str_eq_guard
        have hq : ∀ V : World, (binOp .eql 9 (str (soFar D F k D.ps.length)) (.string ⟨#[]⟩)).run Try.prog V = .ok (.bool false) V := fun V => by
          have := str_eql 9 (soFar D F k D.ps.length) [] V
          rw [show (soFar D F k D.ps.length == ([] : List UInt8)) = false from beq_eq_false_iff_ne.2 h1] at this
          exact this
        generalize soFar D F k D.ps.length = x at hq H2
        clear h1 h2 hc0 hlook
        go_wp2
        go_ret
        exact ⟨by rw [H2.out]; rfl, Below.refl _ _⟩
end Go.Proofs.Ytpiilfgikgkneaa
namespace Go.Proofs.Ytpiilfgikgkneaa
open Go.RowKit

/-- The model is D' behind a call that wrote nothing but what it had. -/
def MdlTo (w w' : World) (B mb mm n : Nat) (av xv : Value) (k : Nat) (D' : Dsk) : Prop :=
  ∃ (mm' n' : Nat) (av' xv' : Value) (F' : Int → Option (List UInt8)), MdlAt w' B mb mm' n' av' xv' D' F' ∧ n' ≤ n + k ∧ Chg (MF mb mm av xv) w w' ∧ ∀ j, MF mb mm' av' xv' j → MF mb mm av xv j ∨ w.heap.size ≤ j
/-- What the map says behind these writes. -/
def putAll (F : Int → Option (List UInt8)) (ps : List (Nat × List UInt8)) : Int → Option (List UInt8) := ps.foldl (fun F p => putF F (p.1 : Int) p.2) F
theorem putAll_snoc (F : Int → Option (List UInt8)) (ps : List (Nat × List UInt8)) (p : Nat × List UInt8) : putAll F (ps ++ [p]) = putF (putAll F ps) (p.1 : Int) p.2 := by
  unfold putAll; rw [List.foldl_append]; rfl
theorem putAll_len : ∀ {ps : List (Nat × List UInt8)} {F : Int → Option (List UInt8)}, (∀ k x, F k = some x → x.length = 32) → WOk ps → ∀ k x, putAll F ps k = some x → x.length = 32
  | [], _, h, _ => h
  | p :: ps, F, h, hp => putAll_len (ps := ps) (F := putF F (p.1 : Int) p.2) (fun k x e => by
      unfold putF at e
      split at e
      · injection e with e; subst e; exact (hp p (List.mem_cons_self ..)).2
      · exact h k x e) hp.cons
theorem putAll_sec : ∀ {ps : List (Nat × List UInt8)} {F : Int → Option (List UInt8)} {S : List UInt8}, S.length = 1664 → WOk ps → (∀ k : Nat, k < 52 → secAt S k = (F (k : Int)).getD (List.replicate 32 0)) →
    ∀ k : Nat, k < 52 → secAt (nowOf S ps) k = (putAll F ps (k : Int)).getD (List.replicate 32 0)
  | [], _, _, _, _, h => h
  | p :: ps, F, S, hS, hp, h => by
    have h1 := hp p (List.mem_cons_self ..)
    exact putAll_sec (ps := ps) (F := putF F (p.1 : Int) p.2) (S := putAt S p.1 p.2) (putAt_len hS (by omega) h1.2) hp.cons fun k hk => by
      unfold putF
      by_cases e : k = p.1
      · subst e
        rw [if_pos rfl, sec_put_same hS hk h1.2]
        rfl
      · rw [if_neg (by omega), sec_put_other hS h1.1 h1.2 e]
        exact h k hk
section
variable {w w' : World} {B mb mm n : Nat} {av xv : Value} {D : Dsk} {F : Int → Option (List UInt8)}
/-- All but the map, where only the map has changed. -/
theorem MdlAt.rest (h : MdlAt w B mb mm n av xv D F) (hc : Chg (fun x => x = mm) w w') : w'.heap[mb]? = some (.cells (mcells mm av xv D.f).toArray 70 (0, 0)) ∧
    w'.ownsRow B 3 1 av D.ps.length (D.ps.map fun p => Value.int .i64 (p.1 : Int)) ∧ w'.ownsRow B 9 1 xv D.ps.length (D.ps.map fun p => str p.2) :=
  ⟨(hc.block mb (h.lt (.inl rfl)).2 fun e => h.n1 e.symm).trans h.blk, own_chg h.ats hc fun k hk e => h.n3 (by rw [hk, e]), own_chg h.xs hc fun k hk e => h.n5 (by rw [hk, e])⟩
/-- What is left where all pending writes are gone. -/
theorem MdlAt.gone (h : MdlAt w B mb mm n av xv D F) {n' k : Nat} {D' : Dsk} {F' : Int → Option (List UInt8)} (hb : w'.heap[mb]? = some (.cells (mcells mm (.slice none 0 0) (.slice none 0 0) D'.f).toArray 70 (0, 0))) (hm : MapS w' mm n' F') (hn : n' ≤ n + k) (hp : D'.ps = [])
    (hs : ∀ k : Nat, k < 52 → secAt D'.S k = (F' (k : Int)).getD (List.replicate 32 0)) (hl : ∀ k x, F' k = some x → x.length = 32) (ho : D'.Ok) (hc : Chg (MF mb mm av xv) w w') : MdlTo w w' B mb mm n av xv k D' :=
  ⟨mm, n', _, _, F', ⟨hb, hm, by rw [hp]; exact World.ownsRow_nil _ _ _ _, by rw [hp]; exact World.ownsRow_nil _ _ _ _, h.le, h.n1, by simp [Value.ownBlock], by simp [Value.ownBlock], by simp [Value.ownBlock], by simp [Value.ownBlock], fun k h => by simp [Value.ownBlock] at h, hs, hl, ho⟩, hn, hc, fun j hj => by
    rcases hj with e | e | e | e
    · exact .inl (.inl e)
    · exact .inl (.inr (.inl e))
    · simp [Value.ownBlock] at e
    · simp [Value.ownBlock] at e⟩
end
theorem size_ints : (Try.prog.info? 22).map (·.size) = some 1 := by kernel_rfl
theorem size_strs : (Try.prog.info? 68).map (·.size) = some 1 := by kernel_rfl
theorem size_map : (Try.prog.info? 67).map (·.size) = some 1 := by kernel_rfl
theorem size_bool : (Try.prog.info? 4).map (·.size) = some 1 := by kernel_rfl
end Go.Proofs.Ytpiilfgikgkneaa
namespace Go.Proofs.Ytpiilfgikgkneaa
open Go.RowKit

set_option maxHeartbeats 800000 in
theorem mdl_flush_any (B mb mm n : Nat) (av xv : Value) (D : Dsk) (F : Int → Option (List UInt8)) (w : World) (h : MdlAt w B mb mm n av xv D F) (hps : D.ps.length ≤ 2000000) (hn : n + D.ps.length < 1000000) :
    Calls Try.prog 26 #[.pointer (some ⟨mb, 0, none⟩)] w fun e w' => e = .returned (.tuple #[]) ∧ MdlTo w w' B mb mm n av xv D.ps.length D.flush := by
  have Hh := Lib.hid h
  have hc1 := h.cell 1 av rfl
  obtain ⟨Aa, ca, rfl, hca, Hga⟩ := own_form h.ats
  obtain ⟨Ax, cx, rfl, hcx, Hgx⟩ := own_form h.xs
  have hm0 := h.map
  clear h
  go_enter Try.func26, Try.ntmps26
  go_wp2
  go_loopw [9] (fun si wr => ∃ i : Nat, i ≤ D.ps.length ∧ si = .int .i64 i ∧ MapS wr mm (n + i) (putAll F (D.ps.take i)) ∧ Chg (fun x => x = mm) w wr) (fun si _ => D.ps.length - (intOf si).toNat)
  case atStart => exact ⟨0, Nat.zero_le _, rfl, hm0, Chg.refl _ _⟩
  case round =>
    obtain ⟨i, hi, rfl, hm, hch⟩ := hrel
    have Hch := Lib.hid hch
    clear hc1 hm0
    have Hrest := Lib.hid (Hh.out.rest hch)
    by_cases hlt : i < D.ps.length
    · obtain ⟨ga, rfl, _⟩ := Hga (by omega)
      obtain ⟨gx, rfl, _⟩ := Hgx (by omega)
      have h1 := own_cell_at Hrest.out.2.1 i (by simpa using hlt)
      have h2 := own_cell_at Hrest.out.2.2 i (by simpa using hlt)
      have hpm : D.ps.getD i (0, []) ∈ D.ps := by simp [hlt]
      have hok := Hh.out.ok.ps _ hpm
      have hp : D.ps[i]? = some (D.ps.getD i (0, [])) := by simp [hlt]
      have hs := take_getD_succ hlt
      rw [List.getElem?_map, hp] at h1 h2
      generalize D.ps.getD i (0, []) = p at h1 h2 hs hok
      simp only [Option.map_some] at h1 h2
      obtain ⟨w1, hst, hm1, hg1⟩ := (hm.heap (w' := wr.drew) rfl).store (by omega) (p.1 : Int) p.2 (by have := hok.1; omega) (by have := hok.2; omega)
      have i0 : (0 : Int) ≤ (i : Int) := by omega
      have i1 : (i : Int) < (D.ps.length : Int) := by omega
      have hc0 : wr.drew.cell? ⟨mb, 0, none⟩ = some (.map (some mm)) := by rw [cell_of_row wr.drew mb 0 _ _ _ Hrest.out.1]; rfl
      have hc2 : wr.drew.cell? ⟨mb, 2, none⟩ = some (.slice (some ⟨gx, 0, none⟩) D.ps.length cx) := by rw [cell_of_row wr.drew mb 2 _ _ _ Hrest.out.1]; rfl
      have h2' : wr.drew.cell? ⟨gx, i, none⟩ = some (str p.2) := h2
      have hn2 : IntKind.i64.wrap ((i : Int) + 1) = (i : Int) + 1 := by rw [IntKind.wrap_i64]; omega
      have Hm1 := Lib.hid (show MapS w1 mm (n + (i + 1)) (putAll F (D.ps.take (i + 1))) by rw [hs, putAll_snoc]; exact hm1)
      have Hc1 := Lib.hid ((Hch.out.trans (chg_grown hg1).ofDrew fun _ _ e => by injection e with e; exact e.symm : Chg (fun x => x = mm) w w1))
      clear hpm hok hp hs hm hm1 hg1 hch h2
      go_wp2
      refine wp_region_still_tail 12 (by kernel_rfl) (by kernel_rfl) ?_
      simp only [List.take_succ_cons, List.take_zero, List.drop_succ_cons, List.drop_zero]
      change wpStill _ _ wr.drew _ _ _
      repeat still_step
      refine wpStill_nil ?_
      change wpList _ _ _ _ _ wr.drew
      go_wp2
      go_roundw
      case rel => exact ⟨i + 1, by omega, by go_num, Hm1.out, Hc1.out⟩
      case measure => simp [intOf]; omega
    · obtain rfl : i = D.ps.length := by omega
      rw [List.take_length] at hm
      have Hm := Lib.hid hm
      clear hm hch
      go_wp2_with (first
        | (refine wpList_store_blk rfl 22 _ _ (by rfl) mb 1 (.slice none 0 0) (by rfl) (by rfl) (mcells mm (.slice Aa D.ps.length ca) (.slice Ax D.ps.length cx) D.f) 70 Hrest.out.1 [.slice none 0 0] (by rfl) 1 rfl size_ints (by show 1 + 1 ≤ 4; omega) (by intro u hu; simp at hu; subst hu; rfl) (mcells mm (.slice none 0 0) (.slice Ax D.ps.length cx) D.f) rfl ?_
           intro w1 hb1 hg1
           have Hb1 := Lib.hid hb1
           have Hg1 := Lib.hid hg1
           clear hb1 hg1)
        | (refine wpList_store_blk rfl 68 _ _ (by rfl) mb 2 (.slice none 0 0) (by rfl) (by rfl) (mcells mm (.slice none 0 0) (.slice Ax D.ps.length cx) D.f) 70 Hb1.out [.slice none 0 0] (by rfl) 1 rfl size_strs (by show 2 + 1 ≤ 4; omega) (by intro u hu; simp at hu; subst hu; rfl) (mcells mm (.slice none 0 0) (.slice none 0 0) D.f) rfl ?_
           intro w2 hb2 hg2))
      go_end0
      have hc1 := chg_grown Hg1.out
      have hc2 := chg_grown hg2
      have hc : Chg (fun x => x = mm ∨ x = mb) w w2 := ((Hch.out.mono fun _ _ e => .inl e).trans hc1 fun _ _ e => .inr (by injection e with e; exact e.symm)).trans hc2 fun _ _ e => .inr (by injection e with e; exact e.symm)
      have hmm : w2.heap[mm]? = wr.heap[mm]? := ((hc2.block mm (Nat.lt_of_lt_of_le Hm.out.lt hc1.size) (by intro e; injection e with e; exact Hh.out.n1 e.symm))).trans (hc1.block mm Hm.out.lt (by intro e; injection e with e; exact Hh.out.n1 e.symm))
      exact ⟨rfl, Hh.out.gone hb2 (Hm.out.heap hmm) (Nat.le_refl _) rfl (putAll_sec Hh.out.ok.S Hh.out.ok.ps Hh.out.sec) (putAll_len Hh.out.len Hh.out.ok.ps) Hh.out.ok.flush (hc.mono fun i _ e => e.elim (fun e => .inr (.inl e)) .inl)⟩
end Go.Proofs.Ytpiilfgikgkneaa
namespace Go.Proofs.Ytpiilfgikgkneaa
open Go.RowKit

set_option maxHeartbeats 800000 in
theorem mdl_crash_any (B mb mm n : Nat) (av xv : Value) (D : Dsk) (F : Int → Option (List UInt8)) (w : World) (h : MdlAt w B mb mm n av xv D F) (hps : D.ps.length ≤ 2000000) (hn : n + D.ps.length < 1000000)
    (A : Option Addr) (ks : List Bool) (l c : Nat) (hl : ks.length = l) (hr : RdO w B A ks) :
    Calls Try.prog 29 #[.pointer (some ⟨mb, 0, none⟩), .slice A l c] w fun e w' => e = .returned (.tuple #[]) ∧ MdlTo w w' B mb mm n av xv D.ps.length (D.crash ks) := by
  subst hl
  have Hh := Lib.hid h
  have hc1 := h.cell 1 av rfl
  obtain ⟨Aa, ca, rfl, hca, Hga⟩ := own_form h.ats
  obtain ⟨Ax, cx, rfl, hcx, Hgx⟩ := own_form h.xs
  have hm0 := h.map
  have hks := hr.1
  have Hr := Lib.hid hr
  clear h hr
  go_enter Try.func29, Try.ntmps29
  go_wp2
  go_loopw [11] (fun si wr => ∃ i m : Nat, i ≤ D.ps.length ∧ m ≤ i ∧ si = .int .i64 i ∧ MapS wr mm (n + m) (putAll F (keptOf (D.ps.take i) ks)) ∧ Chg (fun x => x = mm) w wr) (fun si _ => D.ps.length - (intOf si).toNat)
  case atStart => exact ⟨0, 0, Nat.zero_le _, Nat.le_refl _, rfl, hm0, Chg.refl _ _⟩
  case round =>
    obtain ⟨i, m, hi, hmi, rfl, hm, hch⟩ := hrel
    have Hch := Lib.hid hch
    clear hc1 hm0
    have Hrest := Lib.hid (Hh.out.rest hch)
    by_cases hlt : i < D.ps.length
    · obtain ⟨ga, rfl, _⟩ := Hga (by omega)
      obtain ⟨gx, rfl, _⟩ := Hgx (by omega)
      have h1 := own_cell_at Hrest.out.2.1 i (by simpa using hlt)
      have h2 := own_cell_at Hrest.out.2.2 i (by simpa using hlt)
      have hpm : D.ps.getD i (0, []) ∈ D.ps := by simp [hlt]
      have hok := Hh.out.ok.ps _ hpm
      have hp : D.ps[i]? = some (D.ps.getD i (0, [])) := by simp [hlt]
      have hs := take_getD_succ hlt
      have hkp : keptOf (D.ps.take (i + 1)) ks = keptOf (D.ps.take i) ks ++ (if ks.getD i false = true then [D.ps.getD i (0, [])] else []) := by
        rw [hs, keptOf_snoc, List.length_take, Nat.min_eq_left (by omega)]
      rw [List.getElem?_map, hp] at h1 h2
      generalize D.ps.getD i (0, []) = p at h1 h2 hkp hok
      simp only [Option.map_some] at h1 h2
      have i0 : (0 : Int) ≤ (i : Int) := by omega
      have i1 : (i : Int) < (D.ps.length : Int) := by omega
      have hn2 : IntKind.i64.wrap ((i : Int) + 1) = (i : Int) + 1 := by rw [IntKind.wrap_i64]; omega
      have Hkp := Lib.hid hkp
      have Hm := Lib.hid hm
      have hkm := Hh.out.map.lt
      have hkB := Hh.out.le.2
      clear hpm hp hs hm hkp hch
      by_cases hik : i < ks.length
      · obtain ⟨kb, off, rfl, hkb, hkc⟩ := Hr.out.2 (by omega)
        have hk1 := hkc i hik
        rw [← World.cell?_of_block (a := ⟨kb, off + i, none⟩) (Hch.out.block kb (by omega) (show kb ≠ mm by omega))] at hk1
        have i2 : (i : Int) < (ks.length : Int) := by omega
        clear hkc hkb hkm
        generalize ks.getD i false = kd at hk1 Hkp
        cases kd
        · have Hk := Lib.hid (show keptOf (D.ps.take (i + 1)) ks = keptOf (D.ps.take i) ks by rw [Hkp.out, if_neg (by simp), List.append_nil])
          clear Hkp hok h2
          go_wp2
          go_roundw
          case rel => exact ⟨i + 1, m, by omega, by omega, by go_num, by rw [Hk.out]; exact Hm.out, Hch.out⟩
          case measure => simp [intOf]; omega
        · obtain ⟨w1, hst, hm1, hg1⟩ := (Hm.out.heap (w' := wr.drew) rfl).store (by omega) (p.1 : Int) p.2 (by have := hok.1; omega) (by have := hok.2; omega)
          have hc0 : wr.drew.cell? ⟨mb, 0, none⟩ = some (.map (some mm)) := by rw [cell_of_row wr.drew mb 0 _ _ _ Hrest.out.1]; rfl
          have hc2 : wr.drew.cell? ⟨mb, 2, none⟩ = some (.slice (some ⟨gx, 0, none⟩) D.ps.length cx) := by rw [cell_of_row wr.drew mb 2 _ _ _ Hrest.out.1]; rfl
          have h2' : wr.drew.cell? ⟨gx, i, none⟩ = some (str p.2) := h2
          have Hm1 := Lib.hid (show MapS w1 mm (n + (m + 1)) (putAll F (keptOf (D.ps.take (i + 1)) ks)) by rw [Hkp.out, if_pos rfl, putAll_snoc]; exact hm1)
          have Hc1 := Lib.hid ((Hch.out.trans (chg_grown hg1).ofDrew fun _ _ e => by injection e with e; exact e.symm : Chg (fun x => x = mm) w w1))
          clear hok hm1 hg1 h2 Hkp
          go_wp2
          refine wp_region_still_tail 12 (by kernel_rfl) (by kernel_rfl) ?_
          simp only [List.take_succ_cons, List.take_zero, List.drop_succ_cons, List.drop_zero]
          change wpStill _ _ wr.drew _ _ _
          repeat still_step
          refine wpStill_nil ?_
          change wpList _ _ _ _ _ wr.drew
          go_wp2
          go_roundw
          case rel => exact ⟨i + 1, m + 1, by omega, by omega, by go_num, Hm1.out, Hc1.out⟩
          case measure => simp [intOf]; omega
      · have i2 : ¬ (i : Int) < (ks.length : Int) := by omega
        have Hk := Lib.hid (show keptOf (D.ps.take (i + 1)) ks = keptOf (D.ps.take i) ks by
          rw [Hkp.out, List.getD_eq_getElem?_getD, List.getElem?_eq_none (by omega), if_neg (by simp), List.append_nil])
        clear Hkp hok h2 hkm
        go_wp2
        go_roundw
        case rel => exact ⟨i + 1, m, by omega, by omega, by go_num, by rw [Hk.out]; exact Hm.out, Hch.out⟩
        case measure => simp [intOf]; omega
    · obtain rfl : i = D.ps.length := by omega
      rw [List.take_length] at hm
      have Hm := Lib.hid hm
      clear hm hch
      go_wp2_with (first
        | (refine wpList_store_blk rfl 22 _ _ (by rfl) mb 1 (.slice none 0 0) (by rfl) (by rfl) (mcells mm (.slice Aa D.ps.length ca) (.slice Ax D.ps.length cx) D.f) 70 Hrest.out.1 [.slice none 0 0] (by rfl) 1 rfl size_ints (by show 1 + 1 ≤ 4; omega) (by intro u hu; simp at hu; subst hu; rfl) (mcells mm (.slice none 0 0) (.slice Ax D.ps.length cx) D.f) rfl ?_
           intro w1 hb1 hg1
           have Hb1 := Lib.hid hb1
           have Hg1 := Lib.hid hg1
           clear hb1 hg1)
        | (refine wpList_store_blk rfl 68 _ _ (by rfl) mb 2 (.slice none 0 0) (by rfl) (by rfl) (mcells mm (.slice none 0 0) (.slice Ax D.ps.length cx) D.f) 70 Hb1.out [.slice none 0 0] (by rfl) 1 rfl size_strs (by show 2 + 1 ≤ 4; omega) (by intro u hu; simp at hu; subst hu; rfl) (mcells mm (.slice none 0 0) (.slice none 0 0) D.f) rfl ?_
           intro w2 hb2 hg2))
      go_end0
      have hc1 := chg_grown Hg1.out
      have hc2 := chg_grown hg2
      have hc : Chg (fun x => x = mm ∨ x = mb) w w2 := ((Hch.out.mono fun _ _ e => .inl e).trans hc1 fun _ _ e => .inr (by injection e with e; exact e.symm)).trans hc2 fun _ _ e => .inr (by injection e with e; exact e.symm)
      have hmm : w2.heap[mm]? = wr.heap[mm]? := ((hc2.block mm (Nat.lt_of_lt_of_le Hm.out.lt hc1.size) (by intro e; injection e with e; exact Hh.out.n1 e.symm))).trans (hc1.block mm Hm.out.lt (by intro e; injection e with e; exact Hh.out.n1 e.symm))
      exact ⟨rfl, Hh.out.gone hb2 (Hm.out.heap hmm) (by omega) rfl (putAll_sec Hh.out.ok.S Hh.out.ok.ps.kept Hh.out.sec) (putAll_len Hh.out.len Hh.out.ok.ps.kept) (Hh.out.ok.crash ks) (hc.mono fun i _ e => e.elim (fun e => .inr (.inl e)) .inl)⟩
theorem mdl_fail_any (B mb mm n : Nat) (av xv : Value) (D : Dsk) (F : Int → Option (List UInt8)) (w : World) (h : MdlAt w B mb mm n av xv D F) :
    Calls Try.prog 30 #[.pointer (some ⟨mb, 0, none⟩)] w fun e w' => e = .returned (.tuple #[]) ∧ MdlTo w w' B mb mm n av xv 0 Dsk.failed := by
  have Hh := Lib.hid h
  have hmb := (h.lt (.inl rfl)).2
  have hBm := (h.lt (.inl rfl)).1
  have hmm := @run_makeMap Try.prog
  have H0 := Lib.hid (show (w.alloc (.map #[] 0)).heap[mb]? = some (.cells (mcells mm av xv D.f).toArray 70 (0, 0)) from (hp_old _ _ _ hmb).trans h.blk)
  clear h
  go_enter Try.func30, Try.ntmps30
  go_wp2_with (first
    | (refine wpList_store_blk rfl 67 _ _ (by rfl) mb 0 (.map (some w.heap.size)) (by rfl) (by rfl) (mcells mm av xv D.f) 70 H0.out [.map (some w.heap.size)] (by rfl) 1 rfl size_map (by show 0 + 1 ≤ 4; omega) (by intro u hu; simp at hu; subst hu; rfl) (mcells w.heap.size av xv D.f) rfl ?_
       intro w1 hb1 hg1
       have Hb1 := Lib.hid hb1
       have Hg1 := Lib.hid hg1
       clear hb1 hg1)
    | (refine wpList_store_blk rfl 22 _ _ (by rfl) mb 1 (.slice none 0 0) (by rfl) (by rfl) (mcells w.heap.size av xv D.f) 70 Hb1.out [.slice none 0 0] (by rfl) 1 rfl size_ints (by show 1 + 1 ≤ 4; omega) (by intro u hu; simp at hu; subst hu; rfl) (mcells w.heap.size (.slice none 0 0) xv D.f) rfl ?_
       intro w2 hb2 hg2
       have Hb2 := Lib.hid hb2
       have Hg2 := Lib.hid hg2
       clear hb2 hg2)
    | (refine wpList_store_blk rfl 68 _ _ (by rfl) mb 2 (.slice none 0 0) (by rfl) (by rfl) (mcells w.heap.size (.slice none 0 0) xv D.f) 70 Hb2.out [.slice none 0 0] (by rfl) 1 rfl size_strs (by show 2 + 1 ≤ 4; omega) (by intro u hu; simp at hu; subst hu; rfl) (mcells w.heap.size (.slice none 0 0) (.slice none 0 0) D.f) rfl ?_
       intro w3 hb3 hg3
       have Hb3 := Lib.hid hb3
       have Hg3 := Lib.hid hg3
       clear hb3 hg3)
    | (refine wpList_store_blk rfl 4 _ _ (by rfl) mb 3 (.bool true) (by rfl) (by rfl) (mcells w.heap.size (.slice none 0 0) (.slice none 0 0) D.f) 70 Hb3.out [.bool true] (by rfl) 1 rfl size_bool (by show 3 + 1 ≤ 4; omega) (by intro u hu; simp at hu; subst hu; rfl) (mcells w.heap.size (.slice none 0 0) (.slice none 0 0) true) rfl ?_
       intro w4 hb4 hg4))
  go_end0
  have hm0 := mapS_new w
  have hc : Chg (fun x => x = mb) (w.alloc (.map #[] 0)) w4 := (((chg_grown Hg1.out).trans (chg_grown Hg2.out) fun _ _ e => e).trans (chg_grown Hg3.out) fun _ _ e => e).trans (chg_grown hg4) (fun _ _ e => e) |>.mono fun _ _ e => by injection e with e; exact e.symm
  have hcw : Chg (fun x => x = mb) w w4 := ((chg_below (fun x => x = mb) (below1 w _)).trans hc fun _ _ e => e)
  exact ⟨rfl, w.heap.size, 0, _, _, _, ⟨hb4, hm0.heap (hc.block _ hm0.lt (by omega)), World.ownsRow_nil _ _ _ _, World.ownsRow_nil _ _ _ _, ⟨hBm, by omega⟩, by omega, by simp [Value.ownBlock], by simp [Value.ownBlock], by simp [Value.ownBlock], by simp [Value.ownBlock], fun k h => by simp [Value.ownBlock] at h,
    fun k hk => sec_zero hk, fun k x h => by simp at h, Dsk.failed_ok⟩, Nat.zero_le _, hcw.mono fun _ _ e => .inl e, fun j hj => by
      rcases hj with e | e | e | e
      · exact .inl (.inl e)
      · exact .inr (by omega)
      · simp [Value.ownBlock] at e
      · simp [Value.ownBlock] at e⟩
end Go.Proofs.Ytpiilfgikgkneaa
namespace Go.Proofs.Ytpiilfgikgkneaa
open Go.RowKit

section
variable {P : Program}
theorem run_append_one (w : World) (base : Nat) (t ty e : TypeId) (z : Value) (bytes : Nat) (ht : P.underlying t = some (.slice e)) (hinfo : (P.info? e).map (fun i => (i.zero, i.size, i.bytes)) = some (some z, 1, bytes)) (hz1 : z.cells.size = 1)
    (v : Value) (n : Nat) (xs : List Value) (hown : w.ownsRow base e 1 v n xs) (g : Nat) (u : Value) (hg : w.heap[g]? = some (.cells #[u] e (0, 0))) (h1 : u.oneCell' = true) (h63 : n + 1 ≤ maxLen) (hbytes : (n + 1) * bytes ≤ 140737488355328) (hbase : base ≤ w.heap.size) :
    ∃ v' w', (Builtin.append_ #[t, t] ty #[v, .slice (some ⟨g, 0, none⟩) 1 1]).run P w = .ok v' w' ∧ w'.ownsRow base e 1 v' (n + 1) (xs ++ [u]) ∧ w.grownBy w' v.ownBlock ∧ (v'.ownBlock = v.ownBlock ∨ v'.ownBlock = some w.heap.size) := by
  obtain ⟨i, hi, hzz⟩ := Option.map_eq_some_iff.1 hinfo
  simp only [Prod.mk.injEq] at hzz
  obtain ⟨hz, hsz, hb⟩ := hzz
  have hcells : ∀ j x, ([u] : List Value)[j]? = some x → w.cell? ((⟨g, 0, none⟩ : Addr).add j) = some x := by
    intro j x hx
    obtain ⟨hj, _⟩ := List.getElem?_eq_some_iff.1 hx
    obtain rfl : j = 0 := by simpa using hj
    have e1 : ((⟨g, 0, none⟩ : Addr).add 0) = ⟨g, 0, none⟩ := by unfold Addr.add; simp
    rw [e1, cell_of_row w g 0 _ _ _ hg]
    simpa using hx
  obtain ⟨v', w', hrun, h2, h3, _, h5⟩ := run_append_own_at (P := P) w base t ty e i _ 1 bytes ht hi hz hsz hb hz1 (by omega) v n xs hown ⟨g, 0, none⟩ 1 1 [u] (by simp) hcells (by intro x hx; simp at hx; subst hx; exact h1) h63 hbytes hbase
  exact ⟨v', w', hrun, h2, h3, h5⟩
/-- Two own rows, as they have grown since w0. -/
structure Grow (e1 e2 : TypeId) (w0 w : World) (B : Nat) (av0 xv0 av xv : Value) (na nx : Nat) (xs ys : List Value) : Prop where
  a : w.ownsRow B e1 1 av na xs
  x : w.ownsRow B e2 1 xv nx ys
  d : ∀ k, av.ownBlock = some k → xv.ownBlock ≠ some k
  c : Chg (fun k => av0.ownBlock = some k ∨ xv0.ownBlock = some k) w0 w
  ea : ∀ k, av.ownBlock = some k → av0.ownBlock = some k ∨ w0.heap.size ≤ k
  ex : ∀ k, xv.ownBlock = some k → xv0.ownBlock = some k ∨ w0.heap.size ≤ k
section
variable {e1 e2 : TypeId} {w0 w : World} {B : Nat} {av0 xv0 av xv : Value} {na nx : Nat} {xs ys : List Value}
theorem Grow.start (ha : w.ownsRow B e1 1 av na xs) (hx : w.ownsRow B e2 1 xv nx ys) (hd : ∀ k, av.ownBlock = some k → xv.ownBlock ≠ some k) : Grow e1 e2 w w B av xv av xv na nx xs ys :=
  ⟨ha, hx, hd, Chg.refl _ _, fun _ h => .inl h, fun _ h => .inl h⟩
theorem Grow.drew (h : Grow e1 e2 w0 w B av0 xv0 av xv na nx xs ys) : Grow e1 e2 w0 w.drew B av0 xv0 av xv na nx xs ys := ⟨h.a, h.x, h.d, h.c.drewN 1, h.ea, h.ex⟩
theorem Grow.ofDrew (h : Grow e1 e2 w0.drew w B av0 xv0 av xv na nx xs ys) : Grow e1 e2 w0 w B av0 xv0 av xv na nx xs ys := ⟨h.a, h.x, h.d, h.c.ofDrew, h.ea, h.ex⟩
theorem Grow.alloc (h : Grow e1 e2 w0 w B av0 xv0 av xv na nx xs ys) (o : Obj) : Grow e1 e2 w0 (w.alloc o) B av0 xv0 av xv na nx xs ys :=
  ⟨own_heap h.a fun k hk => (below1 w o).block k (h.a.lt k hk).2, own_heap h.x fun k hk => (below1 w o).block k (h.x.lt k hk).2, h.d, h.c.alloc o, h.ea, h.ex⟩
theorem Grow.pushA (h : Grow e1 e2 w0 w B av0 xv0 av xv na nx xs ys) (t ty : TypeId) (z : Value) (bytes : Nat) (ht : P.underlying t = some (.slice e1)) (hinfo : (P.info? e1).map (fun i => (i.zero, i.size, i.bytes)) = some (some z, 1, bytes)) (hz1 : z.cells.size = 1)
    (g : Nat) (u : Value) (hg : w.heap[g]? = some (.cells #[u] e1 (0, 0))) (h1 : u.oneCell' = true) (hn : na ≤ 2000000) (hb : bytes ≤ 100) (hB : B ≤ w0.heap.size) :
    ∃ v' w', (Builtin.append_ #[t, t] ty #[av, .slice (some ⟨g, 0, none⟩) 1 1]).run P w = .ok v' w' ∧ Grow e1 e2 w0 w' B av0 xv0 v' xv (na + 1) nx (xs ++ [u]) ys ∧ w.grownBy w' av.ownBlock := by
  obtain ⟨v', w', hr, ho, hgr, hv⟩ := run_append_one w B t ty e1 z bytes ht hinfo hz1 av na xs h.a g u hg h1 (by unfold maxLen; omega) (Nat.le_trans (Nat.mul_le_mul (show na + 1 ≤ 2000001 by omega) hb) (by omega)) (Nat.le_trans hB h.c.size)
  refine ⟨v', w', hr, ⟨ho, own_chg h.x (chg_grown hgr) fun k hk e => h.d k e hk, fun k hk => ?_, h.c.trans (chg_grown hgr) fun i hi e => ?_, fun k hk => ?_, h.ex⟩, hgr⟩
  · rcases hv with e | e
    · exact h.d k (e ▸ hk)
    · intro e2
      have := (h.x.lt k e2).2
      rw [hk] at e; injection e with e; omega
  · rcases h.ea i e with e | e
    · exact .inl e
    · omega
  · rcases hv with e | e
    · exact h.ea k (e ▸ hk)
    · rw [hk] at e; injection e with e; have := h.c.size; exact .inr (by omega)
theorem Grow.swap (h : Grow e1 e2 w0 w B av0 xv0 av xv na nx xs ys) : Grow e2 e1 w0 w B xv0 av0 xv av nx na ys xs :=
  ⟨h.x, h.a, fun k hk e => h.d k e hk, h.c.mono fun _ _ e => e.symm, h.ex, h.ea⟩
theorem Grow.pushX (h : Grow e1 e2 w0 w B av0 xv0 av xv na nx xs ys) (t ty : TypeId) (z : Value) (bytes : Nat) (ht : P.underlying t = some (.slice e2)) (hinfo : (P.info? e2).map (fun i => (i.zero, i.size, i.bytes)) = some (some z, 1, bytes)) (hz1 : z.cells.size = 1)
    (g : Nat) (u : Value) (hg : w.heap[g]? = some (.cells #[u] e2 (0, 0))) (h1 : u.oneCell' = true) (hn : nx ≤ 2000000) (hb : bytes ≤ 100) (hB : B ≤ w0.heap.size) :
    ∃ v' w', (Builtin.append_ #[t, t] ty #[xv, .slice (some ⟨g, 0, none⟩) 1 1]).run P w = .ok v' w' ∧ Grow e1 e2 w0 w' B av0 xv0 av v' na (nx + 1) xs (ys ++ [u]) ∧ w.grownBy w' xv.ownBlock := by
  obtain ⟨v', w', hr, hG, hg⟩ := h.swap.pushA t ty z bytes ht hinfo hz1 g u hg h1 hn hb hB
  exact ⟨v', w', hr, hG.swap, hg⟩
/-- A block outside both stays. -/
theorem Grow.stays (h : Grow e1 e2 w0 w B av0 xv0 av xv na nx xs ys) {k : Nat} (hk : k < w0.heap.size) (h1 : av0.ownBlock ≠ some k) (h2 : xv0.ownBlock ≠ some k) : w.heap[k]? = w0.heap[k]? := h.c.block k hk fun e => e.elim h1 h2
end
theorem opE_run {ops : Array Oper} {Q : Exit → Act → World → Prop} {o : Oper} {K : Act → World → Prop} {a : Act} {w w' : World} {v : Value} (hw : Region.wanted o (yielded ops a.tmps) = true) (hr : (execOp a.eval o).run P w = .ok (.value v) w') (h : K (a.put o.dst v) w') : opE P ops Q o K a w := by
  refine opE_step ?_
  rw [if_pos hw]
  unfold Oper.wp
  rw [hr]
  exact h
theorem exec_build {o : Oper} {a : Act} {w w' : World} {v u : Value} (t : TypeId) (x : Operand) (ho : o.op = .buildSlice t 1 #[(0, x)]) (hx : a.eval x = u) (hr : (Instr.buildSlice t 1 #[(0, u)]).run P w = .ok v w') : (execOp a.eval o).run P w = .ok (.value v) w' := by
  unfold execOp
  simp only [ho, List.map_toArray, List.map_cons, List.map_nil, hx, Sem.run_bind, hr, Result.andThen_ok]
  rfl
theorem exec_append {o : Oper} {a : Act} {w w' : World} {v l x : Value} (t : TypeId) (y z : Operand) (ho : o.op = .call { callee := .builtin .append, args := #[y, z], argTypes := #[t, t] }) (hy : a.eval y = l) (hz : a.eval z = x) (hr : (Builtin.append_ #[t, t] o.type #[l, x]).run P w = .ok v w') : (execOp a.eval o).run P w = .ok (.value v) w' := by
  unfold execOp
  simp only [ho, resolve, invoke, builtin, Sem.run_bind, Sem.run_pure, Result.andThen_ok, List.map_toArray, List.map_cons, List.map_nil, hy, hz, hr]
end
theorem build_int (x : Int) (w : World) : (Instr.buildSlice 22 1 #[(0, .int .i64 x)]).run Try.prog w = .ok (.slice (some ⟨w.heap.size, 0, none⟩) 1 1) (w.alloc (.cells #[.int .i64 x] 3)) := by kernel_rfl
theorem build_str (x : List UInt8) (w : World) : (Instr.buildSlice 68 1 #[(0, str x)]).run Try.prog w = .ok (.slice (some ⟨w.heap.size, 0, none⟩) 1 1) (w.alloc (.cells #[str x] 9)) := by kernel_rfl
theorem info_int : (Try.prog.info? 3).map (fun i => (i.zero, i.size, i.bytes)) = some (some (.int .i64 0), 1, 8) := by kernel_rfl
theorem info_str : (Try.prog.info? 9).map (fun i => (i.zero, i.size, i.bytes)) = some (some (.string ⟨#[]⟩), 1, 16) := by kernel_rfl
end Go.Proofs.Ytpiilfgikgkneaa
set_option linter.unusedSimpArgs false
namespace Go.Proofs.Ytpiilfgikgkneaa
open Go.RowKit

theorem RdB.stays {w w' : World} {B : Nat} {A : Option Addr} {x : List UInt8} (h : RdB w B A x) (hk : ∀ a, A = some a → w'.heap[a.block]? = w.heap[a.block]?) : RdB w' B A x :=
  ⟨h.1, fun hn => by
    obtain ⟨b, off, rfl, hb, hc⟩ := h.2 hn
    exact ⟨b, off, rfl, hb, fun k hk' => (World.cell?_of_block (a := ⟨b, off + k, none⟩) (hk ⟨b, off, none⟩ rfl)).trans (hc k hk')⟩⟩
theorem own_cell1 {w : World} {B n : Nat} {e : TypeId} {v : Value} {xs : List Value} (h : w.ownsRow B e 1 v n xs) : v.cells = [v].toArray := by
  obtain ⟨A, c, rfl, _, _⟩ := own_form h; rfl
theorem own_one1 {w : World} {B n : Nat} {e : TypeId} {v : Value} {xs : List Value} (h : w.ownsRow B e 1 v n xs) : ∀ u ∈ [v], u.oneCell' = true := by
  obtain ⟨A, c, rfl, _, _⟩ := own_form h
  intro u hu; simp at hu; subst hu; rfl
theorem mdl_write_end {w w5 w6 w7 : World} {B mb mm n : Nat} {av xv va vx : Value} {D : Dsk} {F : Int → Option (List UInt8)} (h : MdlAt w B mb mm n av xv D F) {k : Nat} (hk : k < 52) {x : List UInt8} (hx : x.length = 32)
    (hG : Grow 3 9 w w5 B av xv va vx (D.ps.length + 1) (D.ps.length + 1) ((D.ps.map fun p => Value.int .i64 (p.1 : Int)) ++ [.int .i64 (k : Int)]) ((D.ps.map fun p => str p.2) ++ [str x]))
    (hb7 : w7.heap[mb]? = some (.cells (mcells mm va vx D.f).toArray 70 (0, 0))) (hg6 : w5.grownBy w6 (some mb)) (hg7 : w6.grownBy w7 (some mb)) : MdlTo w w7 B mb mm n av xv 0 (D.write k x) := by
  have hc7 : Chg (fun x => x = mb) w5 w7 := ((chg_grown hg6).trans (chg_grown hg7) fun _ _ e => e).mono fun _ _ e => by injection e with e; exact e.symm
  have hc : Chg (MF mb mm av xv) w w7 := (hG.c.mono fun _ _ e => .inr (.inr e)).trans (G := fun x => x = mb) hc7 fun _ _ e => .inl e
  have lmb := (h.lt (.inl rfl)).2
  have lmm := (h.lt (.inr (.inl rfl))).2
  have hne : ∀ (v v0 : Value), (∀ k, v.ownBlock = some k → v0.ownBlock = some k ∨ w.heap.size ≤ k) → ∀ b, b < w.heap.size → v0.ownBlock ≠ some b → v.ownBlock ≠ some b := fun v v0 hv b hb h0 e => by
    rcases hv b e with e | e
    · exact h0 e
    · omega
  have nb := hne va av hG.ea mb lmb h.n2
  have nbx := hne vx xv hG.ex mb lmb h.n4
  refine ⟨mm, n, va, vx, F, ⟨hb7, h.map.heap ((hc7.block mm (Nat.lt_of_lt_of_le lmm hG.c.size) h.n1).trans (hG.stays lmm h.n3 h.n5)), ?_, ?_, h.le, h.n1, nb, hne va av hG.ea mm lmm h.n3, nbx, hne vx xv hG.ex mm lmm h.n5, hG.d, h.sec, h.len, h.ok.write hk hx⟩, by omega, hc, fun j hj => ?_⟩
  · have := own_chg hG.a hc7 fun j hj e => nb (by rw [hj, e])
    simpa [Dsk.write] using this
  · have := own_chg hG.x hc7 fun j hj e => nbx (by rw [hj, e])
    simpa [Dsk.write] using this
  · rcases hj with e | e | e | e
    · exact .inl (.inl e)
    · exact .inl (.inr (.inl e))
    · exact (hG.ea j e).imp (fun e => .inr (.inr (.inl e))) id
    · exact (hG.ex j e).imp (fun e => .inr (.inr (.inr e))) id
set_option maxRecDepth 100000 in
set_option maxHeartbeats 1600000 in
theorem mdl_write_any (B mb mm n : Nat) (av xv : Value) (D : Dsk) (F : Int → Option (List UInt8)) (w : World) (h : MdlAt w B mb mm n av xv D F) (hps : D.ps.length ≤ 1000000) (hB : B ≤ w.heap.size)
    (k : Nat) (hk : k < 52) (x : List UInt8) (hx : x.length = 32) (A : Option Addr) (c : Nat) (hr : RdB w w.heap.size A x) (hA : ∀ a, A = some a → a.block < w.heap.size ∧ av.ownBlock ≠ some a.block ∧ xv.ownBlock ≠ some a.block) :
    Calls Try.prog 23 #[.pointer (some ⟨mb, 0, none⟩), .int .i64 (k : Int), .slice A 32 c] w fun e w' => e = .returned (.tuple #[]) ∧ MdlTo w w' B mb mm n av xv 0 (D.write k x) := by
  have Hh := Lib.hid h
  obtain ⟨S, hS⟩ : ∃ S : World → Prop, S = Chg (fun k => av.ownBlock = some k ∨ xv.ownBlock = some k) w := ⟨_, rfl⟩
  have HS := Lib.hid hS
  have hblk : ∀ W, S W → W.heap[mb]? = some (.cells (mcells mm av xv D.f).toArray 70 (0, 0)) := fun W hW => by
    rw [hS] at hW
    exact (hW.block mb (h.lt (.inl rfl)).2 fun e => e.elim h.n2 h.n4).trans h.blk
  have HL1 := Lib.hid (fun W hW => (cell_of_row W mb 1 _ _ _ (hblk W hW)).trans rfl : ∀ W, S W → W.cell? ⟨mb, 1, none⟩ = some av)
  have HL2 := Lib.hid (fun W hW => (cell_of_row W mb 2 _ _ _ (hblk W hW)).trans rfl : ∀ W, S W → W.cell? ⟨mb, 2, none⟩ = some xv)
  have HCV := Lib.hid (fun W hW => conv_str A x 32 c w.heap.size W hx.symm (hr.stays fun a ha => by
    rw [hS] at hW
    exact hW.block a.block (hA a ha).1 fun e => e.elim (hA a ha).2.1 (hA a ha).2.2) : ∀ W, S W → (convert 31 9 (.slice A 32 c)).run Try.prog W = .ok (str x) W)
  have HS0 : Hid (S w.drew) := Lib.hid (by rw [hS]; exact (Chg.refl _ w).drewN 1)
  have HG0 := Lib.hid ((Grow.start h.ats h.xs h.n6).drew : Grow 3 9 w w.drew B av xv av xv D.ps.length D.ps.length _ _)
  have Hlt := Lib.hid (fun j hj => h.lt (k := j) hj)
  clear h hblk hS hr hA
  go_enter Try.func23, Try.ntmps23
  go_wp2
  refine wp_region_noPanic (region_ord 17 [1] S (by kernel_rfl) (by kernel_rfl) (fun _ _ _ _ _ h => h) fun R => ?_)
  change anyI _ _ _ _ _ _ 23 _ _ w.drew
  refine anyI_free R 1 rfl (v := (.pointer (some ⟨mb, 0, none⟩))) (by kernel_rfl) (by rfl) (fun W => by go_simp) ?_
  simp only [Act.put, List.getElem_toArray, List.getElem_cons_succ, List.getElem_cons_zero, List.setIfInBounds_toArray, List.set_cons_zero, List.set_cons_succ]
  refine anyI_take R 0 rfl (v := (.pointer (some ⟨mb, 0, none⟩))) (by kernel_rfl) (by rfl) (fun W hW => by go_simp) HS0.out ?_
  simp only [Act.put, List.getElem_toArray, List.getElem_cons_succ, List.getElem_cons_zero, List.setIfInBounds_toArray, List.set_cons_zero, List.set_cons_succ]
  refine anyI_take R 2 rfl (v := (.pointer (some ⟨mb, 0, none⟩))) (by kernel_rfl) (by rfl) (fun W hW => by go_simp) HS0.out ?_
  simp only [Act.put, List.getElem_toArray, List.getElem_cons_succ, List.getElem_cons_zero, List.setIfInBounds_toArray, List.set_cons_zero, List.set_cons_succ]
  refine anyI_take R 3 rfl (v := (.pointer (some ⟨mb, 0, none⟩))) (by kernel_rfl) (by rfl) (fun W hW => by go_simp) HS0.out ?_
  simp only [Act.put, List.getElem_toArray, List.getElem_cons_succ, List.getElem_cons_zero, List.setIfInBounds_toArray, List.set_cons_zero, List.set_cons_succ]
  refine anyI_take R 4 rfl (v := (.pointer (some ⟨mb, 1, none⟩))) (by kernel_rfl) (by rfl) (fun W hW => by go_simp) HS0.out ?_
  simp only [Act.put, List.getElem_toArray, List.getElem_cons_succ, List.getElem_cons_zero, List.setIfInBounds_toArray, List.set_cons_zero, List.set_cons_succ]
  refine anyI_take R 5 rfl (v := av) (by kernel_rfl) (by rfl) (fun W hW => by have hc := HL1.out W hW; go_simp) HS0.out ?_
  simp only [Act.put, List.getElem_toArray, List.getElem_cons_succ, List.getElem_cons_zero, List.setIfInBounds_toArray, List.set_cons_zero, List.set_cons_succ]
  refine anyI_take R 6 rfl (v := (.int .i64 (k : Int))) (by kernel_rfl) (by rfl) (fun W hW => by go_simp) HS0.out ?_
  simp only [Act.put, List.getElem_toArray, List.getElem_cons_succ, List.getElem_cons_zero, List.setIfInBounds_toArray, List.set_cons_zero, List.set_cons_succ]
  refine anyI_take R 9 rfl (v := (.pointer (some ⟨mb, 0, none⟩))) (by kernel_rfl) (by rfl) (fun W hW => by go_simp) HS0.out ?_
  simp only [Act.put, List.getElem_toArray, List.getElem_cons_succ, List.getElem_cons_zero, List.setIfInBounds_toArray, List.set_cons_zero, List.set_cons_succ]
  refine anyI_take R 10 rfl (v := (.pointer (some ⟨mb, 0, none⟩))) (by kernel_rfl) (by rfl) (fun W hW => by go_simp) HS0.out ?_
  simp only [Act.put, List.getElem_toArray, List.getElem_cons_succ, List.getElem_cons_zero, List.setIfInBounds_toArray, List.set_cons_zero, List.set_cons_succ]
  refine anyI_take R 11 rfl (v := (.pointer (some ⟨mb, 2, none⟩))) (by kernel_rfl) (by rfl) (fun W hW => by go_simp) HS0.out ?_
  simp only [Act.put, List.getElem_toArray, List.getElem_cons_succ, List.getElem_cons_zero, List.setIfInBounds_toArray, List.set_cons_zero, List.set_cons_succ]
  refine anyI_take R 12 rfl (v := xv) (by kernel_rfl) (by rfl) (fun W hW => by have hc := HL2.out W hW; go_simp) HS0.out ?_
  simp only [Act.put, List.getElem_toArray, List.getElem_cons_succ, List.getElem_cons_zero, List.setIfInBounds_toArray, List.set_cons_zero, List.set_cons_succ]
  refine anyI_take R 13 rfl (v := (.slice A 32 c)) (by kernel_rfl) (by rfl) (fun W hW => by go_simp) HS0.out ?_
  simp only [Act.put, List.getElem_toArray, List.getElem_cons_succ, List.getElem_cons_zero, List.setIfInBounds_toArray, List.set_cons_zero, List.set_cons_succ]
  refine anyI_take R 14 rfl (v := (str x)) (by kernel_rfl) (by rfl) (fun W hW => by have hc := HCV.out W hW; go_simp) HS0.out ?_
  simp only [Act.put, List.getElem_toArray, List.getElem_cons_succ, List.getElem_cons_zero, List.setIfInBounds_toArray, List.set_cons_zero, List.set_cons_succ]
  have G0 := HG0.out
  refine anyI_two 7 15 (by kernel_rfl) rfl rfl ?_ ?_
  · simp only [List.getElem_toArray, List.getElem_cons_succ, List.getElem_cons_zero]
    refine opE_run (by rfl) (exec_build 22 _ (by rfl) (by rfl) (build_int (k : Int) _)) ?_
    have G1 := G0.alloc (.cells #[.int .i64 (k : Int)] 3)
    refine ⟨by rw [HS.out]; exact G1.c, ?_⟩
    simp only [Act.put, List.getElem_toArray, List.getElem_cons_succ, List.getElem_cons_zero, List.setIfInBounds_toArray, List.set_cons_zero, List.set_cons_succ]
    refine anyI_two 8 15 (by kernel_rfl) rfl rfl ?_ ?_
    · obtain ⟨va, wa, hra, Ga, hga⟩ := G1.pushA 22 22 _ 8 Try.underlying22 info_int rfl w.drew.heap.size (.int .i64 (k : Int)) (hp_new _ _ _ rfl) rfl (by omega) (by omega) hB
      simp only [List.getElem_toArray, List.getElem_cons_succ, List.getElem_cons_zero]
      refine opE_run (by rfl) (exec_append 22 _ _ (by rfl) (by rfl) (by rfl) hra) ?_
      refine ⟨by rw [HS.out]; exact Ga.c, ?_⟩
      simp only [Act.put, List.getElem_toArray, List.getElem_cons_succ, List.getElem_cons_zero, List.setIfInBounds_toArray, List.set_cons_zero, List.set_cons_succ]
      refine anyI_one 15 (by kernel_rfl) rfl ?_
      simp only [List.getElem_toArray, List.getElem_cons_succ, List.getElem_cons_zero]
      refine opE_run (by rfl) (exec_build 68 _ (by rfl) (by rfl) (build_str x _)) ?_
      have G2 := Ga.alloc (.cells #[str x] 9)
      refine ⟨by rw [HS.out]; exact G2.c, ?_⟩
      simp only [Act.put, List.getElem_toArray, List.getElem_cons_succ, List.getElem_cons_zero, List.setIfInBounds_toArray, List.set_cons_zero, List.set_cons_succ]
      refine anyI_one 16 (by kernel_rfl) rfl ?_
      obtain ⟨vx, wx, hrx, Gx, hgx⟩ := G2.pushX 68 68 _ 16 Try.underlying68 info_str rfl wa.heap.size (str x) (hp_new _ _ _ rfl) rfl (by omega) (by omega) hB
      simp only [List.getElem_toArray, List.getElem_cons_succ, List.getElem_cons_zero]
      refine opE_run (by rfl) (exec_append 68 _ _ (by rfl) (by rfl) (by rfl) hrx) ?_
      refine ⟨by rw [HS.out]; exact Gx.c, ?_⟩
      simp only [Act.put, List.getElem_toArray, List.getElem_cons_succ, List.getElem_cons_zero, List.setIfInBounds_toArray, List.set_cons_zero, List.set_cons_succ]
      clear hra hrx hga hgx
      have HG := Lib.hid Gx
      generalize wx = w5 at HG ⊢
      clear Gx
      refine anyI_tail (by kernel_rfl) ?_
      simp only [List.drop_succ_cons, List.drop_zero]
      have Hb0 := Lib.hid (show w5.heap[mb]? = some (.cells (mcells mm av xv D.f).toArray 70 (0, 0)) from (HG.out.stays (Hlt.out _ (.inl rfl)).2 Hh.out.n2 Hh.out.n4).trans Hh.out.blk)
      go_wp2_with (first
        | (refine wpList_store_blk rfl 22 _ _ (by rfl) mb 1 va (by rfl) (by rfl) (mcells mm av xv D.f) 70 Hb0.out [va] (own_cell1 HG.out.a) 1 rfl size_ints (by show 1 + 1 ≤ 4; omega) (own_one1 HG.out.a) (mcells mm va xv D.f) rfl ?_
           intro w6 hb6 hg6
           have Hb6 := Lib.hid hb6
           have Hg6 := Lib.hid hg6
           clear hb6 hg6)
        | (refine wpList_store_blk rfl 68 _ _ (by rfl) mb 2 vx (by rfl) (by rfl) (mcells mm va xv D.f) 70 Hb6.out [vx] (own_cell1 HG.out.x) 1 rfl size_strs (by show 2 + 1 ≤ 4; omega) (own_one1 HG.out.x) (mcells mm va vx D.f) rfl ?_
           intro w7 hb7 hg7
           have Hb7 := Lib.hid hb7
           have Hg7 := Lib.hid hg7
           clear hb7 hg7))
      refine NoPanic.normal ?_
      go_wp2
      go_end0
      exact ⟨rfl, mdl_write_end Hh.out hk hx HG.out Hb7.out Hg6.out Hg7.out⟩
    · simp only [List.getElem_toArray, List.getElem_cons_succ, List.getElem_cons_zero]
      refine opE_run (by rfl) (exec_build 68 _ (by rfl) (by rfl) (build_str x _)) ?_
      have G2 := G1.alloc (.cells #[str x] 9)
      refine ⟨by rw [HS.out]; exact G2.c, ?_⟩
      simp only [Act.put, List.getElem_toArray, List.getElem_cons_succ, List.getElem_cons_zero, List.setIfInBounds_toArray, List.set_cons_zero, List.set_cons_succ]
      refine anyI_one 8 (by kernel_rfl) rfl ?_
      obtain ⟨va, wa, hra, Ga, hga⟩ := G2.pushA 22 22 _ 8 Try.underlying22 info_int rfl w.drew.heap.size (.int .i64 (k : Int)) ((hp_old _ _ _ (by simp)).trans (hp_new _ _ _ rfl)) rfl (by omega) (by omega) hB
      simp only [List.getElem_toArray, List.getElem_cons_succ, List.getElem_cons_zero]
      refine opE_run (by rfl) (exec_append 22 _ _ (by rfl) (by rfl) (by rfl) hra) ?_
      refine ⟨by rw [HS.out]; exact Ga.c, ?_⟩
      simp only [Act.put, List.getElem_toArray, List.getElem_cons_succ, List.getElem_cons_zero, List.setIfInBounds_toArray, List.set_cons_zero, List.set_cons_succ]
      have hq : wa.heap[(w.drew.alloc (.cells #[.int .i64 (k : Int)] 3)).heap.size]? = some (.cells #[str x] 9 (0, 0)) := (hga.block _ (by simp) fun e => by have := (Hlt.out _ (.inr (.inr (.inl e.symm)))).2; exact absurd this (by simp)).trans (hp_new _ _ _ rfl)
      refine anyI_one 16 (by kernel_rfl) rfl ?_
      obtain ⟨vx, wx, hrx, Gx, hgx⟩ := Ga.pushX 68 68 _ 16 Try.underlying68 info_str rfl (w.drew.alloc (.cells #[.int .i64 (k : Int)] 3)).heap.size (str x) hq rfl (by omega) (by omega) hB
      simp only [List.getElem_toArray, List.getElem_cons_succ, List.getElem_cons_zero]
      refine opE_run (by rfl) (exec_append 68 _ _ (by rfl) (by rfl) (by rfl) hrx) ?_
      refine ⟨by rw [HS.out]; exact Gx.c, ?_⟩
      simp only [Act.put, List.getElem_toArray, List.getElem_cons_succ, List.getElem_cons_zero, List.setIfInBounds_toArray, List.set_cons_zero, List.set_cons_succ]
      clear hq
      clear hra hrx hga hgx
      have HG := Lib.hid Gx
      generalize wx = w5 at HG ⊢
      clear Gx
      refine anyI_tail (by kernel_rfl) ?_
      simp only [List.drop_succ_cons, List.drop_zero]
      have Hb0 := Lib.hid (show w5.heap[mb]? = some (.cells (mcells mm av xv D.f).toArray 70 (0, 0)) from (HG.out.stays (Hlt.out _ (.inl rfl)).2 Hh.out.n2 Hh.out.n4).trans Hh.out.blk)
      go_wp2_with (first
        | (refine wpList_store_blk rfl 22 _ _ (by rfl) mb 1 va (by rfl) (by rfl) (mcells mm av xv D.f) 70 Hb0.out [va] (own_cell1 HG.out.a) 1 rfl size_ints (by show 1 + 1 ≤ 4; omega) (own_one1 HG.out.a) (mcells mm va xv D.f) rfl ?_
           intro w6 hb6 hg6
           have Hb6 := Lib.hid hb6
           have Hg6 := Lib.hid hg6
           clear hb6 hg6)
        | (refine wpList_store_blk rfl 68 _ _ (by rfl) mb 2 vx (by rfl) (by rfl) (mcells mm va xv D.f) 70 Hb6.out [vx] (own_cell1 HG.out.x) 1 rfl size_strs (by show 2 + 1 ≤ 4; omega) (own_one1 HG.out.x) (mcells mm va vx D.f) rfl ?_
           intro w7 hb7 hg7
           have Hb7 := Lib.hid hb7
           have Hg7 := Lib.hid hg7
           clear hb7 hg7))
      refine NoPanic.normal ?_
      go_wp2
      go_end0
      exact ⟨rfl, mdl_write_end Hh.out hk hx HG.out Hb7.out Hg6.out Hg7.out⟩
  · simp only [List.getElem_toArray, List.getElem_cons_succ, List.getElem_cons_zero]
    refine opE_run (by rfl) (exec_build 68 _ (by rfl) (by rfl) (build_str x _)) ?_
    have G1 := G0.alloc (.cells #[str x] 9)
    refine ⟨by rw [HS.out]; exact G1.c, ?_⟩
    simp only [Act.put, List.getElem_toArray, List.getElem_cons_succ, List.getElem_cons_zero, List.setIfInBounds_toArray, List.set_cons_zero, List.set_cons_succ]
    refine anyI_one 7 (by kernel_rfl) rfl ?_
    simp only [List.getElem_toArray, List.getElem_cons_succ, List.getElem_cons_zero]
    refine opE_run (by rfl) (exec_build 22 _ (by rfl) (by rfl) (build_int (k : Int) _)) ?_
    have G2 := G1.alloc (.cells #[.int .i64 (k : Int)] 3)
    refine ⟨by rw [HS.out]; exact G2.c, ?_⟩
    simp only [Act.put, List.getElem_toArray, List.getElem_cons_succ, List.getElem_cons_zero, List.setIfInBounds_toArray, List.set_cons_zero, List.set_cons_succ]
    refine anyI_one 8 (by kernel_rfl) rfl ?_
    obtain ⟨va, wa, hra, Ga, hga⟩ := G2.pushA 22 22 _ 8 Try.underlying22 info_int rfl (w.drew.alloc (.cells #[str x] 9)).heap.size (.int .i64 (k : Int)) (hp_new _ _ _ rfl) rfl (by omega) (by omega) hB
    simp only [List.getElem_toArray, List.getElem_cons_succ, List.getElem_cons_zero]
    refine opE_run (by rfl) (exec_append 22 _ _ (by rfl) (by rfl) (by rfl) hra) ?_
    refine ⟨by rw [HS.out]; exact Ga.c, ?_⟩
    simp only [Act.put, List.getElem_toArray, List.getElem_cons_succ, List.getElem_cons_zero, List.setIfInBounds_toArray, List.set_cons_zero, List.set_cons_succ]
    have hq : wa.heap[w.drew.heap.size]? = some (.cells #[str x] 9 (0, 0)) := (hga.block _ (by simp; omega) fun e => by have := (Hlt.out _ (.inr (.inr (.inl e.symm)))).2; exact absurd this (by simp)).trans ((hp_old _ _ _ (by simp)).trans (hp_new _ _ _ rfl))
    refine anyI_one 16 (by kernel_rfl) rfl ?_
    obtain ⟨vx, wx, hrx, Gx, hgx⟩ := Ga.pushX 68 68 _ 16 Try.underlying68 info_str rfl w.drew.heap.size (str x) hq rfl (by omega) (by omega) hB
    simp only [List.getElem_toArray, List.getElem_cons_succ, List.getElem_cons_zero]
    refine opE_run (by rfl) (exec_append 68 _ _ (by rfl) (by rfl) (by rfl) hrx) ?_
    refine ⟨by rw [HS.out]; exact Gx.c, ?_⟩
    simp only [Act.put, List.getElem_toArray, List.getElem_cons_succ, List.getElem_cons_zero, List.setIfInBounds_toArray, List.set_cons_zero, List.set_cons_succ]
    clear hq
    clear hra hrx hga hgx
    have HG := Lib.hid Gx
    generalize wx = w5 at HG ⊢
    clear Gx
    refine anyI_tail (by kernel_rfl) ?_
    simp only [List.drop_succ_cons, List.drop_zero]
    have Hb0 := Lib.hid (show w5.heap[mb]? = some (.cells (mcells mm av xv D.f).toArray 70 (0, 0)) from (HG.out.stays (Hlt.out _ (.inl rfl)).2 Hh.out.n2 Hh.out.n4).trans Hh.out.blk)
    go_wp2_with (first
      | (refine wpList_store_blk rfl 22 _ _ (by rfl) mb 1 va (by rfl) (by rfl) (mcells mm av xv D.f) 70 Hb0.out [va] (own_cell1 HG.out.a) 1 rfl size_ints (by show 1 + 1 ≤ 4; omega) (own_one1 HG.out.a) (mcells mm va xv D.f) rfl ?_
         intro w6 hb6 hg6
         have Hb6 := Lib.hid hb6
         have Hg6 := Lib.hid hg6
         clear hb6 hg6)
      | (refine wpList_store_blk rfl 68 _ _ (by rfl) mb 2 vx (by rfl) (by rfl) (mcells mm va xv D.f) 70 Hb6.out [vx] (own_cell1 HG.out.x) 1 rfl size_strs (by show 2 + 1 ≤ 4; omega) (own_one1 HG.out.x) (mcells mm va vx D.f) rfl ?_
         intro w7 hb7 hg7
         have Hb7 := Lib.hid hb7
         have Hg7 := Lib.hid hg7
         clear hb7 hg7))
    refine NoPanic.normal ?_
    go_wp2
    go_end0
    exact ⟨rfl, mdl_write_end Hh.out hk hx HG.out Hb7.out Hg6.out Hg7.out⟩
end Go.Proofs.Ytpiilfgikgkneaa
set_option linter.unusedSimpArgs false
namespace Go.Proofs.Ytpiilfgikgkneaa
open Go.RowKit

theorem Grow.trans {e1 e2 : TypeId} {w0 w w' : World} {B : Nat} {a0 x0 a1 x1 a2 x2 : Value} {n1 m1 n2 m2 : Nat} {xs ys xs2 ys2 : List Value} (h : Grow e1 e2 w0 w B a0 x0 a1 x1 n1 m1 xs ys) (k : Grow e1 e2 w w' B a1 x1 a2 x2 n2 m2 xs2 ys2) :
    Grow e1 e2 w0 w' B a0 x0 a2 x2 n2 m2 xs2 ys2 :=
  ⟨k.a, k.x, k.d, h.c.trans k.c fun i hi e => (by
    rcases e with e | e
    · exact (h.ea i e).elim .inl fun h => by omega
    · exact (h.ex i e).elim .inr fun h => by omega), fun j e => (k.ea j e).elim (h.ea j) fun h1 => .inr (Nat.le_trans h.c.size h1), fun j e => (k.ex j e).elim (h.ex j) fun h1 => .inr (Nat.le_trans h.c.size h1)⟩
/-- The pending writes that stay. -/
def stayW (k : Nat) (ps : List (Nat × List UInt8)) : List (Nat × List UInt8) := ps.filter fun p => decide (p.1 ≠ k)
theorem stayW_yes {k : Nat} {ps : List (Nat × List UInt8)} {p : Nat × List UInt8} (h : p.1 ≠ k) : stayW k (ps ++ [p]) = stayW k ps ++ [p] := by
  unfold stayW; rw [List.filter_append, List.filter_cons_of_pos (by simpa using h)]; rfl
theorem stayW_no {k : Nat} {ps : List (Nat × List UInt8)} {p : Nat × List UInt8} (h : p.1 = k) : stayW k (ps ++ [p]) = stayW k ps := by
  unfold stayW; rw [List.filter_append, List.filter_cons_of_neg (by simpa using h)]; simp
theorem stayW_len (k : Nat) (ps : List (Nat × List UInt8)) (i : Nat) : (stayW k (ps.take i)).length ≤ ps.length :=
  Nat.le_trans (List.length_filter_le _ _) (by rw [List.length_take]; omega)
def atsV (ps : List (Nat × List UInt8)) : List Value := ps.map fun p => Value.int .i64 (p.1 : Int)
def xsV (ps : List (Nat × List UInt8)) : List Value := ps.map fun p => str p.2
theorem atsV_snoc (ps : List (Nat × List UInt8)) (p : Nat × List UInt8) : atsV (ps ++ [p]) = atsV ps ++ [.int .i64 (p.1 : Int)] := by unfold atsV; simp
theorem xsV_snoc (ps : List (Nat × List UInt8)) (p : Nat × List UInt8) : xsV (ps ++ [p]) = xsV ps ++ [str p.2] := by unfold xsV; simp
abbrev nilV : Value := .slice none 0 0
theorem mdl_damage_end {w wr w6 w7 w8 : World} {B mb mm n : Nat} {av xv va vx : Value} {D : Dsk} {F : Int → Option (List UInt8)} (h : MdlAt w B mb mm n av xv D F) {k : Nat} (hk : k < 52) {x : List UInt8} (hx : x.length = 32)
    (hG : Grow 3 9 w wr B nilV nilV va vx (stayW k D.ps).length (stayW k D.ps).length (atsV (stayW k D.ps)) (xsV (stayW k D.ps)))
    (hb7 : w7.heap[mb]? = some (.cells (mcells mm va vx D.f).toArray 70 (0, 0))) (hg6 : wr.grownBy w6 (some mb)) (hg7 : w6.grownBy w7 (some mb)) (hm8 : MapS w8 mm (n + 1) (putF F (k : Int) x)) (hg8 : w7.grownBy w8 (some mm)) : MdlTo w w8 B mb mm n av xv 1 (D.damage k x) := by
  have hc7 : Chg (fun x => x = mb) wr w7 := ((chg_grown hg6).trans (chg_grown hg7) fun _ _ e => e).mono fun _ _ e => by injection e with e; exact e.symm
  have hc8 : Chg (fun x => x = mm) w7 w8 := (chg_grown hg8).mono fun _ _ e => by injection e with e; exact e.symm
  have h78 : Chg (fun x => x = mb ∨ x = mm) wr w8 := (hc7.mono fun _ _ e => .inl e).trans hc8 fun _ _ e => .inr e
  have hcw : Chg (MF mb mm av xv) w wr := hG.c.mono fun _ _ e => e.elim (fun e => by simp [Value.ownBlock] at e) (fun e => by simp [Value.ownBlock] at e)
  have hc : Chg (MF mb mm av xv) w w8 := hcw.trans h78 fun _ _ e => e.elim .inl fun e => .inr (.inl e)
  have lmb := (h.lt (.inl rfl)).2
  have lmm := (h.lt (.inr (.inl rfl))).2
  have hna : ∀ j, va.ownBlock = some j → w.heap.size ≤ j := fun j e => (hG.ea j e).elim (fun e => by simp [Value.ownBlock] at e) id
  have hnx : ∀ j, vx.ownBlock = some j → w.heap.size ≤ j := fun j e => (hG.ex j e).elim (fun e => by simp [Value.ownBlock] at e) id
  refine ⟨mm, n + 1, va, vx, _, ⟨(hc8.block mb (Array.getElem?_eq_some_iff.1 hb7).1 fun e => h.n1 e.symm).trans hb7, hm8, ?_, ?_, h.le, h.n1, fun e => by have := hna _ e; omega, fun e => by have := hna _ e; omega, fun e => by have := hnx _ e; omega, fun e => by have := hnx _ e; omega, hG.d, fun j hj => ?_, fun j y hy => ?_, h.ok.damage hk hx⟩, Nat.le_refl _, hc, fun j hj => ?_⟩
  · exact own_chg hG.a h78 fun j hj e => by have := hna j hj; omega
  · exact own_chg hG.x h78 fun j hj e => by have := hnx j hj; omega
  · show secAt (putAt D.S k x) j = _
    unfold putF
    by_cases e : j = k
    · subst e
      rw [if_pos rfl, sec_put_same h.ok.S hj hx]
      rfl
    · rw [if_neg (by omega), sec_put_other h.ok.S hk hx e]
      exact h.sec j hj
  · unfold putF at hy
    split at hy
    · injection hy with hy; subst hy; exact hx
    · exact h.len j y hy
  · rcases hj with e | e | e | e
    · exact .inl (.inl e)
    · exact .inl (.inr (.inl e))
    · exact .inr (hna j e)
    · exact .inr (hnx j e)
set_option maxRecDepth 100000 in
set_option maxHeartbeats 1600000 in
theorem mdl_damage_any (B mb mm n : Nat) (av xv : Value) (D : Dsk) (F : Int → Option (List UInt8)) (w : World) (h : MdlAt w B mb mm n av xv D F) (hps : D.ps.length ≤ 1000000) (hn : n < 1000000) (hB : B ≤ w.heap.size)
    (k : Nat) (hk : k < 52) (x : List UInt8) (hx : x.length = 32) (A : Option Addr) (c : Nat) (hr : RdB w w.heap.size A x) (hA : ∀ a, A = some a → a.block < w.heap.size ∧ a.block ≠ mb) :
    Calls Try.prog 32 #[.pointer (some ⟨mb, 0, none⟩), .int .i64 (k : Int), .slice A 32 c] w fun e w' => e = .returned (.tuple #[]) ∧ MdlTo w w' B mb mm n av xv 1 (D.damage k x) := by
  have Hh := Lib.hid h
  have hc1 := h.cell 1 av rfl
  obtain ⟨Aa, ca, rfl, hca, Hga⟩ := own_form h.ats
  obtain ⟨Ax, cx, rfl, hcx, Hgx⟩ := own_form h.xs
  have Hr := Lib.hid hr
  have HA := Lib.hid hA
  clear h hr hA
  go_enter Try.func32, Try.ntmps32
  go_wp2
  go_loopw [6, 7, 15] (fun sa sx si wr => ∃ (i : Nat) (va vx : Value), i ≤ D.ps.length ∧ si = .int .i64 i ∧ va = sa ∧ vx = sx ∧ Grow 3 9 w wr B nilV nilV va vx (stayW k (D.ps.take i)).length (stayW k (D.ps.take i)).length (atsV (stayW k (D.ps.take i))) (xsV (stayW k (D.ps.take i)))) (fun _ _ si _ => D.ps.length - (intOf si).toNat)
  case atStart => exact ⟨0, _, _, Nat.zero_le _, rfl, rfl, rfl, Grow.start (World.ownsRow_nil _ _ _ _) (World.ownsRow_nil _ _ _ _) fun k h => by simp [Value.ownBlock] at h⟩
  case round =>
    obtain ⟨i, va, vx, hi, rfl, rfl, rfl, hG⟩ := hrel
    have HG := Lib.hid hG
    have hM : MdlAt wr B mb mm n (.slice Aa D.ps.length ca) (.slice Ax D.ps.length cx) D F := Hh.out.chg hG.c fun j _ e => e.elim (fun e => by simp [Value.ownBlock] at e) (fun e => by simp [Value.ownBlock] at e)
    have HM := Lib.hid hM
    clear hc1
    by_cases hlt : i < D.ps.length
    · obtain ⟨ga, rfl, _⟩ := Hga (by omega)
      obtain ⟨gx, rfl, _⟩ := Hgx (by omega)
      have h1 := own_cell_at hM.ats i (by simpa using hlt)
      have h2 := own_cell_at hM.xs i (by simpa using hlt)
      have hpm : D.ps.getD i (0, []) ∈ D.ps := by simp [hlt]
      have hok := Hh.out.ok.ps _ hpm
      have hp : D.ps[i]? = some (D.ps.getD i (0, [])) := by simp [hlt]
      have hs := take_getD_succ hlt
      have hls := stayW_len k D.ps i
      rw [List.getElem?_map, hp] at h1 h2
      generalize D.ps.getD i (0, []) = p at h1 h2 hs hok
      simp only [Option.map_some] at h1 h2
      have i0 : (0 : Int) ≤ (i : Int) := by omega
      have i1 : (i : Int) < (D.ps.length : Int) := by omega
      have hn2 : IntKind.i64.wrap ((i : Int) + 1) = (i : Int) + 1 := by rw [IntKind.wrap_i64]; omega
      have Hs := Lib.hid hs
      clear hpm hp hs hM hG
      by_cases he : p.1 = k
      · have e1 : ((p.1 : Int) != (k : Int)) = false := by rw [he]; simp
        have e2 : ((p.1 : Int) == (k : Int)) = true := by rw [he]; simp
        have Hk := Lib.hid (show stayW k (D.ps.take (i + 1)) = stayW k (D.ps.take i) by rw [Hs.out, stayW_no he])
        clear he Hs h2 hok
        go_wp2
        go_roundw
        case rel => exact ⟨i + 1, _, _, by omega, by go_num, rfl, rfl, by rw [Hk.out]; exact HG.out⟩
        case measure => simp [intOf]; omega
      · have e1 : ((p.1 : Int) != (k : Int)) = true := by rw [bne_iff_ne]; omega
        have e2 : ((p.1 : Int) == (k : Int)) = false := by rw [beq_eq_false_iff_ne]; omega
        have Hk := Lib.hid (show stayW k (D.ps.take (i + 1)) = stayW k (D.ps.take i) ++ [p] by rw [Hs.out, stayW_yes he])
        have hNa : ∀ j, va.ownBlock = some j → w.heap.size ≤ j := fun j e => (HG.out.ea j e).elim (fun e => by simp [Value.ownBlock] at e) id
        have hNx : ∀ j, vx.ownBlock = some j → w.heap.size ≤ j := fun j e => (HG.out.ex j e).elim (fun e => by simp [Value.ownBlock] at e) id
        obtain ⟨S, hS⟩ : ∃ S : World → Prop, S = Chg (fun k => va.ownBlock = some k ∨ vx.ownBlock = some k) wr := ⟨_, rfl⟩
        have HS := Lib.hid hS
        have hst : ∀ W, S W → ∀ j, j < w.heap.size → W.heap[j]? = wr.heap[j]? := fun W hW j hj => by
          rw [hS] at hW
          exact hW.block j (Nat.lt_of_lt_of_le hj HG.out.c.size) fun e => e.elim (fun e => by have := hNa j e; omega) fun e => by have := hNx j e; omega
        have HL2 := Lib.hid (fun W hW => (World.cell?_of_block (a := ⟨mb, 2, none⟩) (hst W hW mb (Hh.out.lt (.inl rfl)).2)).trans (HM.out.cell 2 _ rfl) : ∀ W, S W → W.cell? ⟨mb, 2, none⟩ = some (.slice (some ⟨gx, 0, none⟩) D.ps.length cx))
        have HLx := Lib.hid (fun W hW => (World.cell?_of_block (a := ⟨gx, i, none⟩) (hst W hW gx (Hh.out.lt (.inr (.inr (.inr rfl)))).2)).trans h2 : ∀ W, S W → W.cell? ⟨gx, i, none⟩ = some (str p.2))
        have HS0 : Hid (S wr.drew) := Lib.hid (by rw [hS]; exact (Chg.refl _ wr).drewN 1)
        have HG0 := Lib.hid ((Grow.start HG.out.a HG.out.x HG.out.d).drew : Grow 3 9 wr wr.drew B va vx va vx _ _ _ _)
        have HBr := Lib.hid (Nat.le_trans hB HG.out.c.size)
        have Hlta := Lib.hid (fun j hj => (HG.out.a.lt j hj).2)
        have Hltx := Lib.hid (fun j hj => (HG.out.x.lt j hj).2)
        clear he Hs hst hS hNa hNx h2
        go_wp2
        refine wp_region_noPanic (region_ord 14 [] S (by kernel_rfl) (by kernel_rfl) (fun _ _ _ _ _ h => h) fun R => ?_)
        change anyI _ _ _ _ _ _ 16 _ _ wr.drew
        refine anyI_take R 0 rfl (v := va) (by kernel_rfl) (by rfl) (fun W hW => by go_simp) HS0.out ?_
        simp only [Act.put, List.getElem_toArray, List.getElem_cons_succ, List.getElem_cons_zero, List.setIfInBounds_toArray, List.set_cons_zero, List.set_cons_succ]
        refine anyI_take R 1 rfl (v := (.int .i64 (p.1 : Int))) (by kernel_rfl) (by rfl) (fun W hW => by go_simp) HS0.out ?_
        simp only [Act.put, List.getElem_toArray, List.getElem_cons_succ, List.getElem_cons_zero, List.setIfInBounds_toArray, List.set_cons_zero, List.set_cons_succ]
        refine anyI_take R 4 rfl (v := vx) (by kernel_rfl) (by rfl) (fun W hW => by go_simp) HS0.out ?_
        simp only [Act.put, List.getElem_toArray, List.getElem_cons_succ, List.getElem_cons_zero, List.setIfInBounds_toArray, List.set_cons_zero, List.set_cons_succ]
        refine anyI_take R 5 rfl (v := (.pointer (some ⟨mb, 0, none⟩))) (by kernel_rfl) (by rfl) (fun W hW => by go_simp) HS0.out ?_
        simp only [Act.put, List.getElem_toArray, List.getElem_cons_succ, List.getElem_cons_zero, List.setIfInBounds_toArray, List.set_cons_zero, List.set_cons_succ]
        refine anyI_take R 6 rfl (v := (.pointer (some ⟨mb, 0, none⟩))) (by kernel_rfl) (by rfl) (fun W hW => by go_simp) HS0.out ?_
        simp only [Act.put, List.getElem_toArray, List.getElem_cons_succ, List.getElem_cons_zero, List.setIfInBounds_toArray, List.set_cons_zero, List.set_cons_succ]
        refine anyI_take R 7 rfl (v := (.pointer (some ⟨mb, 2, none⟩))) (by kernel_rfl) (by rfl) (fun W hW => by go_simp) HS0.out ?_
        simp only [Act.put, List.getElem_toArray, List.getElem_cons_succ, List.getElem_cons_zero, List.setIfInBounds_toArray, List.set_cons_zero, List.set_cons_succ]
        refine anyI_take R 8 rfl (v := (.slice (some ⟨gx, 0, none⟩) D.ps.length cx)) (by kernel_rfl) (by rfl) (fun W hW => by have hc := HL2.out W hW; go_simp) HS0.out ?_
        simp only [Act.put, List.getElem_toArray, List.getElem_cons_succ, List.getElem_cons_zero, List.setIfInBounds_toArray, List.set_cons_zero, List.set_cons_succ]
        refine anyI_take R 9 rfl (v := (.int .i64 (i : Int))) (by kernel_rfl) (by rfl) (fun W hW => by go_simp) HS0.out ?_
        simp only [Act.put, List.getElem_toArray, List.getElem_cons_succ, List.getElem_cons_zero, List.setIfInBounds_toArray, List.set_cons_zero, List.set_cons_succ]
        refine anyI_take R 10 rfl (v := (.pointer (some ⟨gx, i, none⟩))) (by kernel_rfl) (by rfl) (fun W hW => by go_simp) HS0.out ?_
        simp only [Act.put, List.getElem_toArray, List.getElem_cons_succ, List.getElem_cons_zero, List.setIfInBounds_toArray, List.set_cons_zero, List.set_cons_succ]
        refine anyI_take R 11 rfl (v := (str p.2)) (by kernel_rfl) (by rfl) (fun W hW => by have hc := HLx.out W hW; go_simp) HS0.out ?_
        simp only [Act.put, List.getElem_toArray, List.getElem_cons_succ, List.getElem_cons_zero, List.setIfInBounds_toArray, List.set_cons_zero, List.set_cons_succ]
        have G0 := HG0.out
        refine anyI_two 2 12 (by kernel_rfl) rfl rfl ?_ ?_
        · simp only [List.getElem_toArray, List.getElem_cons_succ, List.getElem_cons_zero]
          refine opE_run (by rfl) (exec_build 22 _ (by rfl) (by rfl) (build_int (p.1 : Int) _)) ?_
          have G1 := G0.alloc (.cells #[.int .i64 (p.1 : Int)] 3)
          refine ⟨by rw [HS.out]; exact G1.c, ?_⟩
          simp only [Act.put, List.getElem_toArray, List.getElem_cons_succ, List.getElem_cons_zero, List.setIfInBounds_toArray, List.set_cons_zero, List.set_cons_succ]
          refine anyI_two 3 12 (by kernel_rfl) rfl rfl ?_ ?_
          · obtain ⟨va2, wa, hra, Ga, hga⟩ := G1.pushA 22 22 _ 8 Try.underlying22 info_int rfl wr.drew.heap.size (.int .i64 (p.1 : Int)) (hp_new _ _ _ rfl) rfl (by omega) (by omega) HBr.out
            simp only [List.getElem_toArray, List.getElem_cons_succ, List.getElem_cons_zero]
            refine opE_run (by rfl) (exec_append 22 _ _ (by rfl) (by rfl) (by rfl) hra) ?_
            refine ⟨by rw [HS.out]; exact Ga.c, ?_⟩
            simp only [Act.put, List.getElem_toArray, List.getElem_cons_succ, List.getElem_cons_zero, List.setIfInBounds_toArray, List.set_cons_zero, List.set_cons_succ]
            refine anyI_one 12 (by kernel_rfl) rfl ?_
            simp only [List.getElem_toArray, List.getElem_cons_succ, List.getElem_cons_zero]
            refine opE_run (by rfl) (exec_build 68 _ (by rfl) (by rfl) (build_str p.2 _)) ?_
            have G2 := Ga.alloc (.cells #[str p.2] 9)
            refine ⟨by rw [HS.out]; exact G2.c, ?_⟩
            simp only [Act.put, List.getElem_toArray, List.getElem_cons_succ, List.getElem_cons_zero, List.setIfInBounds_toArray, List.set_cons_zero, List.set_cons_succ]
            refine anyI_one 13 (by kernel_rfl) rfl ?_
            obtain ⟨vx2, wx, hrx, Gx, hgx⟩ := G2.pushX 68 68 _ 16 Try.underlying68 info_str rfl wa.heap.size (str p.2) (hp_new _ _ _ rfl) rfl (by omega) (by omega) HBr.out
            simp only [List.getElem_toArray, List.getElem_cons_succ, List.getElem_cons_zero]
            refine opE_run (by rfl) (exec_append 68 _ _ (by rfl) (by rfl) (by rfl) hrx) ?_
            refine ⟨by rw [HS.out]; exact Gx.c, ?_⟩
            simp only [Act.put, List.getElem_toArray, List.getElem_cons_succ, List.getElem_cons_zero, List.setIfInBounds_toArray, List.set_cons_zero, List.set_cons_succ]
            clear hra hrx hga hgx
            have HG5 := Lib.hid Gx
            generalize wx = w5 at HG5 ⊢
            clear Gx
            refine anyI_tail (by kernel_rfl) ?_
            simp only [List.drop_succ_cons, List.drop_zero]
            go_wp2
            refine NoPanic.normal ?_
            go_wp2
            go_roundw
            case rel => exact ⟨i + 1, _, _, by omega, by go_num, rfl, rfl, by rw [Hk.out, atsV_snoc, xsV_snoc, List.length_append]; exact HG.out.trans HG5.out⟩
            case measure => simp [intOf]; omega
          · simp only [List.getElem_toArray, List.getElem_cons_succ, List.getElem_cons_zero]
            refine opE_run (by rfl) (exec_build 68 _ (by rfl) (by rfl) (build_str p.2 _)) ?_
            have G2 := G1.alloc (.cells #[str p.2] 9)
            refine ⟨by rw [HS.out]; exact G2.c, ?_⟩
            simp only [Act.put, List.getElem_toArray, List.getElem_cons_succ, List.getElem_cons_zero, List.setIfInBounds_toArray, List.set_cons_zero, List.set_cons_succ]
            refine anyI_one 3 (by kernel_rfl) rfl ?_
            obtain ⟨va2, wa, hra, Ga, hga⟩ := G2.pushA 22 22 _ 8 Try.underlying22 info_int rfl wr.drew.heap.size (.int .i64 (p.1 : Int)) ((hp_old _ _ _ (by simp)).trans (hp_new _ _ _ rfl)) rfl (by omega) (by omega) HBr.out
            simp only [List.getElem_toArray, List.getElem_cons_succ, List.getElem_cons_zero]
            refine opE_run (by rfl) (exec_append 22 _ _ (by rfl) (by rfl) (by rfl) hra) ?_
            refine ⟨by rw [HS.out]; exact Ga.c, ?_⟩
            simp only [Act.put, List.getElem_toArray, List.getElem_cons_succ, List.getElem_cons_zero, List.setIfInBounds_toArray, List.set_cons_zero, List.set_cons_succ]
            have hq : wa.heap[(wr.drew.alloc (.cells #[.int .i64 (p.1 : Int)] 3)).heap.size]? = some (.cells #[str p.2] 9 (0, 0)) := (hga.block _ (by simp) fun e => by have := Hlta.out _ e.symm; exact absurd this (by simp)).trans (hp_new _ _ _ rfl)
            refine anyI_one 13 (by kernel_rfl) rfl ?_
            obtain ⟨vx2, wx, hrx, Gx, hgx⟩ := Ga.pushX 68 68 _ 16 Try.underlying68 info_str rfl (wr.drew.alloc (.cells #[.int .i64 (p.1 : Int)] 3)).heap.size (str p.2) hq rfl (by omega) (by omega) HBr.out
            simp only [List.getElem_toArray, List.getElem_cons_succ, List.getElem_cons_zero]
            refine opE_run (by rfl) (exec_append 68 _ _ (by rfl) (by rfl) (by rfl) hrx) ?_
            refine ⟨by rw [HS.out]; exact Gx.c, ?_⟩
            simp only [Act.put, List.getElem_toArray, List.getElem_cons_succ, List.getElem_cons_zero, List.setIfInBounds_toArray, List.set_cons_zero, List.set_cons_succ]
            clear hq
            clear hra hrx hga hgx
            have HG5 := Lib.hid Gx
            generalize wx = w5 at HG5 ⊢
            clear Gx
            refine anyI_tail (by kernel_rfl) ?_
            simp only [List.drop_succ_cons, List.drop_zero]
            go_wp2
            refine NoPanic.normal ?_
            go_wp2
            go_roundw
            case rel => exact ⟨i + 1, _, _, by omega, by go_num, rfl, rfl, by rw [Hk.out, atsV_snoc, xsV_snoc, List.length_append]; exact HG.out.trans HG5.out⟩
            case measure => simp [intOf]; omega
        · simp only [List.getElem_toArray, List.getElem_cons_succ, List.getElem_cons_zero]
          refine opE_run (by rfl) (exec_build 68 _ (by rfl) (by rfl) (build_str p.2 _)) ?_
          have G1 := G0.alloc (.cells #[str p.2] 9)
          refine ⟨by rw [HS.out]; exact G1.c, ?_⟩
          simp only [Act.put, List.getElem_toArray, List.getElem_cons_succ, List.getElem_cons_zero, List.setIfInBounds_toArray, List.set_cons_zero, List.set_cons_succ]
          refine anyI_one 2 (by kernel_rfl) rfl ?_
          simp only [List.getElem_toArray, List.getElem_cons_succ, List.getElem_cons_zero]
          refine opE_run (by rfl) (exec_build 22 _ (by rfl) (by rfl) (build_int (p.1 : Int) _)) ?_
          have G2 := G1.alloc (.cells #[.int .i64 (p.1 : Int)] 3)
          refine ⟨by rw [HS.out]; exact G2.c, ?_⟩
          simp only [Act.put, List.getElem_toArray, List.getElem_cons_succ, List.getElem_cons_zero, List.setIfInBounds_toArray, List.set_cons_zero, List.set_cons_succ]
          refine anyI_one 3 (by kernel_rfl) rfl ?_
          obtain ⟨va2, wa, hra, Ga, hga⟩ := G2.pushA 22 22 _ 8 Try.underlying22 info_int rfl (wr.drew.alloc (.cells #[str p.2] 9)).heap.size (.int .i64 (p.1 : Int)) (hp_new _ _ _ rfl) rfl (by omega) (by omega) HBr.out
          simp only [List.getElem_toArray, List.getElem_cons_succ, List.getElem_cons_zero]
          refine opE_run (by rfl) (exec_append 22 _ _ (by rfl) (by rfl) (by rfl) hra) ?_
          refine ⟨by rw [HS.out]; exact Ga.c, ?_⟩
          simp only [Act.put, List.getElem_toArray, List.getElem_cons_succ, List.getElem_cons_zero, List.setIfInBounds_toArray, List.set_cons_zero, List.set_cons_succ]
          have hq : wa.heap[wr.drew.heap.size]? = some (.cells #[str p.2] 9 (0, 0)) := (hga.block _ (by simp; omega) fun e => by have := Hlta.out _ e.symm; exact absurd this (by simp)).trans ((hp_old _ _ _ (by simp)).trans (hp_new _ _ _ rfl))
          refine anyI_one 13 (by kernel_rfl) rfl ?_
          obtain ⟨vx2, wx, hrx, Gx, hgx⟩ := Ga.pushX 68 68 _ 16 Try.underlying68 info_str rfl wr.drew.heap.size (str p.2) hq rfl (by omega) (by omega) HBr.out
          simp only [List.getElem_toArray, List.getElem_cons_succ, List.getElem_cons_zero]
          refine opE_run (by rfl) (exec_append 68 _ _ (by rfl) (by rfl) (by rfl) hrx) ?_
          refine ⟨by rw [HS.out]; exact Gx.c, ?_⟩
          simp only [Act.put, List.getElem_toArray, List.getElem_cons_succ, List.getElem_cons_zero, List.setIfInBounds_toArray, List.set_cons_zero, List.set_cons_succ]
          clear hq
          clear hra hrx hga hgx
          have HG5 := Lib.hid Gx
          generalize wx = w5 at HG5 ⊢
          clear Gx
          refine anyI_tail (by kernel_rfl) ?_
          simp only [List.drop_succ_cons, List.drop_zero]
          go_wp2
          refine NoPanic.normal ?_
          go_wp2
          go_roundw
          case rel => exact ⟨i + 1, _, _, by omega, by go_num, rfl, rfl, by rw [Hk.out, atsV_snoc, xsV_snoc, List.length_append]; exact HG.out.trans HG5.out⟩
          case measure => simp [intOf]; omega
    · obtain rfl : i = D.ps.length := by omega
      rw [List.take_length] at HG
      have Hb0 := Lib.hid HM.out.blk
      clear hG hM
      go_wp2_with (first
        | (refine wpList_store_blk rfl 22 _ _ (by rfl) mb 1 va (by rfl) (by rfl) (mcells mm (.slice Aa D.ps.length ca) (.slice Ax D.ps.length cx) D.f) 70 Hb0.out [va] (own_cell1 HG.out.a) 1 rfl size_ints (by show 1 + 1 ≤ 4; omega) (own_one1 HG.out.a) (mcells mm va (.slice Ax D.ps.length cx) D.f) rfl ?_
           intro w6 hb6 hg6
           have Hb6 := Lib.hid hb6
           have Hg6 := Lib.hid hg6
           clear hb6 hg6)
        | (refine wpList_store_blk rfl 68 _ _ (by rfl) mb 2 vx (by rfl) (by rfl) (mcells mm va (.slice Ax D.ps.length cx) D.f) 70 Hb6.out [vx] (own_cell1 HG.out.x) 1 rfl size_strs (by show 2 + 1 ≤ 4; omega) (own_one1 HG.out.x) (mcells mm va vx D.f) rfl ?_
           intro w7 hb7 hg7
           have Hb7 := Lib.hid hb7
           have Hg7 := Lib.hid hg7
           clear hb7 hg7))
      have hc7 : Chg (fun x => x = mb) wr w7 := ((chg_grown Hg6.out).trans (chg_grown Hg7.out) fun _ _ e => e).mono fun _ _ e => by injection e with e; exact e.symm
      have hc0 : w7.drew.cell? ⟨mb, 0, none⟩ = some (.map (some mm)) := by rw [cell_of_row w7.drew mb 0 _ _ _ Hb7.out]; rfl
      have hm7 : MapS w7.drew mm n F := HM.out.map.heap (hc7.block mm HM.out.map.lt Hh.out.n1)
      obtain ⟨w8, hst, hm8, hg8⟩ := hm7.store hn (k : Int) x (by omega) (by omega)
      have hcv := conv_str A x 32 c w.heap.size w7.drew hx.symm (Hr.out.stays fun a ha => (hc7.block a.block (Nat.lt_of_lt_of_le (HA.out a ha).1 HG.out.c.size) (HA.out a ha).2).trans (HG.out.stays (HA.out a ha).1 (by simp [Value.ownBlock]) (by simp [Value.ownBlock])))
      have Hend := Lib.hid (mdl_damage_end Hh.out hk hx HG.out Hb7.out Hg6.out Hg7.out hm8 ⟨hg8.os, hg8.tape, hg8.output, hg8.size, hg8.block⟩)
      clear hm7 hm8 hg8 hc7
      refine wp_region_still_tail 7 (by kernel_rfl) (by kernel_rfl) ?_
      simp only [List.take_succ_cons, List.take_zero, List.drop_succ_cons, List.drop_zero]
      change wpStill _ _ w7.drew _ _ _
      repeat still_step
      refine wpStill_nil ?_
      change wpList _ _ _ _ _ w7.drew
      go_wp2
      go_end0
      exact ⟨rfl, Hend.out⟩
end Go.Proofs.Ytpiilfgikgkneaa
namespace Go.Proofs.Ytpiilfgikgkneaa
open Go.RowKit

structure MH where
  mb : Nat
  mm : Nat
  nn : Nat
  av : Value
  xv : Value
  F : Int → Option (List UInt8)
def MAt (w : World) (B : Nat) (h : MH) (D : Dsk) : Prop := MdlAt w B h.mb h.mm h.nn h.av h.xv D h.F
def MFt (h : MH) (k : Nat) : Prop := MF h.mb h.mm h.av h.xv k
/-- A row that holds these. -/
def RowF (w : World) (g n : Nat) (t : TypeId) (val : Nat → Value) : Prop := ∃ cs : List Value, w.heap[g]? = some (.cells cs.toArray t (0, 0)) ∧ n ≤ cs.length ∧ ∀ i, i < n → cs[i]? = some (val i)
theorem spl_get (l : List Value) {i : Nat} (x : Value) (hi : i < l.length) (j : Nat) : (spl l i [x])[j]? = if j = i then some x else l[j]? := by
  have hl : (l.take i).length = i := by rw [List.length_take]; omega
  unfold spl
  rw [List.append_assoc]
  by_cases hj : j < i
  · rw [if_neg (by omega), List.getElem?_append_left (by omega), List.getElem?_take, if_pos hj]
  · rw [List.getElem?_append_right (by omega), hl]
    by_cases e : j = i
    · subst e; rw [if_pos rfl, Nat.sub_self]; rfl
    · obtain ⟨k, hk⟩ : ∃ k, j - i = k + 1 := ⟨j - i - 1, by omega⟩
      rw [if_neg e, hk, List.cons_append, List.getElem?_cons_succ, List.nil_append, List.getElem?_drop]
      congr 1
      simp
      omega
section
variable {w w' : World} {g n : Nat} {t : TypeId} {val : Nat → Value}
theorem RowF.lt (h : RowF w g n t val) : g < w.heap.size := by obtain ⟨cs, hc, _⟩ := h; exact (Array.getElem?_eq_some_iff.1 hc).1
theorem RowF.heap (h : RowF w g n t val) (he : w'.heap[g]? = w.heap[g]?) : RowF w' g n t val := by obtain ⟨cs, hc, r⟩ := h; exact ⟨cs, he.trans hc, r⟩
theorem RowF.congr {val' : Nat → Value} (h : RowF w g n t val) (he : ∀ i, i < n → val' i = val i) : RowF w g n t val' := by obtain ⟨cs, hc, hl, hv⟩ := h; exact ⟨cs, hc, hl, fun i hi => by rw [he i hi]; exact hv i hi⟩
theorem RowF.cell (h : RowF w g n t val) {i : Nat} (hi : i < n) : w.cell? ⟨g, i, none⟩ = some (val i) := by
  obtain ⟨cs, hc, _, hv⟩ := h
  rw [cell_of_row w g i _ _ _ hc, List.getElem?_toArray]; exact hv i hi
end
/-- Whose the new blocks are. -/
def owN (ow : Nat → Nat) (w : World) (o : Nat) : Nat → Nat := fun k => if k < w.heap.size then ow k else o
theorem owN_old {ow : Nat → Nat} {w : World} {o k : Nat} (h : k < w.heap.size) : owN ow w o k = ow k := if_pos h
theorem owN_new {ow : Nat → Nat} {w : World} {o k : Nat} (h : w.heap.size ≤ k) : owN ow w o k = o := if_neg (by omega)
structure BYs (W w : World) (b : Nat) (H : BH) (N : Bch) (E : Nat → Dsk) (φ : Nat → Bool) (gm gf : Nat) (M : Nat → MH) (ow : Nat → Nat) (r g : Nat) (x : List UInt8) : Prop where
  p : BP W w b H N
  m : ∀ i, i < N.n → MAt w W.heap.size (M i) (E i)
  mr : RowF w gm N.n 49 fun i => ptr (M i).mb
  fr : RowF w gf N.n 4 fun i => .bool (φ i)
  le : W.heap.size ≤ gm ∧ W.heap.size ≤ gf
  o0 : ∀ k, BF b H N.n k → ow k = 0
  o1 : ow gm = 1
  o2 : ow gf = 2
  o3 : ∀ i, i < N.n → ∀ k, MFt (M i) k → ow k = 3 + i
  ln : ∀ i, i < N.n → (N.D i).ps.length ≤ r ∧ (E i).ps.length ≤ r ∧ (M i).nn ≤ 100 * r
  dn : N.done ≤ r
  xr : RdB w w.heap.size (some ⟨g, 0, none⟩) x
  xo : 0 < x.length → g < w.heap.size ∧ ow g = 100
/-- The bench N at b; the models E, in the row gm; what has failed, in the row gf; bytes x at g. -/
def BY (W w : World) (b : Nat) (N : Bch) (E : Nat → Dsk) (φ : Nat → Bool) (gm gf r g : Nat) (x : List UInt8) : Prop := ∃ H M ow, BYs W w b H N E φ gm gf M ow r g x
theorem RdB.at {w w' : World} {B B' g : Nat} {x : List UInt8} (h : RdB w B (some ⟨g, 0, none⟩) x) (hk : 0 < x.length → w'.heap[g]? = w.heap[g]?) (hB : B ≤ B') : RdB w' B' (some ⟨g, 0, none⟩) x := by
  rcases Nat.eq_zero_or_pos x.length with h0 | hp
  · obtain rfl := List.eq_nil_of_length_eq_zero h0; exact RdB.nil _ _ _
  · exact (h.stays fun a ha => by injection ha with ha; subst ha; exact hk hp).more hB
section
variable {W w w' : World} {b gm gf r g : Nat} {H : BH} {N N' : Bch} {E : Nat → Dsk} {φ : Nat → Bool} {M : Nat → MH} {ow : Nat → Nat} {x : List UInt8}
theorem BYs.n8 (h : BYs W w b H N E φ gm gf M ow r g x) : N.n ≤ 8 := h.p.at'.ok.n.2
theorem BYs.mlt (h : BYs W w b H N E φ gm gf M ow r g x) {i : Nat} (hi : i < N.n) {k : Nat} (hk : MFt (M i) k) : W.heap.size ≤ k ∧ k < w.heap.size := (h.m i hi).lt hk
/-- The bench has turned. -/
theorem BYs.benchM (h : BYs W w b H N E φ gm gf M ow r g x) (hn : N'.n = N.n) (hc : BC W w w' b H N.n N') (hl : ∀ i, i < N.n → (N'.D i).ps.length ≤ r + 1) (hd : N'.done ≤ r + 1) : ∃ H' ow', BYs W w' b H' N' E φ gm gf M ow' (r + 1) g x := by
  obtain ⟨H', hp, hg, hm⟩ := hc
  have keep : ∀ k, k < w.heap.size → ow k ≠ 0 → w'.heap[k]? = w.heap[k]? := fun k hk ho => hg.block k hk fun e => ho (h.o0 k e)
  refine ⟨H', owN ow w 0, hp, ?_, ?_, ?_, h.le, ?_, ?_, ?_, ?_, ?_, hd, ?_, ?_⟩
  · rw [hn]
    exact fun i hi => (h.m i hi).heap fun k hk => keep k (h.mlt hi hk).2 (by rw [h.o3 i hi k hk]; omega)
  · rw [hn]; exact h.mr.heap (keep gm h.mr.lt (by rw [h.o1]; omega))
  · rw [hn]; exact h.fr.heap (keep gf h.fr.lt (by rw [h.o2]; omega))
  · intro k hk
    rw [hn] at hk
    rcases hm k hk with e | e
    · rw [owN_old (h.p.at'.flt e).2]; exact h.o0 k e
    · exact owN_new e
  · rw [owN_old h.mr.lt]; exact h.o1
  · rw [owN_old h.fr.lt]; exact h.o2
  · rw [hn]; intro i hi k hk
    rw [owN_old (h.mlt hi hk).2]; exact h.o3 i hi k hk
  · rw [hn]; exact fun i hi => ⟨hl i hi, by have := h.ln i hi; omega⟩
  · exact h.xr.at (fun hp => keep g (h.xo hp).1 (by rw [(h.xo hp).2]; omega)) hg.size
  · exact fun hp => ⟨Nat.lt_of_lt_of_le (h.xo hp).1 hg.size, by rw [owN_old (h.xo hp).1]; exact (h.xo hp).2⟩
theorem BYs.bench (h : BYs W w b H N E φ gm gf M ow r g x) (hn : N'.n = N.n) (hc : BC W w w' b H N.n N') (hl : ∀ i, i < N.n → (N'.D i).ps.length ≤ r + 1) (hd : N'.done ≤ r + 1) : BY W w' b N' E φ gm gf (r + 1) g x := by
  obtain ⟨H', ow', h'⟩ := h.benchM hn hc hl hd
  exact ⟨H', M, ow', h'⟩
/-- A model has turned. -/
theorem BYs.modelR (h : BYs W w b H N E φ gm gf M ow r g x) {i k R : Nat} {X : Dsk} (hi : i < N.n) (hm : MdlTo w w' W.heap.size (M i).mb (M i).mm (M i).nn (M i).av (M i).xv k X) (hk : (M i).nn + k ≤ 100 * R) (hl : X.ps.length ≤ R) (hR : r ≤ R) : ∃ M' ow', BYs W w' b H N (upd E i X) φ gm gf M' ow' R g x ∧ ∀ t, t ≠ i → M' t = M t := by
  obtain ⟨mm', n', av', xv', F', hm', hn', hc, hnew⟩ := hm
  have h8 := h.n8
  have keep : ∀ k, k < w.heap.size → ow k ≠ 3 + i → w'.heap[k]? = w.heap[k]? := fun k hk ho => hc.block k hk fun e => ho (h.o3 i hi k e)
  have hM : ∀ j, j ≠ i → upd M i ⟨(M i).mb, mm', n', av', xv', F'⟩ j = M j := fun j hj => upd_other _ _ hj
  refine ⟨upd M i ⟨(M i).mb, mm', n', av', xv', F'⟩, owN ow w (3 + i), ⟨h.p.chg hc (fun k e => (h.mlt hi e).1) (fun k hk e => by have := h.o0 k hk; have := h.o3 i hi k e; omega), ?_, ?_, ?_, h.le, ?_, ?_, ?_, ?_, ?_, by have := h.dn; omega, ?_, ?_⟩, hM⟩
  · intro j hj
    by_cases e : j = i
    · subst e; rw [upd_same, upd_same]; exact hm'
    · rw [hM j e, upd_other _ _ e]
      exact (h.m j hj).heap fun k hk => keep k (h.mlt hj hk).2 (by rw [h.o3 j hj k hk]; omega)
  · refine (h.mr.heap (keep gm h.mr.lt (by rw [h.o1]; omega))).congr fun j _ => ?_
    by_cases e : j = i
    · subst e; rw [upd_same]
    · rw [hM j e]
  · exact h.fr.heap (keep gf h.fr.lt (by rw [h.o2]; omega))
  · intro k hk; rw [owN_old (h.p.at'.flt hk).2]; exact h.o0 k hk
  · rw [owN_old h.mr.lt]; exact h.o1
  · rw [owN_old h.fr.lt]; exact h.o2
  · intro j hj k hk
    by_cases e : j = i
    · subst e
      rw [upd_same] at hk
      rcases hnew k hk with e2 | e2
      · rw [owN_old (h.mlt hj e2).2]; exact h.o3 j hj k e2
      · exact owN_new e2
    · rw [hM j e] at hk
      rw [owN_old (h.mlt hj hk).2]; exact h.o3 j hj k hk
  · intro j hj
    have := h.ln j hj
    by_cases e : j = i
    · subst e; rw [upd_same, upd_same]
      exact ⟨by omega, hl, by show n' ≤ _; omega⟩
    · rw [hM j e, upd_other _ _ e]; omega
  · exact h.xr.at (fun hp => keep g (h.xo hp).1 (by rw [(h.xo hp).2]; omega)) hc.size
  · exact fun hp => ⟨Nat.lt_of_lt_of_le (h.xo hp).1 hc.size, by rw [owN_old (h.xo hp).1]; exact (h.xo hp).2⟩
theorem BYs.model (h : BYs W w b H N E φ gm gf M ow r g x) {i k : Nat} {X : Dsk} (hi : i < N.n) (hm : MdlTo w w' W.heap.size (M i).mb (M i).mm (M i).nn (M i).av (M i).xv k X) (hk : k ≤ 100) (hl : X.ps.length ≤ r + 1) : BY W w' b N (upd E i X) φ gm gf (r + 1) g x := by
  obtain ⟨M', ow', h', _⟩ := h.modelR hi hm (by have := h.ln i hi; omega) hl (Nat.le_succ r)
  exact ⟨H, M', ow', h'⟩
theorem BYs.grow (h : BYs W w b H N E φ gm gf M ow r g x) (hb : Below w.heap.size w w') : BYs W w' b H N E φ gm gf M ow r g x :=
  ⟨h.p.grow hb, fun i hi => (h.m i hi).below hb, h.mr.heap (hb.block _ h.mr.lt), h.fr.heap (hb.block _ h.fr.lt), h.le, h.o0, h.o1, h.o2, h.o3, h.ln, h.dn, h.xr.at (fun hp => hb.block g (h.xo hp).1) hb.size, fun hp => ⟨Nat.lt_of_lt_of_le (h.xo hp).1 hb.size, (h.xo hp).2⟩⟩
theorem BY.grow (h : BY W w b N E φ gm gf r g x) (hb : Below w.heap.size w w') : BY W w' b N E φ gm gf r g x := by
  obtain ⟨H, M, ow, h⟩ := h
  exact ⟨H, M, ow, h.grow hb⟩
theorem BY.more {r' : Nat} (h : BY W w b N E φ gm gf r g x) (hr : r ≤ r') : BY W w b N E φ gm gf r' g x := by
  obtain ⟨H, M, ow, h⟩ := h
  exact ⟨H, M, ow, h.p, h.m, h.mr, h.fr, h.le, h.o0, h.o1, h.o2, h.o3, fun i hi => by have := h.ln i hi; omega, Nat.le_trans h.dn hr, h.xr, h.xo⟩
theorem BY.drop (h : BY W w b N E φ gm gf r g x) : BY W w b N E φ gm gf r 0 [] := by
  obtain ⟨H, M, ow, h⟩ := h
  exact ⟨H, M, ow, h.p, h.m, h.mr, h.fr, h.le, h.o0, h.o1, h.o2, h.o3, h.ln, h.dn, RdB.nil _ _ _, fun hp => by simp at hp⟩
theorem BY.src {g' : Nat} {x' : List UInt8} (h : BY W w b N E φ gm gf r g x) (hb : Below w.heap.size w w') (hr : RdB w' w'.heap.size (some ⟨g', 0, none⟩) x') (hg : w.heap.size ≤ g' ∧ g' < w'.heap.size) : BY W w' b N E φ gm gf r g' x' := by
  obtain ⟨H, M, ow, h⟩ := h
  have k := h.grow hb
  refine ⟨H, M, owN ow w 100, k.p, k.m, k.mr, k.fr, k.le, fun j hj => ?_, ?_, ?_, fun i hi j hj => ?_, k.ln, k.dn, hr, fun _ => ⟨hg.2, owN_new hg.1⟩⟩
  · rw [owN_old (h.p.at'.flt hj).2]; exact h.o0 j hj
  · rw [owN_old h.mr.lt]; exact h.o1
  · rw [owN_old h.fr.lt]; exact h.o2
  · rw [owN_old (h.mlt hi hj).2]; exact h.o3 i hi j hj
theorem BY.cut (h : BY W w b N E φ gm gf r g x) (k : Nat) : BY W w b N E φ gm gf r g (x.take k) := by
  obtain ⟨H, M, ow, h⟩ := h
  exact ⟨H, M, ow, h.p, h.m, h.mr, h.fr, h.le, h.o0, h.o1, h.o2, h.o3, h.ln, h.dn, h.xr.take k, fun hp => h.xo (by rw [List.length_take] at hp; omega)⟩
/-- What has failed has turned. -/
theorem BYs.flag (h : BYs W w b H N E φ gm gf M ow r g x) {i : Nat} {v : Bool} {cs : List Value} (hcs : i < cs.length ∧ N.n ≤ cs.length ∧ ∀ j, j < N.n → cs[j]? = some (.bool (φ j))) (hr : w'.heap[gf]? = some (.cells (spl cs i [.bool v]).toArray 4 (0, 0))) (hg : w.grownBy w' (some gf)) :
    BYs W w' b H N E (upd φ i v) gm gf M ow r g x := by
  have hc := (chg_grown hg).mono (G := fun k => k = gf) fun i _ e => by injection e with e; exact e.symm
  have keep : ∀ k, k < w.heap.size → ow k ≠ 2 → w'.heap[k]? = w.heap[k]? := fun k hk ho => hc.block k hk fun e => ho (by rw [e]; exact h.o2)
  refine ⟨h.p.chg hc (fun k e => by rw [e]; exact h.le.2) (fun k hk e => by have := h.o0 k hk; rw [e, h.o2] at this; omega), fun j hj => (h.m j hj).heap fun k hk => keep k (h.mlt hj hk).2 (by rw [h.o3 j hj k hk]; omega), h.mr.heap (keep gm h.mr.lt (by rw [h.o1]; omega)),
    ⟨_, hr, by rw [spl_len (by simp; omega)]; exact hcs.2.1, fun j hj => ?_⟩, h.le, h.o0, h.o1, h.o2, h.o3, h.ln, h.dn, h.xr.at (fun hp => keep g (h.xo hp).1 (by rw [(h.xo hp).2]; omega)) hc.size, fun hp => ⟨Nat.lt_of_lt_of_le (h.xo hp).1 hc.size, (h.xo hp).2⟩⟩
  rw [spl_get _ _ hcs.1]
  dsimp only
  by_cases e : j = i
  · rw [if_pos e, e, upd_same]
  · rw [if_neg e, upd_other _ _ e]; exact hcs.2.2 j hj
/-- A new model in one's place. -/
theorem BYs.anew {w1 : World} {mb mm i : Nat} {cs : List Value} (h : BYs W w b H N E φ gm gf M ow r g x) (hi : i < N.n) (hb : Below w.heap.size w w1) (hm : MdlAt w1 w.heap.size mb mm 0 (.slice none 0 0) (.slice none 0 0) Dsk.new (fun _ => none)) (hcs : N.n ≤ cs.length ∧ ∀ j, j < N.n → cs[j]? = some (ptr (M j).mb))
    (hr : w'.heap[gm]? = some (.cells (spl cs i [ptr mb]).toArray 49 (0, 0))) (hg : w1.grownBy w' (some gm)) : BY W w' b N (upd E i Dsk.new) φ gm gf r g x := by
  have k := h.grow hb
  have hB : W.heap.size ≤ w.heap.size := h.p.bel.size
  have h8 := h.n8
  have hc := (chg_grown hg).mono (G := fun k => k = gm) fun i _ e => by injection e with e; exact e.symm
  have keep : ∀ k, k < w1.heap.size → k ≠ gm → w'.heap[k]? = w1.heap[k]? := fun k hk ho => hc.block k hk ho
  have hne : ∀ k, ow k ≠ 1 → k ≠ gm := fun k ho e => ho (by rw [e]; exact h.o1)
  have hnew : ∀ k, MF mb mm (.slice none 0 0) (.slice none 0 0) k → w.heap.size ≤ k ∧ k < w1.heap.size := fun k hk => hm.lt hk
  have hgm := h.mr.lt
  refine ⟨H, upd M i ⟨mb, mm, 0, .slice none 0 0, .slice none 0 0, fun _ => none⟩, owN ow w (3 + i), k.p.chg hc (fun j e => by rw [e]; exact h.le.1) (fun j hj e => by have := h.o0 j hj; rw [e, h.o1] at this; omega), ?_, ⟨_, hr, by rw [spl_len (by simp; omega)]; exact hcs.1, ?_⟩, ?_, h.le, ?_, ?_, ?_, ?_, ?_, h.dn, ?_, ?_⟩
  · intro j hj
    by_cases e : j = i
    · subst e
      rw [upd_same, upd_same]
      have h1 : MdlAt w1 W.heap.size mb mm 0 (.slice none 0 0) (.slice none 0 0) Dsk.new (fun _ => none) := ⟨hm.blk, hm.map, World.ownsRow_nil _ _ _ _, World.ownsRow_nil _ _ _ _, ⟨by have := hm.le.1; omega, by have := hm.le.2; omega⟩, hm.n1, hm.n2, hm.n3, hm.n4, hm.n5, hm.n6, hm.sec, hm.len, hm.ok⟩
      exact h1.heap fun k hk => keep k (hnew k hk).2 (by have := (hnew k hk).1; omega)
    · rw [upd_other _ _ e, upd_other _ _ e]
      exact (k.m j hj).heap fun l hl => keep l (k.mlt hj hl).2 (hne l (by rw [h.o3 j hj l hl]; omega))
  · intro j hj
    rw [spl_get _ _ (by omega)]
    dsimp only
    by_cases e : j = i
    · rw [if_pos e, e, upd_same]
    · rw [if_neg e, upd_other _ _ e]; exact hcs.2 j hj
  · exact k.fr.heap (keep gf k.fr.lt (hne gf (by rw [h.o2]; omega)))
  · intro j hj; rw [owN_old (h.p.at'.flt hj).2]; exact h.o0 j hj
  · rw [owN_old h.mr.lt]; exact h.o1
  · rw [owN_old h.fr.lt]; exact h.o2
  · intro j hj l hl
    by_cases e : j = i
    · subst e; rw [upd_same] at hl; exact owN_new (hnew l hl).1
    · rw [upd_other _ _ e] at hl; rw [owN_old (h.mlt hj hl).2]; exact h.o3 j hj l hl
  · intro j hj
    have := h.ln j hj
    by_cases e : j = i
    · subst e; rw [upd_same, upd_same]
      exact ⟨this.1, Nat.zero_le _, Nat.zero_le _⟩
    · rw [upd_other _ _ e, upd_other _ _ e]; exact this
  · exact k.xr.at (fun hp => keep g (k.xo hp).1 (hne g (by rw [(h.xo hp).2]; omega))) hc.size
  · exact fun hp => ⟨Nat.lt_of_lt_of_le (k.xo hp).1 hc.size, by rw [owN_old (h.xo hp).1]; exact (h.xo hp).2⟩
end
end Go.Proofs.Ytpiilfgikgkneaa
namespace Go.Proofs.Ytpiilfgikgkneaa
open Go.RowKit

namespace Bch
theorem set_ps {N : Bch} {i : Nat} {X : Dsk} {m : Nat} (hX : X.ps.length ≤ m) (h : ∀ j, j < N.n → (N.D j).ps.length ≤ m) : ∀ j, j < N.n → ((N.set i X).D j).ps.length ≤ m := fun j hj => by
  show (upd N.D i X j).ps.length ≤ m
  by_cases e : j = i
  · rw [e, upd_same]; exact hX
  · rw [upd_other _ _ e]; exact h j hj
theorem at_nat {N : Bch} {d : Int} (h : N.pickE d = 0) : d.toNat < N.n := by have := pickE_zero h; omega
theorem count_done (N : Bch) : N.count.done ≤ N.done + 1 := by unfold count; split <;> simp
theorem flushE_zero {N : Bch} {d : Int} (h : N.flushE d = 0) : N.powE d = 0 ∧ (N.at_ d).f = false := by
  unfold flushE at h
  by_cases c : N.powE d = 0
  · refine ⟨c, ?_⟩
    rw [if_neg (show ¬ N.powE d ≠ 0 by simp [c])] at h
    cases hf : (N.at_ d).f with
    | false => rfl
    | true => simp [hf] at h
  · rw [if_pos c] at h; exact absurd h c
theorem readE_zero {N : Bch} {d k : Int} (h : N.readE d k = 0) : N.powE d = 0 ∧ (N.at_ d).f = false ∧ 0 ≤ k ∧ k < 52 := by
  unfold readE at h
  by_cases c : N.powE d = 0
  · rw [if_neg (show ¬ N.powE d ≠ 0 by simp [c])] at h
    exact ⟨c, reachE_zero h⟩
  · rw [if_pos c] at h; exact absurd h c
/-- A write's error, from a read's. -/
theorem writeE_no {N : Bch} {d k : Int} (n : Nat) (h : N.readE d k ≠ 0) : N.writeE d k n = N.readE d k := by
  unfold writeE
  unfold readE at h ⊢
  by_cases c : N.powE d = 0
  · rw [if_neg (show ¬ N.powE d ≠ 0 by simp [c])] at h ⊢
    rw [if_neg (show ¬ N.powE d ≠ 0 by simp [c])]
    have ht : takeE (N.at_ d).f k n = reachE (N.at_ d).f k := by unfold takeE; rw [if_pos h]
    rw [ht, if_pos h]
  · rw [if_pos c, if_pos c]
theorem write_no {N : Bch} {d k : Int} (x : List UInt8) (h : N.readE d k ≠ 0) : N.write d k x = N := by
  unfold write
  by_cases c : N.powE d = 0
  · unfold readE at h
    rw [if_neg (show ¬ N.powE d ≠ 0 by simp [c])] at h
    have ht : takeE (N.at_ d).f k x.length ≠ 0 := by unfold takeE; rw [if_pos h]; exact h
    rw [if_neg (show ¬ N.powE d ≠ 0 by simp [c]), if_pos ht]
  · rw [if_pos c]
theorem takeE_of {N : Bch} {d k : Int} {n : Nat} (h : N.readE d k = 0) : takeE (N.at_ d).f k n = if n ≠ 32 then 1 else 0 := by
  obtain ⟨_, hf, h0, h1⟩ := readE_zero h
  unfold takeE
  rw [hf, reachE_ok h0 h1]; simp
theorem write_arg {N : Bch} {d k : Int} {x : List UInt8} (h : N.readE d k = 0) (hx : x.length ≠ 32) : N.writeE d k x.length = 1 ∧ N.write d k x = N := by
  have hp := (readE_zero h).1
  have ht : takeE (N.at_ d).f k x.length = 1 := by rw [takeE_of h, if_pos hx]
  constructor
  · unfold writeE; rw [if_neg (show ¬ N.powE d ≠ 0 by simp [hp]), ht]; rfl
  · unfold write; rw [if_neg (show ¬ N.powE d ≠ 0 by simp [hp]), ht]; rfl
theorem write_out {N : Bch} {d k : Int} {x : List UInt8} (h : N.readE d k = 0) (hx : x.length = 32) (hl : N.left = 0) : N.writeE d k x.length = 6 ∧ N.write d k x = { N with down := true } := by
  have hp := (readE_zero h).1
  have ht : takeE (N.at_ d).f k x.length = 0 := by rw [takeE_of h, if_neg (by simp [hx])]
  constructor
  · unfold writeE countE; rw [if_neg (show ¬ N.powE d ≠ 0 by simp [hp]), ht, if_pos hl]; rfl
  · unfold write count; rw [if_neg (show ¬ N.powE d ≠ 0 by simp [hp]), ht, if_pos hl, if_pos hl]; rfl
theorem write_done {N : Bch} {d k : Int} {x : List UInt8} (h : N.readE d k = 0) (hx : x.length = 32) (hl : N.left ≠ 0) :
    N.writeE d k x.length = 0 ∧ N.write d k x = { N.set d.toNat ((N.at_ d).write k.toNat x) with done := N.done + 1, left := if N.left = -1 then -1 else N.left - 1 } := by
  have hp := (readE_zero h).1
  have ht : takeE (N.at_ d).f k x.length = 0 := by rw [takeE_of h, if_neg (by simp [hx])]
  constructor
  · unfold writeE countE; rw [if_neg (show ¬ N.powE d ≠ 0 by simp [hp]), ht, if_neg hl]; rfl
  · unfold write count
    rw [if_neg (show ¬ N.powE d ≠ 0 by simp [hp]), ht, if_neg hl]
    show (if N.left = 0 then _ else _) = _
    rw [if_neg hl]
    rfl
theorem write_psd {N : Bch} {r : Nat} (d k : Int) (x : List UInt8) (hl : ∀ j, j < N.n → (N.D j).ps.length ≤ r) (hd : N.done ≤ r) : (∀ j, j < N.n → ((N.write d k x).D j).ps.length ≤ r + 1) ∧ (N.write d k x).done ≤ r + 1 := by
  have h1 : ∀ j, j < N.n → (N.D j).ps.length ≤ r + 1 := fun j hj => by have := hl j hj; omega
  unfold write
  by_cases c : N.powE d ≠ 0
  · rw [if_pos c]; exact ⟨h1, by omega⟩
  · rw [if_neg c]
    have hp := at_nat (powE_zero (Classical.not_not.1 c)).1
    split
    · exact ⟨h1, by omega⟩
    · split
      · rw [count_D]; exact ⟨h1, by have := count_done N; omega⟩
      · rw [count_D]
        refine ⟨set_ps ?_ h1, by have := count_done (N.set d.toNat ((N.at_ d).write k.toNat x)); have e : (N.set d.toNat ((N.at_ d).write k.toNat x)).done = N.done := rfl; omega⟩
        show ((N.at_ d).ps ++ [_]).length ≤ r + 1
        rw [List.length_append]
        have := hl d.toNat hp
        show (N.D d.toNat).ps.length + 1 ≤ r + 1
        omega
end Bch
section
variable {W w : World} {b gm gf r g : Nat} {H : BH} {N : Bch} {E : Nat → Dsk} {φ : Nat → Bool} {M : Nat → MH} {ow : Nat → Nat} {x : List UInt8} (h : BYs W w b H N E φ gm gf M ow r g x) (hr : r ≤ 98)
include h
theorem BYs.psb (hr : r ≤ 98) : ∀ i, i < N.n → (N.D i).ps.length ≤ 2000000 := fun i hi => by have := (h.ln i hi).1; omega
theorem BYs.psl : ∀ i, i < N.n → (N.D i).ps.length ≤ r + 1 := fun i hi => by have := (h.ln i hi).1; omega
theorem BYs.dnl : N.done ≤ r + 1 := Nat.le_succ_of_le h.dn
include hr
theorem by_write (d k : Int) (hd : i64B d) (hk : i64B k) (l c : Nat) (hl : l = x.length) :
    Calls Try.prog 10 #[.pointer (some ⟨b, 0, none⟩), .int .i64 d, .int .i64 k, .slice (some ⟨g, 0, none⟩) l c] w fun e w' => e = .returned (.int .i64 (N.writeE d k l)) ∧ BY W w' b (N.write d k x) E φ gm gf (r + 1) g x := by
  refine (bp_write _ _ _ _ _ h.p d k x _ l c hl hd hk h.xr (h.psb hr) (by have := h.dn; omega)).mono ?_
  rintro e w' ⟨rfl, hc⟩
  have hw := Bch.write_psd d k x (fun i hi => (h.ln i hi).1) h.dn
  exact ⟨rfl, h.bench (Bch.write_n _ _ _ _) hc hw.1 hw.2⟩
theorem by_damage (d k : Int) (hd : i64B d) (hk : i64B k) (l c : Nat) (hl : l = x.length) :
    Calls Try.prog 31 #[.pointer (some ⟨b, 0, none⟩), .int .i64 d, .int .i64 k, .slice (some ⟨g, 0, none⟩) l c] w fun e w' => e = .returned (.int .i64 (N.damageE d k l)) ∧ BY W w' b (N.damage d k x) E φ gm gf (r + 1) g x := by
  refine (bch_damage_any _ _ _ _ _ h.p.at' d k x _ l c hl hd hk h.xr (h.psb hr)).mono ?_
  rintro e w' ⟨rfl, hc⟩
  refine ⟨rfl, h.bench (damage_n _ _ _ _) (h.p.to hc) (fun i hi => ?_) ?_⟩
  · unfold Bch.damage
    split
    · exact h.psl i hi
    · exact Bch.set_ps (by have := Dsk.damageE_len (N.at_ d) k x; have h2 := h.ln d.toNat (Bch.at_nat (Classical.not_not.1 ‹_›)); have e : (N.at_ d).ps.length = (N.D d.toNat).ps.length := rfl; omega) h.psl i hi
  · unfold Bch.damage; split <;> exact h.dnl
omit hr in
theorem by_flush (d : Int) (hd : i64B d) : Calls Try.prog 25 #[.pointer (some ⟨b, 0, none⟩), .int .i64 d] w fun e w' => e = .returned (.int .i64 (N.flushE d)) ∧ BY W w' b (N.flush d) E φ gm gf (r + 1) g x := by
  refine (bp_flush _ _ _ _ _ h.p d hd).mono ?_
  rintro e w' ⟨rfl, hc⟩
  refine ⟨rfl, h.bench (flush_n _ _) hc (fun i hi => ?_) ?_⟩
  · unfold Bch.flush
    split
    · exact h.psl i hi
    · exact Bch.set_ps (by have := Dsk.flushE_len (N.at_ d); have h2 := h.ln d.toNat (Bch.at_nat (Bch.powE_zero (Classical.not_not.1 ‹_›)).1); have e : (N.at_ d).ps.length = (N.D d.toNat).ps.length := rfl; omega) h.psl i hi
  · unfold Bch.flush; split <;> exact h.dnl
omit hr in
theorem by_fail (d : Int) (hd : i64B d) : Calls Try.prog 18 #[.pointer (some ⟨b, 0, none⟩), .int .i64 d] w fun e w' => e = .returned (.int .i64 (N.pickE d)) ∧ BY W w' b (N.fail d) E φ gm gf (r + 1) g x := by
  refine (bp_fail _ _ _ _ _ h.p d hd).mono ?_
  rintro e w' ⟨rfl, hc⟩
  refine ⟨rfl, h.bench (fail_n _ _) hc (fun i hi => ?_) ?_⟩
  · unfold Bch.fail
    split
    · exact h.psl i hi
    · exact Bch.set_ps (Nat.zero_le _) h.psl i hi
  · unfold Bch.fail; split <;> exact h.dnl
omit hr in
theorem by_replace (d : Int) (hd : i64B d) : Calls Try.prog 20 #[.pointer (some ⟨b, 0, none⟩), .int .i64 d] w fun e w' => e = .returned (.int .i64 (N.replaceE d)) ∧ BY W w' b (N.replace d) E φ gm gf (r + 1) g x := by
  refine (bp_replace _ _ _ _ _ h.p d hd).mono ?_
  rintro e w' ⟨rfl, hc⟩
  refine ⟨rfl, h.bench (replace_n _ _) hc (fun i hi => ?_) ?_⟩
  · unfold Bch.replace
    split
    · exact h.psl i hi
    · exact Bch.set_ps (Nat.zero_le _) h.psl i hi
  · unfold Bch.replace; split <;> exact h.dnl
omit hr in
theorem by_limit (v : Int) (hv : i64B v) : Calls Try.prog 27 #[.pointer (some ⟨b, 0, none⟩), .int .i64 v] w fun e w' => e = .returned (.tuple #[]) ∧ BY W w' b (N.limit v) E φ gm gf (r + 1) g x := by
  refine (bp_limit _ _ _ _ _ h.p v hv).mono ?_
  rintro e w' ⟨rfl, hc⟩
  refine ⟨rfl, h.bench (limit_n _ _) hc (fun i hi => ?_) ?_⟩
  · unfold Bch.limit; split <;> exact h.psl i hi
  · unfold Bch.limit; split <;> exact h.dnl
theorem by_crash (ks : List Bool) (A : Option Addr) (n c : Nat) (hn : n = ks.length) (hc : ks.length ≤ c) (hk : RdO W W.heap.size A ks) : Calls Try.prog 12 #[.pointer (some ⟨b, 0, none⟩), .slice A n c] w fun e w' => e = .returned (.tuple #[]) ∧ BY W w' b (N.crash ks) E φ gm gf (r + 1) g x := by
  refine (bp_crash_arg h.p ks A n c hn hc hk (h.psb hr)).mono ?_
  rintro e w' ⟨rfl, hc⟩
  refine ⟨rfl, h.bench rfl hc (fun i hi => ?_) h.dnl⟩
  show (if i < N.n then _ else _ : Dsk).ps.length ≤ r + 1
  rw [if_pos hi]; exact Nat.zero_le _
theorem by_crashM (ks : List Bool) (A : Option Addr) (n c : Nat) (hn : n = ks.length) (hc : ks.length ≤ c) (hk : RdO W W.heap.size A ks) : Calls Try.prog 12 #[.pointer (some ⟨b, 0, none⟩), .slice A n c] w fun e w' => e = .returned (.tuple #[]) ∧ ∃ H' ow', BYs W w' b H' (N.crash ks) E φ gm gf M ow' (r + 1) g x := by
  refine (bp_crash_arg h.p ks A n c hn hc hk (h.psb hr)).mono ?_
  rintro e w' ⟨rfl, hc⟩
  refine ⟨rfl, h.benchM rfl hc (fun i hi => ?_) h.dnl⟩
  show (if i < N.n then _ else _ : Dsk).ps.length ≤ r + 1
  rw [if_pos hi]; exact Nat.zero_le _
variable {i : Nat} (hi : i < N.n)
include hi
theorem my_write (k : Nat) (hk : k < 52) (l c : Nat) (hl : l = 32) (hx : x.length = 32) :
    Calls Try.prog 23 #[.pointer (some ⟨(M i).mb, 0, none⟩), .int .i64 (k : Int), .slice (some ⟨g, 0, none⟩) l c] w fun e w' => e = .returned (.tuple #[]) ∧ BY W w' b N (upd E i ((E i).write k x)) φ gm gf (r + 1) g x := by
  subst hl
  have hn := h.n8
  have hln := h.ln i hi
  refine (mdl_write_any _ _ _ _ _ _ _ _ w (h.m i hi) (by omega) h.p.bel.size k hk x hx _ c h.xr (fun a ha => by
    injection ha with ha; subst ha
    have h2 := h.xo (by omega)
    exact ⟨h2.1, fun e => by have h3 : ow g = 3 + i := h.o3 i hi _ (.inr (.inr (.inl e))); have := h2.2; omega, fun e => by have h3 : ow g = 3 + i := h.o3 i hi _ (.inr (.inr (.inr e))); have := h2.2; omega⟩)).mono ?_
  rintro e w' ⟨rfl, hm⟩
  exact ⟨rfl, h.model hi hm (by omega) (by simp [Dsk.write]; omega)⟩
theorem my_damage (k : Nat) (hk : k < 52) (l c : Nat) (hl : l = 32) (hx : x.length = 32) :
    Calls Try.prog 32 #[.pointer (some ⟨(M i).mb, 0, none⟩), .int .i64 (k : Int), .slice (some ⟨g, 0, none⟩) l c] w fun e w' => e = .returned (.tuple #[]) ∧ BY W w' b N (upd E i ((E i).damage k x)) φ gm gf (r + 1) g x := by
  subst hl
  have hn := h.n8
  have hln := h.ln i hi
  refine (mdl_damage_any _ _ _ _ _ _ _ _ w (h.m i hi) (by omega) (by omega) h.p.bel.size k hk x hx _ c h.xr (fun a ha => by
    injection ha with ha; subst ha
    have h2 := h.xo (by omega)
    exact ⟨h2.1, fun e => by have h3 : ow g = 3 + i := h.o3 i hi _ (.inl e); have := h2.2; omega⟩)).mono ?_
  rintro e w' ⟨rfl, hm⟩
  exact ⟨rfl, h.model hi hm (by omega) (by have := List.length_filter_le (fun p => decide (p.1 ≠ k)) (E i).ps; simp only [Dsk.damage]; omega)⟩
theorem my_flush : Calls Try.prog 26 #[.pointer (some ⟨(M i).mb, 0, none⟩)] w fun e w' => e = .returned (.tuple #[]) ∧ BY W w' b N (upd E i (E i).flush) φ gm gf (r + 1) g x := by
  have hln := h.ln i hi
  refine (mdl_flush_any _ _ _ _ _ _ _ _ w (h.m i hi) (by omega) (by omega)).mono ?_
  rintro e w' ⟨rfl, hm⟩
  exact ⟨rfl, h.model hi hm (by omega) (by simp [Dsk.flush])⟩
theorem my_crash (A : Option Addr) (ks : List Bool) (l c : Nat) (hl : ks.length = l) (hk : RdO W W.heap.size A ks) :
    Calls Try.prog 29 #[.pointer (some ⟨(M i).mb, 0, none⟩), .slice A l c] w fun e w' => e = .returned (.tuple #[]) ∧ BY W w' b N (upd E i ((E i).crash ks)) φ gm gf (r + 1) g x := by
  have hln := h.ln i hi
  refine (mdl_crash_any _ _ _ _ _ _ _ _ w (h.m i hi) (by omega) (by omega) A ks l c hl (hk.below h.p.bel (Nat.le_refl _))).mono ?_
  rintro e w' ⟨rfl, hm⟩
  exact ⟨rfl, h.model hi hm (by omega) (by simp [Dsk.crash])⟩
theorem my_crashR (A : Option Addr) (ks : List Bool) (l c : Nat) (hl : ks.length = l) (hk : RdO W W.heap.size A ks) (h1 : (M i).nn + (E i).ps.length ≤ 100 * r) :
    Calls Try.prog 29 #[.pointer (some ⟨(M i).mb, 0, none⟩), .slice A l c] w fun e w' => e = .returned (.tuple #[]) ∧ ∃ M' ow', BYs W w' b H N (upd E i ((E i).crash ks)) φ gm gf M' ow' r g x ∧ ∀ t, t ≠ i → M' t = M t := by
  have hln := h.ln i hi
  refine (mdl_crash_any _ _ _ _ _ _ _ _ w (h.m i hi) (by omega) (by omega) A ks l c hl (hk.below h.p.bel (Nat.le_refl _))).mono ?_
  rintro e w' ⟨rfl, hm⟩
  exact ⟨rfl, h.modelR hi hm h1 (by simp [Dsk.crash]) (Nat.le_refl _)⟩
omit hr in
theorem my_fail : Calls Try.prog 30 #[.pointer (some ⟨(M i).mb, 0, none⟩)] w fun e w' => e = .returned (.tuple #[]) ∧ BY W w' b N (upd E i Dsk.failed) φ gm gf (r + 1) g x := by
  refine (mdl_fail_any _ _ _ _ _ _ _ _ w (h.m i hi)).mono ?_
  rintro e w' ⟨rfl, hm⟩
  exact ⟨rfl, h.model hi hm (by omega) (Nat.zero_le _)⟩
omit hr in
theorem my_pending : Calls Try.prog 28 #[.pointer (some ⟨(M i).mb, 0, none⟩)] w fun e w' => e = .returned (.int .i64 ((E i).ps.length : Int)) ∧ w' = w := mdl_pending_any _ _ _ _ _ _ _ _ w (h.m i hi)
theorem my_read (k : Nat) (hk : k < 52) : Calls Try.prog 24 #[.pointer (some ⟨(M i).mb, 0, none⟩), .int .i64 (k : Int)] w fun e w' => e = .returned (str (secAt (E i).now k)) ∧ Below w.heap.size w w' :=
  mdl_read_any _ _ _ _ _ _ _ _ w (h.m i hi) k hk (by have := (h.ln i hi).2; omega)
end
end Go.Proofs.Ytpiilfgikgkneaa
namespace Go.Proofs.Ytpiilfgikgkneaa
open Go.RowKit

def FF (N : Bch) : Prop := ∀ i, i < N.n → (N.D i).f = true → N.D i = Dsk.failed
def RY (W w : World) (b : Nat) (N : Bch) (gm gf r : Nat) : Prop := BY W w b N N.D (fun i => (N.D i).f) gm gf r 0 [] ∧ FF N
theorem RY.of {W w : World} {b gm gf r r' g : Nat} {N : Bch} {E : Nat → Dsk} {φ : Nat → Bool} {x : List UInt8} (h : BY W w b N E φ gm gf r g x) (he : E = N.D) (hp : φ = fun i => (N.D i).f) (hf : FF N) (hr : r ≤ r') : RY W w b N gm gf r' := by
  subst he hp
  exact ⟨h.drop.more hr, hf⟩
theorem phi_upd (D : Nat → Dsk) {j : Nat} {X : Dsk} (h : X.f = (D j).f) : (fun i => (D i).f) = fun i => (upd D j X i).f := by
  funext i
  by_cases e : i = j
  · rw [e, upd_same, h]
  · rw [upd_other _ _ e]
theorem phi_put (D : Nat → Dsk) (j : Nat) (X : Dsk) : upd (fun i => (D i).f) j X.f = fun i => (upd D j X i).f := by
  funext i
  by_cases e : i = j
  · rw [e, upd_same, upd_same]
  · rw [upd_other _ _ e, upd_other _ _ e]
theorem FF.upd {N N' : Bch} {j : Nat} {X : Dsk} (h : FF N) (hn : N'.n = N.n) (hd : N'.D = upd N.D j X) (hx : X.f = true → X = Dsk.failed) : FF N' := fun i hi => by
  rw [hn] at hi
  rw [hd]
  by_cases e : i = j
  · rw [e, upd_same]; exact hx
  · rw [upd_other _ _ e]; exact h i hi
theorem FF.same {N N' : Bch} (h : FF N) (hn : N'.n = N.n) (hd : N'.D = N.D) : FF N' := fun i hi => by rw [hn] at hi; rw [hd]; exact h i hi
namespace Bch
/-- A write that is done without a limit, and one with. -/
theorem write_free {N : Bch} {d k : Nat} {x : List UInt8} (h : N.readE (d : Int) (k : Int) = 0) (hx : x.length = 32) (hl : N.left = -1) :
    N.writeE (d : Int) (k : Int) x.length = 0 ∧ N.write (d : Int) (k : Int) x = { N.set d ((N.D d).write k x) with done := N.done + 1 } := by
  have hw := write_done h hx (by rw [hl]; omega)
  refine ⟨hw.1, hw.2.trans ?_⟩
  rw [show (if N.left = -1 then (-1 : Int) else N.left - 1) = N.left by rw [if_pos hl, hl]]
  rfl
theorem write_lim {N : Bch} {d k : Nat} {x : List UInt8} (h : N.readE (d : Int) (k : Int) = 0) (hx : x.length = 32) (hl : 1 ≤ N.left) :
    N.writeE (d : Int) (k : Int) x.length = 0 ∧ N.write (d : Int) (k : Int) x = { N.set d ((N.D d).write k x) with done := N.done + 1, left := N.left - 1 } := by
  have hw := write_done h hx (by omega)
  refine ⟨hw.1, hw.2.trans ?_⟩
  rw [if_neg (by omega)]
  rfl
end Bch
end Go.Proofs.Ytpiilfgikgkneaa
