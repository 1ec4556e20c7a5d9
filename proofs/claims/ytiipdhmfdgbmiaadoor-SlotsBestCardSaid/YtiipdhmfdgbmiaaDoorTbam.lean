/- Texts put together: SupEnc, SupEncY, PartsOwn. -/
import Derived.Test.YtiipdhmfdgbmiaaDoorTbak
import Derived.Test.YtiipdhmfdgbmiaaDoorTbaj
import Derived.Test.YtiipdhmfdgbmiaaDoorTbab
import Derived.Test.YtiipdhmfdgbmiaaDoorTbaa
import Derived.Lib.LazyBuf
section
set_option linter.unusedVariables false
set_option linter.unusedSimpArgs false
namespace Go.Proofs.YtiipdhmfdgbmiaaDoor
open Go.RowKit

def setsB (bs : List UInt8) : Nat → List UInt8 → List UInt8
  | _, [] => bs
  | o, x :: r => setsB (bs.set o x) (o + 1) r
theorem setsB_len : ∀ (xs : List UInt8) (o : Nat) (bs : List UInt8), (setsB bs o xs).length = bs.length
  | [], _, _ => rfl
  | x :: r, o, bs => (setsB_len r (o + 1) _).trans (List.length_set ..)
theorem OwB.sets {e : TypeId} {B g n cap : Nat} : ∀ (xs : List UInt8) (o : Nat) {w : World} {bs : List UInt8}, OwB e w B (.slice (some ⟨g, 0, none⟩) n cap) bs → bs.length = n →
    OwB e (w.setCells g o (xs.map fun x => Value.int .u8 (x.toNat : Int))) B (.slice (some ⟨g, 0, none⟩) n cap) (setsB bs o xs) ∧ w.grownBy (w.setCells g o (xs.map fun x => Value.int .u8 (x.toNat : Int))) (some g)
  | [], _, w, _, h, _ => ⟨h, World.grownBy.refl w _⟩
  | x :: r, o, w, bs, h, hn => by
    obtain ⟨h1, h2⟩ := h.set hn o x
    obtain ⟨h3, h4⟩ := OwB.sets r (o + 1) h1 ((List.length_set ..).trans hn)
    exact ⟨h3, h2.trans h4⟩
theorem size_u8' (w : World) : (Go.sizeOf 5).run Tryd.prog w = .ok 1 w := by kernel_rfl
/-- copy(own, a text). -/
theorem wpList_copy_S {w : World} {ops : Array Oper} {rest : List Oper} {o : Oper} {a : Act} {Q : Exit → Act → World → Prop} (hw : Region.wanted o (yielded ops a.tmps) = true) (d x : Operand)
    (ho : o.op = .call { callee := .builtin .copy, args := #[d, x], argTypes := #[38, 9] })
    (g n cap B : Nat) (ds xs : List UInt8) (hd : a.eval d = .slice (some ⟨g, 0, none⟩) n cap) (hx : a.eval x = .string ⟨xs.toArray⟩) (hown : OwB 5 w B (.slice (some ⟨g, 0, none⟩) n cap) ds) (hdn : ds.length = n) (hle : xs.length ≤ n)
    (h : ∀ w', OwB 5 w' B (.slice (some ⟨g, 0, none⟩) n cap) (setsB ds 0 xs) → w.grownBy w' (some g) → ∀ r : Value, wpList Tryd.prog ops Q rest (a.put o.dst r) w') : wpList Tryd.prog ops Q (o :: rest) a w := by
  refine BigFrame.wpList_want hw fun K hK => ?_
  have hsz : (⟨xs.toArray⟩ : ByteArray).size = xs.length := by show xs.toArray.size = _; simp
  have hrun := Go.run_copy_string (P := Tryd.prog) w 38 9 o.type 5 g 0 n cap ⟨xs.toArray⟩ Tryd.underlying38 size_u8' (by rw [hsz]; exact hle)
    (fun j hj => by rw [Nat.zero_add, (hown.cell hdn j (by omega)).1]; rfl) (fun j hj => by rw [Nat.zero_add]; exact (hown.cell hdn j (by omega)).2)
  obtain ⟨h1, h2⟩ := hown.sets xs 0 hdn
  unfold Oper.wp execOp
  simp only [ho, resolve, invoke, builtin, Sem.run_bind, Sem.run_pure, Result.andThen_ok, List.map_toArray, List.map_cons, List.map_nil, hd, hx, hrun]
  exact hK _ _ (h _ h1 h2 _)
/-- What stays while a Super's sector is made. -/
structure ENC (w0 : World) (bx g : Nat) (s : Su) (bs : List UInt8) (W : World) : Prop where
  box : SAt W bx s
  own : OwB 5 W w0.heap.size (.slice (some ⟨g, 0, none⟩) 32 32) bs
  len : bs.length = 32
  below : Below w0.heap.size w0 W
  ne : bx ≠ g
  le : w0.heap.size ≤ g
theorem SAt.grown {w w' : World} {b g : Nat} {s : Su} (h : SAt w b s) (hg : w.grownBy w' (some g)) (hne : b ≠ g) : SAt w' b s := by
  have hl := h.lt
  exact h.keep fun k => hg.cell_far ⟨b, k, none⟩ hl (fun e => hne (by injection e))
theorem ENC.drew {w0 W : World} {bx g : Nat} {s : Su} {bs : List UInt8} (h : ENC w0 bx g s bs W) : ENC w0 bx g s bs W.drew := ⟨h.box, h.own.drew, h.len, h.below.drew, h.ne, h.le⟩
theorem ENC.step {w0 W W' : World} {bx g : Nat} {s : Su} {bs bs' : List UInt8} (h : ENC w0 bx g s bs W) (ho : OwB 5 W' w0.heap.size (.slice (some ⟨g, 0, none⟩) 32 32) bs') (hg : W.grownBy W' (some g)) (hl : bs'.length = bs.length) : ENC w0 bx g s bs' W' :=
  ⟨h.box.grown hg h.ne, ho, hl.trans h.len, h.below.grown hg h.below.size (fun j e => by injection e with e; subst e; exact h.le), h.ne, h.le⟩
theorem ENC.put {w0 W : World} {bx g : Nat} {s : Su} {bs : List UInt8} (h : ENC w0 bx g s bs W) (off len cap : Nat) (n : Int) (hn : 0 ≤ n ∧ n ≤ 2147483647) (hl : off + len ≤ 32) (h4 : len ≤ 4) (hc : len ≤ cap) :
    Calls Tryd.prog 59 #[.slice (some ⟨g, off, none⟩) len cap, .int .i64 n] W fun e w' => e = .returned (.tuple #[]) ∧ ENC w0 bx g s (putK bs off len n len) w' := by
  refine (suPut_any g off len cap 32 _ n bs W hn h.own h.len hl h4 hc).mono ?_
  rintro e w' ⟨rfl, h1, h2⟩
  exact ⟨rfl, h.step h1 h2 (putK_len _ _ _ _ _)⟩
theorem ENC.putG {w0 W : World} {bx g : Nat} {s : Su} {bs : List UInt8} (h : ENC w0 bx g s bs W) (off cap : Nat) (l d c : Int) (hl : 0 ≤ l ∧ l ≤ 255) (hd : 0 ≤ d ∧ d ≤ 255) (hc : 0 ≤ c ∧ c ≤ 255) (hoc : (off = 8 ∧ cap = 24) ∨ (off = 11 ∧ cap = 21)) :
    Calls Tryd.prog 60 #[.slice (some ⟨g, off, none⟩) 3 cap, .agg #[.int .i64 l, .int .i64 d, .int .i64 c]] W fun e w' => e = .returned (.tuple #[]) ∧ ENC w0 bx g s (putK (putK (putK bs off 1 l 1) (off + 1) 1 d 1) (off + 2) 1 c 1) w' := by
  refine (suPutG_any g off cap _ l d c bs W hl hd hc h.own h.len hoc).mono ?_
  rintro e w' ⟨rfl, h1, h2⟩
  exact ⟨rfl, h.step h1 h2 (by rw [putK_len, putK_len, putK_len])⟩
theorem suEncode_no (s : Su) (w : World) (h : Su64 s) (hk : Hid (suOk s = false)) :
    Calls Tryd.prog 30 #[.agg #[.int .i64 s.g, .int .i64 s.al, .int .i64 s.ad, .int .i64 s.ac, .int .i64 s.bl, .int .i64 s.bd, .int .i64 s.bc, .bool s.r, .int .i64 s.wi, .int .i64 s.ep, .int .i64 s.ou]] w fun e w' => e = .returned (.tuple #[.slice none 0 0, .int .i64 1]) ∧ Below w.heap.size w w' := by
  have C := Lib.hid (fun W => suCheck_no s W h hk)
  have S0 := ss_new w s 32 (0, 0)
  go_enter Tryd.func30, Tryd.ntmps30
  go_wp2_with fail
  (with_reducible refine (C.out _).mono ?_); rintro e w1 ⟨rfl, hb⟩
  have S1 := S0.later hb
  go_wp2_with fail
  go_ret2
  exact ⟨rfl, S1.2.1⟩
theorem suLast (s : Su) : putK (putK (putK ((putK (putK (putK (putK (putK (putK (putK (setsB (List.replicate 32 0) 0 [87, 83, 85, 80]) 4 4 s.g 4) 8 1 s.al 1) 9 1 s.ad 1) 10 1 s.ac 1) 11 1 s.bl 1) 12 1 s.bd 1) 13 1 s.bc 1).set 14 (rnB s.r)) 15 1 s.wi 1) 16 2 s.ep 2) 18 1 s.ou 1 = suFull s := rfl
end Go.Proofs.YtiipdhmfdgbmiaaDoor
end
section
set_option linter.unusedVariables false
set_option linter.unusedSimpArgs false
namespace Go.Proofs.YtiipdhmfdgbmiaaDoor
open Go.RowKit

theorem makeSec (w : World) : (Instr.makeSlice 38 (.int .i64 32) (.int .i64 32)).run Tryd.prog w = .ok (.slice (some ⟨w.heap.size, 0, none⟩) 32 32) (w.alloc (.cells (zcells 32) 5)) := make_bytes 32 (by omega) w
set_option maxHeartbeats 4000000 in
theorem suEncode_yes (s : Su) (w : World) (h : Su64 s) (hk : Hid (suOk s = true)) (ht : TabOk w) :
    Calls Tryd.prog 30 #[.agg #[.int .i64 s.g, .int .i64 s.al, .int .i64 s.ad, .int .i64 s.ac, .int .i64 s.bl, .int .i64 s.bd, .int .i64 s.bc, .bool s.r, .int .i64 s.wi, .int .i64 s.ep, .int .i64 s.ou]] w fun e w' => ∃ g : Nat, e = .returned (.tuple #[.slice (some ⟨g, 0, none⟩) 32 32, .int .i64 0]) ∧ OwB 5 w' w.heap.size (.slice (some ⟨g, 0, none⟩) 32 32) (suB s) ∧ Below w.heap.size w w' := by
  have C := Lib.hid (fun W => suCheck_yes s W h hk)
  have I := Lib.hid (suIn hk.out)
  have HL := Lib.hid (suLast s)
  have S0 := ss_new w s 32 (0, 0)
  have Ht := Lib.hid ht
  have hmk := makeSec
  clear ht h hk
  go_enter Tryd.func30, Tryd.ntmps30
  go_wp2_with fail
  (with_reducible refine (C.out _).mono ?_); rintro e w1 ⟨rfl, hb⟩
  have S1 := S0.later hb
  clear S0 hb C
  have E0 : ENC w w.heap.size w1.heap.size s (List.replicate 32 0) (w1.alloc (.cells (zcells 32) 5)) := by
    have O := own_make 5 w1 32 (by omega)
    exact ⟨S1.1.below (below1 w1 _) S1.2.2, O.le S1.2.1.size, by simp, S1.2.1.trans ((below1 w1 _).mono S1.2.1.size), by have := S1.2.2; omega, S1.2.1.size⟩
  clear S1
  generalize hW : w1.alloc (.cells (zcells 32) 5) = W0 at E0
  go_wp2_with (refine wpList_copy_S rfl _ _ rfl w1.heap.size 32 32 w.heap.size (List.replicate 32 0) [87, 83, 85, 80] rfl rfl E0.own E0.len (by decide) ?_; intro w2 o2 g2 rv; have E1 := E0.step o2 g2 (setsB_len _ _ _))
  clear E0 o2 g2 hW
  go_region_held3 (fun W => SAt W w.heap.size s)
    (first | exact E1.box | exact E1.drew.box | exact E2.box | exact E2.drew.box)
    (first
      | (go_at_call 59
         (with_reducible refine (E1.drew.put 4 4 28 s.g (by have := I.out.g; omega) (by omega) (by omega) (by omega)).mono ?_)
         rintro e wx ⟨rfl, E2⟩
         dsimp only))
  clear E1
  go_wp2
  go_region_held3 (fun W => SAt W w.heap.size s)
    (first | exact E2.box | exact E2.drew.box | exact E3.box | exact E3.drew.box)
    (first
      | (go_at_call 60
         (with_reducible refine (E2.drew.putG 8 24 s.al s.ad s.ac I.out.al I.out.ad I.out.ac (.inl ⟨rfl, rfl⟩)).mono ?_)
         rintro e wx ⟨rfl, E3⟩
         dsimp only))
  clear E2
  go_wp2
  go_region_held3 (fun W => SAt W w.heap.size s)
    (first | exact E3.box | exact E3.drew.box | exact E4.box | exact E4.drew.box)
    (first
      | (go_at_call 60
         (with_reducible refine (E3.drew.putG 11 21 s.bl s.bd s.bc I.out.bl I.out.bd I.out.bc (.inr ⟨rfl, rfl⟩)).mono ?_)
         rintro e wx ⟨rfl, E4⟩
         dsimp only))
  clear E3
  obtain ⟨c0, c1, c2, c3, c4, c5, c6, c7, c8, c9, c10⟩ := E4.box
  obtain ⟨q14, f14⟩ := E4.own.cell E4.len 14 (by omega)
  go_upto_if 30 with fail
  go_cut [31, 32] (fun _ _ W => ENC w w.heap.size w1.heap.size s ((putK (putK (putK (putK (putK (putK (putK (setsB (List.replicate 32 0) 0 [87, 83, 85, 80]) 4 4 s.g 4) 8 1 s.al 1) 9 1 s.ad 1) 10 1 s.ac 1) 11 1 s.bl 1) 12 1 s.bd 1) 13 1 s.bc 1).set 14 (rnB s.r)) W)
  case first =>
    have o := E4.own.set E4.len 14 1
    have E5 := E4.step o.1 o.2 (List.length_set ..)
    have Et : Hid (s.r = true → ENC w w.heap.size w1.heap.size s ((putK (putK (putK (putK (putK (putK (putK (setsB (List.replicate 32 0) 0 [87, 83, 85, 80]) 4 4 s.g 4) 8 1 s.al 1) 9 1 s.ad 1) 10 1 s.ac 1) 11 1 s.bl 1) 12 1 s.bd 1) 13 1 s.bc 1).set 14 (rnB s.r)) (wx.setCell ⟨w1.heap.size, 14, none⟩ (.int .u8 1))) := Lib.hid fun hr => by rw [show rnB s.r = 1 by rw [hr]; rfl]; exact E5
    have Ef : Hid (s.r = false → ENC w w.heap.size w1.heap.size s ((putK (putK (putK (putK (putK (putK (putK (setsB (List.replicate 32 0) 0 [87, 83, 85, 80]) 4 4 s.g 4) 8 1 s.al 1) 9 1 s.ad 1) 10 1 s.ac 1) 11 1 s.bl 1) 12 1 s.bd 1) 13 1 s.bc 1).set 14 (rnB s.r)) wx) := Lib.hid fun hr => by rw [show rnB s.r = 0 by rw [hr]; rfl]; exact E4
    clear o E5 E4
    go_wp2_with fail
    all_goals
      go_meet
      first | exact Et.out (by assumption) | exact Ef.out (by assumption)
  case rest =>
    clear E4 c0 c1 c2 c3 c4 c5 c6 c7 c8 c9 c10 q14 f14
    have E5 := hcut
    clear hcut
    go_wp2
    go_region_held3 (fun W => SAt W w.heap.size s)
      (first | exact E5.box | exact E5.drew.box | exact E6.box | exact E6.drew.box)
      (first
        | (go_at_call 59
           (with_reducible refine (E5.drew.put 15 1 17 s.wi (by have := I.out.wi; omega) (by omega) (by omega) (by omega)).mono ?_)
           rintro e wx ⟨rfl, E6⟩
           dsimp only))
    clear E5
    go_wp2
    go_region_held3 (fun W => SAt W w.heap.size s)
      (first | exact E6.box | exact E6.drew.box | exact E7.box | exact E7.drew.box)
      (first
        | (go_at_call 59
           (with_reducible refine (E6.drew.put 16 2 16 s.ep (by have := I.out.ep; omega) (by omega) (by omega) (by omega)).mono ?_)
           rintro e wx ⟨rfl, E7⟩
           dsimp only))
    clear E6
    go_wp2
    go_region_held3 (fun W => SAt W w.heap.size s)
      (first | exact E7.box | exact E7.drew.box | exact E8.box | exact E8.drew.box)
      (first
        | (go_at_call 59
           (with_reducible refine (E7.drew.put 18 1 14 s.ou (by have := I.out.ou; omega) (by omega) (by omega) (by omega)).mono ?_)
           rintro e wx ⟨rfl, E8⟩
           dsimp only))
    clear E7
    rw [HL.out] at E8
    have hw0 : 0 < w.heap.size := Ht.out.pos
    have T := Ht.out.below E8.below hw0
    have S := stamp_n w1.heap.size 32 _ 32 none 0 (suFull s) [] 0 _ rfl rfl E8.own rfl ⟨by simp, fun h => by simp at h⟩ T
    go_wp2_with (go_at_call 61; refine S.mono ?_; rintro e wy ⟨rfl, h1, h2⟩; have E9 := E8.step h1 h2 (stamped_len _ _ rfl))
    go_ret2
    exact ⟨_, rfl, E9.own, E9.below⟩
end Go.Proofs.YtiipdhmfdgbmiaaDoor
end
section
namespace Go.Proofs.YtiipdhmfdgbmiaaDoor
open Go.RowKit

/-- A slice of bytes in a block from lo on. -/
def RdBF (lo : Nat) (w : World) (A : Option Addr) (bs : List UInt8) : Prop :=
  bs.length ≤ 140737488355328 ∧ (0 < bs.length → ∃ b off, A = some ⟨b, off, none⟩ ∧ b < w.heap.size ∧ lo ≤ b ∧ ∀ k, k < bs.length → w.cell? ⟨b, off + k, none⟩ = some (.int .u8 ((bs.getD k 0).toNat : Int)))
def RdF (lo : Nat) (w : World) (A : Option Addr) (rs : List (List UInt8)) : Prop :=
  rs.length ≤ 140737488355328 ∧ (0 < rs.length → ∃ b off, A = some ⟨b, off, none⟩ ∧ b < w.heap.size ∧ lo ≤ b ∧ ∀ k, k < rs.length → ∃ A' c, w.cell? ⟨b, off + k, none⟩ = some (.slice A' (rs.getD k []).length c) ∧ RdBF lo w A' (rs.getD k []))
theorem RdBF.rdb {lo : Nat} {w : World} {A : Option Addr} {bs : List UInt8} (h : RdBF lo w A bs) : RdB w w.heap.size A bs :=
  ⟨h.1, fun h0 => by
    obtain ⟨b, off, e, hb, _, hc⟩ := h.2 h0
    exact ⟨b, off, e, hb, hc⟩⟩
theorem RdF.rdr {lo : Nat} {w : World} {A : Option Addr} {rs : List (List UInt8)} (h : RdF lo w A rs) : RdR w w.heap.size A rs :=
  ⟨h.1, fun h0 => by
    obtain ⟨b, off, e, hb, _, hc⟩ := h.2 h0
    refine ⟨b, off, e, hb, fun k hk => ?_⟩
    obtain ⟨A', c, h1, h2⟩ := hc k hk
    exact ⟨A', c, h1, h2.rdb⟩⟩
theorem RdBF.keep {lo : Nat} {w w' : World} {A : Option Addr} {bs : List UInt8} (h : RdBF lo w A bs) (hz : w.heap.size ≤ w'.heap.size) (hk : ∀ p : Addr, lo ≤ p.block → p.block < w.heap.size → w'.cell? p = w.cell? p) : RdBF lo w' A bs :=
  ⟨h.1, fun h0 => by
    obtain ⟨b, off, e, hb, hl, hc⟩ := h.2 h0
    exact ⟨b, off, e, by omega, hl, fun k hk' => (hk ⟨b, off + k, none⟩ hl hb).trans (hc k hk')⟩⟩
theorem RdF.keep {lo : Nat} {w w' : World} {A : Option Addr} {rs : List (List UInt8)} (h : RdF lo w A rs) (hz : w.heap.size ≤ w'.heap.size) (hk : ∀ p : Addr, lo ≤ p.block → p.block < w.heap.size → w'.cell? p = w.cell? p) : RdF lo w' A rs :=
  ⟨h.1, fun h0 => by
    obtain ⟨b, off, e, hb, hl, hc⟩ := h.2 h0
    refine ⟨b, off, e, by omega, hl, fun k hk' => ?_⟩
    obtain ⟨A', c, h1, h2⟩ := hc k hk'
    exact ⟨A', c, (hk ⟨b, off + k, none⟩ hl hb).trans h1, h2.keep hz hk⟩⟩
theorem RdF.below {lo : Nat} {w w' : World} {A : Option Addr} {rs : List (List UInt8)} (h : RdF lo w A rs) (hb : Below w.heap.size w w') : RdF lo w' A rs := h.keep hb.size fun _ _ hp => hb.cell hp
/-- Values that read as rows, none of them in block ob, all from lo on. -/
def RowsY (w : World) (lo : Nat) (ob : Option Nat) (xs : List Value) (rs : List (List UInt8)) : Prop :=
  xs.length = rs.length ∧ ∀ k, k < rs.length → ∃ A c, xs[k]? = some (.slice A (rs.getD k []).length c) ∧ RdBF lo w A (rs.getD k []) ∧ (0 < (rs.getD k []).length → ∀ a, A = some a → some a.block ≠ ob)
theorem RowsY.nil (w : World) (lo : Nat) (ob : Option Nat) : RowsY w lo ob [] [] := ⟨rfl, fun k hk => by simp at hk⟩
theorem RowsY.below {w w' : World} {lo : Nat} {ob : Option Nat} {xs : List Value} {rs : List (List UInt8)} (h : RowsY w lo ob xs rs) (hb : Below w.heap.size w w') : RowsY w' lo ob xs rs :=
  ⟨h.1, fun k hk => by
    obtain ⟨A, c, h1, h2, h3⟩ := h.2 k hk
    exact ⟨A, c, h1, h2.keep hb.size fun _ _ hp => hb.cell hp, h3⟩⟩
theorem RowsY.grown {w w' : World} {lo : Nat} {ob ob' : Option Nat} {xs : List Value} {rs : List (List UInt8)} (h : RowsY w lo ob xs rs) (hg : w.grownBy w' ob) (ho : ob' = ob ∨ ob' = some w.heap.size) : RowsY w' lo ob' xs rs :=
  ⟨h.1, fun k hk => by
    obtain ⟨A, c, h1, h2, h3⟩ := h.2 k hk
    refine ⟨A, c, h1, ⟨h2.1, fun h0 => ?_⟩, fun h0 a ha => ?_⟩
    · obtain ⟨b, off, e, hb, hl, hc⟩ := h2.2 h0
      have hne := h3 h0 _ e
      refine ⟨b, off, e, by have := hg.size; omega, hl, fun j hj => ?_⟩
      rw [← hc j hj]
      exact World.cell?_of_block (w := w) (hg.block b hb hne)
    · rcases ho with rfl | rfl
      · exact h3 h0 a ha
      · obtain ⟨b, off, e, hb, hl, hc⟩ := h2.2 h0
        rw [ha] at e
        injection e with e
        subst e
        intro e
        injection e with e
        simp at e
        omega⟩
theorem RowsY.snoc {w : World} {lo : Nat} {ob : Option Nat} {xs : List Value} {rs : List (List UInt8)} (h : RowsY w lo ob xs rs) {A : Option Addr} {c : Nat} {bs : List UInt8} (hr : RdBF lo w A bs) (hne : 0 < bs.length → ∀ a, A = some a → some a.block ≠ ob) : RowsY w lo ob (xs ++ [.slice A bs.length c]) (rs ++ [bs]) :=
  ⟨by simp [h.1], fun k hk => by
    by_cases hk2 : k < rs.length
    · obtain ⟨A', c', h1, h2, h3⟩ := h.2 k hk2
      have e : (rs ++ [bs]).getD k [] = rs.getD k [] := by simp [List.getElem?_append_left hk2]
      rw [e]
      exact ⟨A', c', by rw [List.getElem?_append_left (by rw [h.1]; exact hk2)]; exact h1, h2, h3⟩
    · have hk3 : k = rs.length := by simp at hk; omega
      subst hk3
      have e : (rs ++ [bs]).getD rs.length [] = bs := by simp
      rw [e]
      exact ⟨A, c, by rw [← h.1]; simp, hr, hne⟩⟩
/-- An own row of slices, read as rows, with its room. -/
theorem rdf_own {w : World} {base : Nat} {e : TypeId} {v : Value} {n : Nat} {xs : List Value} {rs : List (List UInt8)} {ob : Option Nat} (h : w.ownsRow base e 1 v n xs) (hl : rs.length ≤ 140737488355328) (hx : RowsY w base ob xs rs) :
    ∃ A cap, v = .slice A rs.length cap ∧ rs.length ≤ cap ∧ RdF base w A rs := by
  have hn : n = rs.length := by have := h.1; have := hx.1; omega
  subst hn
  rcases h.2 with ⟨rfl, h0⟩ | ⟨g, cap, cur, rfl, hb, hg, h3, _, _, htk⟩
  · exact ⟨none, 0, by rw [h0], by omega, hl, fun h => by omega⟩
  · refine ⟨_, cap, rfl, h3, hl, fun _ => ⟨g, 0, rfl, (Array.getElem?_eq_some_iff.1 hg).1, hb, fun k hk => ?_⟩⟩
    obtain ⟨A, c, h1, h2, _⟩ := hx.2 k hk
    refine ⟨A, c, ?_, h2⟩
    rw [← htk, List.getElem?_take, if_pos (by omega), Array.getElem?_toList] at h1
    rw [Nat.zero_add, cell_of_row w g k cur e (0, 0) hg]
    exact h1
theorem OwB.rdbf {e : TypeId} {w : World} {B : Nat} {A : Option Addr} {n c : Nat} {bs : List UInt8} (h : OwB e w B (.slice A n c) bs) : RdBF B w A bs :=
  ⟨h.2, fun h0 => by
    obtain ⟨b, off, e, hb, hc⟩ := h.rdS.1.2 h0
    exact ⟨b, off, e, hb, by have := h.addr_ob h0 _ e; simpa using this, hc⟩⟩
end Go.Proofs.YtiipdhmfdgbmiaaDoor
end
