/- What super.Encode computes. -/
import Derived.Test.YtdecpkcdljpnaaaDoorSupPutG
import Derived.Test.YtdecpkcdljpnaaaDoorSup
import Derived.Test.YtdecpkcdljpnaaaDoorSeal
import Derived.Test.YtdecpkcdljpnaaaDoorOpsKit
import Derived.Lib.LazyBuf
set_option linter.unusedVariables false
set_option linter.unusedSimpArgs false
namespace Go.Proofs.YtdecpkcdljpnaaaDoor
open Go.RowKit

def setsB (bs : List UInt8) : Nat → List UInt8 → List UInt8
  | _, [] => bs
  | o, x :: r => setsB (bs.set o x) (o + 1) r
theorem setsB_len : ∀ (xs : List UInt8) (o : Nat) (bs : List UInt8), (setsB bs o xs).length = bs.length
  | [], _, _ => rfl
  | x :: r, o, bs => (setsB_len r (o + 1) _).trans (List.length_set ..)
theorem OwB.sets {e : TypeId} {B g n cap : Nat} : ∀ (xs : List UInt8) (o : Nat) {w : World} {bs : List UInt8}, OwB e w B (.slice (some ⟨g, 0, none⟩) n cap) bs → bs.length = n →
    OwB e (w.setCells g o (xs.map fun x => Value.int .u8 (x.toNat : Int))) B (.slice (some ⟨g, 0, none⟩) n cap) (setsB bs o xs) ∧ w.grownBy (w.setCells g o (xs.map fun x => Value.int .u8 (x.toNat : Int))) (some g)
  | [], _, w, _, h, _ => ⟨h, World.grownBy.refl w _⟩
  | x :: r, o, w, bs, h, hn => by
    obtain ⟨h1, h2⟩ := h.set hn o x
    obtain ⟨h3, h4⟩ := OwB.sets r (o + 1) h1 ((List.length_set ..).trans hn)
    exact ⟨h3, h2.trans h4⟩
theorem size_u8' (w : World) : (Go.sizeOf 5).run Tryd.prog w = .ok 1 w := by kernel_rfl
/-- copy(own, a text). -/
theorem wpList_copy_S {w : World} {ops : Array Oper} {rest : List Oper} {o : Oper} {a : Act} {Q : Exit → Act → World → Prop} (hw : Region.wanted o (yielded ops a.tmps) = true) (d x : Operand)
    (ho : o.op = .call { callee := .builtin .copy, args := #[d, x], argTypes := #[26, 9] })
    (g n cap B : Nat) (ds xs : List UInt8) (hd : a.eval d = .slice (some ⟨g, 0, none⟩) n cap) (hx : a.eval x = .string ⟨xs.toArray⟩) (hown : OwB 5 w B (.slice (some ⟨g, 0, none⟩) n cap) ds) (hdn : ds.length = n) (hle : xs.length ≤ n)
    (h : ∀ w', OwB 5 w' B (.slice (some ⟨g, 0, none⟩) n cap) (setsB ds 0 xs) → w.grownBy w' (some g) → ∀ r : Value, wpList Tryd.prog ops Q rest (a.put o.dst r) w') : wpList Tryd.prog ops Q (o :: rest) a w := by
  refine BigFrame.wpList_want hw fun K hK => ?_
  have hsz : (⟨xs.toArray⟩ : ByteArray).size = xs.length := by show xs.toArray.size = _; simp
  have hrun := Go.run_copy_string (P := Tryd.prog) w 26 9 o.type 5 g 0 n cap ⟨xs.toArray⟩ Tryd.underlying26 size_u8' (by rw [hsz]; exact hle)
    (fun j hj => by rw [Nat.zero_add, (hown.cell hdn j (by omega)).1]; rfl) (fun j hj => by rw [Nat.zero_add]; exact (hown.cell hdn j (by omega)).2)
  obtain ⟨h1, h2⟩ := hown.sets xs 0 hdn
  unfold Oper.wp execOp
  simp only [ho, resolve, invoke, builtin, Sem.run_bind, Sem.run_pure, Result.andThen_ok, List.map_toArray, List.map_cons, List.map_nil, hd, hx, hrun]
  exact hK _ _ (h _ h1 h2 _)
/-- What stays while a Super's sector is made. -/
structure ENC (w0 : World) (bx g : Nat) (s : Su) (bs : List UInt8) (W : World) : Prop where
  box : SAt W bx s
  own : OwB 5 W w0.heap.size (.slice (some ⟨g, 0, none⟩) 32 32) bs
  len : bs.length = 32
  below : Below w0.heap.size w0 W
  ne : bx ≠ g
  le : w0.heap.size ≤ g
theorem SAt.grown {w w' : World} {b g : Nat} {s : Su} (h : SAt w b s) (hg : w.grownBy w' (some g)) (hne : b ≠ g) : SAt w' b s := by
  have hl := h.lt
  exact h.keep fun k => hg.cell_far ⟨b, k, none⟩ hl (fun e => hne (by injection e))
theorem ENC.drew {w0 W : World} {bx g : Nat} {s : Su} {bs : List UInt8} (h : ENC w0 bx g s bs W) : ENC w0 bx g s bs W.drew := ⟨h.box, h.own.drew, h.len, h.below.drew, h.ne, h.le⟩
theorem ENC.step {w0 W W' : World} {bx g : Nat} {s : Su} {bs bs' : List UInt8} (h : ENC w0 bx g s bs W) (ho : OwB 5 W' w0.heap.size (.slice (some ⟨g, 0, none⟩) 32 32) bs') (hg : W.grownBy W' (some g)) (hl : bs'.length = bs.length) : ENC w0 bx g s bs' W' :=
  ⟨h.box.grown hg h.ne, ho, hl.trans h.len, h.below.grown hg h.below.size (fun j e => by injection e with e; subst e; exact h.le), h.ne, h.le⟩
theorem ENC.put {w0 W : World} {bx g : Nat} {s : Su} {bs : List UInt8} (h : ENC w0 bx g s bs W) (off len cap : Nat) (n : Int) (hn : 0 ≤ n ∧ n ≤ 2147483647) (hl : off + len ≤ 32) (h4 : len ≤ 4) (hc : len ≤ cap) :
    Calls Tryd.prog 20 #[.slice (some ⟨g, off, none⟩) len cap, .int .i64 n] W fun e w' => e = .returned (.tuple #[]) ∧ ENC w0 bx g s (putK bs off len n len) w' := by
  refine (suPut_any g off len cap 32 _ n bs W hn h.own h.len hl h4 hc).mono ?_
  rintro e w' ⟨rfl, h1, h2⟩
  exact ⟨rfl, h.step h1 h2 (putK_len _ _ _ _ _)⟩
theorem ENC.putG {w0 W : World} {bx g : Nat} {s : Su} {bs : List UInt8} (h : ENC w0 bx g s bs W) (off cap : Nat) (l d c : Int) (hl : 0 ≤ l ∧ l ≤ 255) (hd : 0 ≤ d ∧ d ≤ 255) (hc : 0 ≤ c ∧ c ≤ 255) (hoc : (off = 8 ∧ cap = 24) ∨ (off = 11 ∧ cap = 21)) :
    Calls Tryd.prog 21 #[.slice (some ⟨g, off, none⟩) 3 cap, .agg #[.int .i64 l, .int .i64 d, .int .i64 c]] W fun e w' => e = .returned (.tuple #[]) ∧ ENC w0 bx g s (putK (putK (putK bs off 1 l 1) (off + 1) 1 d 1) (off + 2) 1 c 1) w' := by
  refine (suPutG_any g off cap _ l d c bs W hl hd hc h.own h.len hoc).mono ?_
  rintro e w' ⟨rfl, h1, h2⟩
  exact ⟨rfl, h.step h1 h2 (by rw [putK_len, putK_len, putK_len])⟩
theorem suEncode_no (s : Su) (w : World) (h : Su64 s) (hk : Hid (suOk s = false)) :
    Calls Tryd.prog 8 #[.agg #[.int .i64 s.g, .int .i64 s.al, .int .i64 s.ad, .int .i64 s.ac, .int .i64 s.bl, .int .i64 s.bd, .int .i64 s.bc, .bool s.r, .int .i64 s.wi, .int .i64 s.ep, .int .i64 s.ou]] w fun e w' => e = .returned (.tuple #[.slice none 0 0, .int .i64 1]) ∧ Below w.heap.size w w' := by
  have C := Lib.hid (fun W => suCheck_no s W h hk)
  have S0 := ss_new w s 25 (0, 0)
  go_enter Tryd.func8, Tryd.ntmps8
  go_wp2_with fail
  (with_reducible refine (C.out _).mono ?_); rintro e w1 ⟨rfl, hb⟩
  have S1 := S0.later hb
  go_wp2_with fail
  go_ret2
  exact ⟨rfl, S1.2.1⟩
theorem suLast (s : Su) : putK (putK (putK ((putK (putK (putK (putK (putK (putK (putK (setsB (List.replicate 32 0) 0 [87, 83, 85, 80]) 4 4 s.g 4) 8 1 s.al 1) 9 1 s.ad 1) 10 1 s.ac 1) 11 1 s.bl 1) 12 1 s.bd 1) 13 1 s.bc 1).set 14 (rnB s.r)) 15 1 s.wi 1) 16 2 s.ep 2) 18 1 s.ou 1 = suFull s := rfl
end Go.Proofs.YtdecpkcdljpnaaaDoor
