/- GfAll walked: a map that the law makes. -/
import Derived.Test.YthhmalmkengfmaaGfFormsLaw
import Derived.Maps.OwnSet
namespace Go.Proofs.Ythhmalmkengfmaa
open Go.RowKit

theorem keyB : Maps.Keyed Try.prog 5 := Maps.int_keyed Try.underlying5
theorem wf_byte (x : Nat) (hx : x < 256) : (Lit.int .u8 (x : Int)).wf = true := by go_wf
theorem lit_nat_inj {a b : Nat} (h : Lit.int .u8 (a : Int) = .int .u8 (b : Int)) : a = b := by injection h with _ h; omega
theorem keyB_of (x : Nat) (hx : x < 256) : keyOf Try.prog 5 (.int .u8 (x : Int)) = some (.int .u8 (x : Int)) := Maps.keyOf_int_mk Try.underlying5 (wf_byte x hx)
theorem zeroBool (w : World) : (zeroValue 4).run Try.prog w = .ok (.bool false) w := by kernel_rfl
def HadK (w : World) (B k : Nat) (s : Int) : Prop := ∃ D : DataW Unit, w.ownsMap Try.prog 5 (plainElem Try.prog 4) B k D ∧ Maps.size D = k ∧ ∀ j : Nat, k ≤ j → j < 255 → Maps.has D (.int .u8 (gpow (s + (j : Int)) : Nat)) = false
theorem had_start (w : World) (s : Int) : HadK (w.alloc (.map #[] 0)) w.heap.size 0 s := ⟨.map [], World.ownsMap_made _ _ _ _, rfl, fun _ _ _ => rfl⟩
theorem HadK.look {w : World} {B k : Nat} {s : Int} (h : HadK w B k s) (hk : k < 255) : (Instr.lookup 30 (.map (some B)) (.int .u8 (gpow (s + (k : Int)) : Nat)) false).run Try.prog w = .ok (.bool false) w := by
  obtain ⟨D, hown, hs, hn⟩ := h
  obtain ⟨v, ps, hrun, hv⟩ := hown.lookup keyB Try.underlying30 (zeroBool w) (plainElem_bool Try.underlying4 false) (keyB_of _ (gpow_lt _))
  rw [Maps.atKey_of_not_has (hn k (Nat.le_refl _) hk)] at hv
  have : v = .bool false := by
    unfold plainElem at hv
    rw [Try.underlying4] at hv
    cases v <;> simp at hv
    simp [hv]
  rw [hrun, this]
theorem HadK.store {w : World} {B k : Nat} {s : Int} (h : HadK w B k s) (hk : k < 255) : ∃ w', (Instr.mapUpdate 30 (.map (some B)) (.int .u8 (gpow (s + (k : Int)) : Nat)) (.bool true)).run Try.prog w = .ok () w' ∧ HadK w' B (k + 1) s ∧ w.grownBy w' (some B) := by
  obtain ⟨D, hown, hs, hn⟩ := h
  obtain ⟨w', hrun, hown', hg⟩ := hown.update keyB Try.underlying30 (by unfold maxLen; omega) (keyB_of _ (gpow_lt _)) (plainElem_bool Try.underlying4 true)
  refine ⟨w', hrun, ⟨_, hown', ?_, fun j hj hj2 => ?_⟩, hg⟩
  · rw [Maps.size_put (hown.tidy keyB), hn k (Nat.le_refl _) hk]; simp [hs]
  · rw [Maps.has_put_other]
    · exact hn j (by omega) hj2
    · intro e
      have e1 : gpow (s + (j : Int)) = gpow (s + (k : Int)) := lit_nat_inj e
      have e3 := congrArg glog e1
      rw [glog_gpow, glog_gpow] at e3
      omega
theorem HadK.len {w : World} {B k : Nat} {s : Int} (h : HadK w B k s) (ty : TypeId) : (Builtin.len_ #[30] ty #[.map (some B)]).run Try.prog w = .ok (.int .i64 (k : Int)) w := by
  obtain ⟨D, hown, hs, _⟩ := h
  rw [hown.len Try.underlying30 ty, hs]
theorem all_div {x : Nat} : gdiv 1 x = ginv x := gmul_one_left _ (ginv_lt x)
theorem all_log (n : Int) : glog (ginv (gpow n)) = (255 - glog (gpow n)) % 255 := by
  rw [glog_gpow]
  have h : ginv (gpow n) = gpow (-n) := (inv_only (gpow_lt n) (gpow_lt (-n)) (by rw [gpow_add, Int.add_right_neg]; decide +kernel)).symm
  rw [h, glog_gpow]; omega
theorem div_one_any (x : Nat) (hx : x < 256) (w : World) : Calls Try.prog 9 #[.int .u8 1, .int .u8 (x : Int)] w fun e w' => e = .returned (.int .u8 ((gdiv 1 x : Nat) : Int)) ∧ w' = w := div_any 1 x (by decide) hx w
theorem bne_same (a b : Int) (h : a = b) : (a != b) = false := by simp [h]
set_option maxRecDepth 100000 in
set_option maxHeartbeats 1000000 in
theorem gfall (n : Int) (w : World) (_ : -9223372036854775808 ≤ n ∧ n ≤ 9223372036854775807) :
    Calls Try.prog 4 #[.int .i64 n] w fun e w' => e = .returned (.bool true) ∧ Below w.heap.size w w' := by
  have n1 : -100000 < n.tmod 100000 := Int.lt_tmod_of_pos _ (by omega)
  have n2 : n.tmod 100000 < 100000 := Int.tmod_lt_of_pos _ (by omega)
  have hmm := @run_makeMap Try.prog
  go_enter Try.func4, Try.ntmps4
  go_wp2_with fail
  clear hmm
  generalize n.tmod 100000 = s at n1 n2 ⊢
  go_loopw [4] (fun i wr => ∃ k : Nat, k ≤ 255 ∧ i = .int .i64 k ∧ HadK wr w.heap.size k s ∧ Below w.heap.size w wr) (fun i _ => 255 - (intOf i).toNat)
  case atStart => exact ⟨0, by omega, rfl, had_start w s, below1 _ _⟩
  case round =>
    obtain ⟨k, hk, rfl, hH, hB⟩ := hrel
    by_cases hlt : k < 255
    · have hlook := hH.look hlt
      obtain ⟨w1, hst, hH1, hg⟩ := hH.store hlt
      have hx := gpow_lt (s + (k : Int))
      have hi := ginv_lt (gpow (s + (k : Int)))
      have f0 : (((gpow (s + (k : Int)) : Nat) : Int) == 0) = false := by have := gpow_ne (s + (k : Int)); simp; omega
      have f1 := bne_no (ginv_ginv hx)
      have f2 := bne_no (all_div (x := gpow (s + (k : Int))))
      have f3 := all_log (s + (k : Int))
      have l1 := glog_bd hx
      have l0 : 0 ≤ glog (gpow (s + (k : Int))) := by rw [glog_gpow]; omega
      have HP := Lib.hid fun w => pow_any (s + (k : Int)) (by omega) w
      have f4 := bne_same (glog (ginv (gpow (s + (k : Int))))) _ f3
      clear f3
      have hd1 := gdiv_lt (gpow (s + (k : Int))) (show 1 < 256 by decide)
      generalize gpow (s + (k : Int)) = x at hlook hst hx hi f0 f1 f2 f4 l1 l0 HP hd1
      obtain ⟨l1, l2⟩ := l1
      go_wp2_with (first
        | (go_at_call 10; (with_reducible refine (HP.out _).mono ?_); rintro e w' ⟨rfl, rfl⟩)
        | (go_at_call 11; (with_reducible refine (inv_any _ (by assumption) _).mono ?_); rintro e w' ⟨rfl, rfl⟩)
        | (go_at_call 9; (with_reducible refine (div_one_any x hx _).mono ?_); rintro e w' ⟨rfl, rfl⟩)
        | (go_at_call 12; (with_reducible refine (log_any _ (by assumption) _).mono ?_); rintro e w' ⟨rfl, rfl⟩))
      go_roundw
      case rel => exact ⟨k + 1, by omega, by go_num, hH1, hB.grown hg hB.size (fun g e => by injection e with e; omega)⟩
      case measure => simp [intOf]; omega
    · obtain rfl : k = 255 := by omega
      have hlen := hH.len
      go_wp2_with (go_at_call 13; (with_reducible refine (wakesGf_any _).mono ?_); rintro e w' ⟨rfl, rfl⟩)
      go_ret
      exact ⟨rfl, hB⟩
end Go.Proofs.Ythhmalmkengfmaa
