/- The example of chapter 9: it wakes. -/
import Derived.Test.YtdecpkcdljpnaaaDoorSupEncY
import Derived.Test.YtdecpkcdljpnaaaDoorStr
set_option linter.unusedVariables false
set_option linter.unusedSimpArgs false
namespace Go.Proofs.YtdecpkcdljpnaaaDoor
open Go.RowKit

def suOne : Su := ⟨1, 5, 3, 1, 0, 0, 0, false, 0, 0, 0⟩
theorem suZ64 : Su64 suZ := by constructor <;> (show _ ∧ _; decide)
theorem suOne64 : Su64 suOne := by constructor <;> (show _ ∧ _; decide)
theorem encZ_any (W : World) : Calls Tryd.prog 8 #[.agg #[.int .i64 0, .int .i64 0, .int .i64 0, .int .i64 0, .int .i64 0, .int .i64 0, .int .i64 0, .bool false, .int .i64 0, .int .i64 0, .int .i64 0]] W fun e w' => e = .returned (.tuple #[.slice none 0 0, .int .i64 1]) ∧ Below W.heap.size W w' :=
  suEncode_no suZ W suZ64 (show suOk suZ = false by decide)
theorem encOne_any (W : World) (ht : TabOk W) : Calls Tryd.prog 8 #[.agg #[.int .i64 1, .int .i64 5, .int .i64 3, .int .i64 1, .int .i64 0, .int .i64 0, .int .i64 0, .bool false, .int .i64 0, .int .i64 0, .int .i64 0]] W
    fun e w' => ∃ g : Nat, e = .returned (.tuple #[.slice (some ⟨g, 0, none⟩) 32 32, .int .i64 0]) ∧ OwB 5 w' W.heap.size (.slice (some ⟨g, 0, none⟩) 32 32) (suB suOne) ∧ Below W.heap.size W w' :=
  suEncode_yes suOne W suOne64 (show suOk suOne = true by decide) ht
set_option maxHeartbeats 1000000 in
theorem wakesSu_any (W : World) (ht : TabOk W) : Calls Tryd.prog 12 #[] W fun e w' => e = .returned (.bool true) ∧ Below W.heap.size W w' := by
  have Ht := Lib.hid ht
  clear ht
  go_enter Tryd.func12, Tryd.ntmps12
  go_wp2_with fail
  (with_reducible refine (encZ_any _).mono ?_); rintro e w1 ⟨rfl, hb1⟩
  have T1 := Lib.hid (Ht.out.below hb1 Ht.out.pos)
  go_wp2_with fail
  (with_reducible refine (encOne_any _ T1.out).mono ?_); rintro e w2 ⟨g, rfl, ho, hb2⟩
  have hb := hb1.trans (hb2.mono hb1.size)
  have e1 := conv_str (some ⟨g, 0, none⟩) [87, 83, 85, 80] 4 32 w2.heap.size w2 rfl (ho.rdS.1.take 4)
  have e2 : (binOp .eql 9 (str [87, 83, 85, 80]) (.string { data := #[87, 83, 85, 80] })).run Tryd.prog w2 = .ok (.bool true) w2 := str_eql 9 [87, 83, 85, 80] [87, 83, 85, 80] w2
  have e3 : ∀ x y, (eqGuard .eql 9 x y (str [87, 83, 85, 80]) (.string { data := #[87, 83, 85, 80] })) = pure () := fun _ _ => by unfold str; rw [eqGuard_at_string]
  generalize str [87, 83, 85, 80] = s1 at e1 e2 e3
  have Hb := Lib.hid hb
  clear hb1 hb2 ho hb
  go_wp2_with fail
  go_ret
  exact ⟨rfl, Hb.out⟩
end Go.Proofs.YtdecpkcdljpnaaaDoor
