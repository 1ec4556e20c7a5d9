/- The example of chapter 11: it wakes. -/
import Derived.Test.YtfgiomidlfoonaaDoorRecEnc
import Derived.Test.YtfgiomidlfoonaaDoorStr
set_option linter.unusedVariables false
set_option linter.unusedSimpArgs false
namespace Go.Proofs.YtfgiomidlfoonaaDoor
open Go.RowKit

theorem recNil_ok : recOk 1 [] = true := by decide
theorem head4 : ((recB 1 []).getD 0 []).take 4 = [87, 82, 69, 67] := by
  rw [recB_get0]
  unfold stamped
  rw [List.take_append_of_le_length (by rw [List.length_take, fullB_len (by simp)]; omega), List.take_take]
  rfl
set_option maxHeartbeats 1000000 in
theorem wakesRec_any (W : World) (ht : TabOk W) : Calls Tryd.prog 14 #[] W fun e w' => e = .returned (.bool true) ∧ Below W.heap.size W w' := by
  have CE := Lib.hid (encode_yes none 0 0 1 [] W rfl (Nat.le_refl _) (by omega) (RdI.nil _ _ _) (fun k hk => by simp at hk) (Lib.hid recNil_ok) ht)
  clear ht
  go_enter Tryd.func14, Tryd.ntmps14
  go_wp2_with fail
  (with_reducible refine CE.out.mono ?_); rintro e w1 ⟨g, bk, rfl, hp, hb⟩
  have hl : 0 < (recB 1 []).length := by rw [recB_len (by simp)]; omega
  have e0 : w1.cell? ⟨g, 0, none⟩ = some (.slice (some ⟨bk 0, 0, none⟩) 32 32) := by have := hp.row 0 (by omega); rwa [slv_yes hl] at this
  have hr4 := (hp.rd 0 hl).take 4
  rw [head4] at hr4
  have e1 := conv_str (some ⟨bk 0, 0, none⟩) [87, 82, 69, 67] 4 32 w1.heap.size w1 rfl hr4
  have e2 : (binOp .eql 9 (str [87, 82, 69, 67]) (.string { data := #[87, 82, 69, 67] })).run Tryd.prog w1 = .ok (.bool true) w1 := str_eql 9 [87, 82, 69, 67] [87, 82, 69, 67] w1
  have e3 : ∀ x y, (eqGuard .eql 9 x y (str [87, 82, 69, 67]) (.string { data := #[87, 82, 69, 67] })) = pure () := fun _ _ => by unfold str; rw [eqGuard_at_string]
  generalize str [87, 82, 69, 67] = s1 at e1 e2 e3
  have Hb := Lib.hid hb
  clear hp hr4 hb hl
  go_wp2_with fail
  go_ret
  exact ⟨rfl, Hb.out⟩
end Go.Proofs.YtfgiomidlfoonaaDoor
