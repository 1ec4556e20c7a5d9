/- super.Encode of a Super that may be. -/
import Derived.Test.YtdecpkcdljpnaaaDoorSupEnc
set_option linter.unusedVariables false
set_option linter.unusedSimpArgs false
namespace Go.Proofs.YtdecpkcdljpnaaaDoor
open Go.RowKit

theorem makeSec (w : World) : (Instr.makeSlice 26 (.int .i64 32) (.int .i64 32)).run Tryd.prog w = .ok (.slice (some ⟨w.heap.size, 0, none⟩) 32 32) (w.alloc (.cells (zcells 32) 5)) := make_bytes 32 (by omega) w
set_option maxHeartbeats 4000000 in
theorem suEncode_yes (s : Su) (w : World) (h : Su64 s) (hk : Hid (suOk s = true)) (ht : TabOk w) :
    Calls Tryd.prog 8 #[.agg #[.int .i64 s.g, .int .i64 s.al, .int .i64 s.ad, .int .i64 s.ac, .int .i64 s.bl, .int .i64 s.bd, .int .i64 s.bc, .bool s.r, .int .i64 s.wi, .int .i64 s.ep, .int .i64 s.ou]] w fun e w' => ∃ g : Nat, e = .returned (.tuple #[.slice (some ⟨g, 0, none⟩) 32 32, .int .i64 0]) ∧ OwB 5 w' w.heap.size (.slice (some ⟨g, 0, none⟩) 32 32) (suB s) ∧ Below w.heap.size w w' := by
  have C := Lib.hid (fun W => suCheck_yes s W h hk)
  have I := Lib.hid (suIn hk.out)
  have HL := Lib.hid (suLast s)
  have S0 := ss_new w s 25 (0, 0)
  have Ht := Lib.hid ht
  have hmk := makeSec
  clear ht h hk
  go_enter Tryd.func8, Tryd.ntmps8
  go_wp2_with fail
  (with_reducible refine (C.out _).mono ?_); rintro e w1 ⟨rfl, hb⟩
  have S1 := S0.later hb
  clear S0 hb C
  have E0 : ENC w w.heap.size w1.heap.size s (List.replicate 32 0) (w1.alloc (.cells (zcells 32) 5)) := by
    have O := own_make 5 w1 32 (by omega)
    exact ⟨S1.1.below (below1 w1 _) S1.2.2, O.le S1.2.1.size, by simp, S1.2.1.trans ((below1 w1 _).mono S1.2.1.size), by have := S1.2.2; omega, S1.2.1.size⟩
  clear S1
  generalize hW : w1.alloc (.cells (zcells 32) 5) = W0 at E0
  go_wp2_with (refine wpList_copy_S rfl _ _ rfl w1.heap.size 32 32 w.heap.size (List.replicate 32 0) [87, 83, 85, 80] rfl rfl E0.own E0.len (by decide) ?_; intro w2 o2 g2 rv; have E1 := E0.step o2 g2 (setsB_len _ _ _))
  clear E0 o2 g2 hW
  go_region_held3 (fun W => SAt W w.heap.size s)
    (first | exact E1.box | exact E1.drew.box | exact E2.box | exact E2.drew.box)
    (first
      | (go_at_call 20
         (with_reducible refine (E1.drew.put 4 4 28 s.g (by have := I.out.g; omega) (by omega) (by omega) (by omega)).mono ?_)
         rintro e wx ⟨rfl, E2⟩
         dsimp only))
  clear E1
  go_wp2
  go_region_held3 (fun W => SAt W w.heap.size s)
    (first | exact E2.box | exact E2.drew.box | exact E3.box | exact E3.drew.box)
    (first
      | (go_at_call 21
         (with_reducible refine (E2.drew.putG 8 24 s.al s.ad s.ac I.out.al I.out.ad I.out.ac (.inl ⟨rfl, rfl⟩)).mono ?_)
         rintro e wx ⟨rfl, E3⟩
         dsimp only))
  clear E2
  go_wp2
  go_region_held3 (fun W => SAt W w.heap.size s)
    (first | exact E3.box | exact E3.drew.box | exact E4.box | exact E4.drew.box)
    (first
      | (go_at_call 21
         (with_reducible refine (E3.drew.putG 11 21 s.bl s.bd s.bc I.out.bl I.out.bd I.out.bc (.inr ⟨rfl, rfl⟩)).mono ?_)
         rintro e wx ⟨rfl, E4⟩
         dsimp only))
  clear E3
  obtain ⟨c0, c1, c2, c3, c4, c5, c6, c7, c8, c9, c10⟩ := E4.box
  obtain ⟨q14, f14⟩ := E4.own.cell E4.len 14 (by omega)
  go_upto_if 30 with fail
  go_cut [31, 32] (fun _ _ W => ENC w w.heap.size w1.heap.size s ((putK (putK (putK (putK (putK (putK (putK (setsB (List.replicate 32 0) 0 [87, 83, 85, 80]) 4 4 s.g 4) 8 1 s.al 1) 9 1 s.ad 1) 10 1 s.ac 1) 11 1 s.bl 1) 12 1 s.bd 1) 13 1 s.bc 1).set 14 (rnB s.r)) W)
  case first =>
    have o := E4.own.set E4.len 14 1
    have E5 := E4.step o.1 o.2 (List.length_set ..)
    have Et : Hid (s.r = true → ENC w w.heap.size w1.heap.size s ((putK (putK (putK (putK (putK (putK (putK (setsB (List.replicate 32 0) 0 [87, 83, 85, 80]) 4 4 s.g 4) 8 1 s.al 1) 9 1 s.ad 1) 10 1 s.ac 1) 11 1 s.bl 1) 12 1 s.bd 1) 13 1 s.bc 1).set 14 (rnB s.r)) (wx.setCell ⟨w1.heap.size, 14, none⟩ (.int .u8 1))) := Lib.hid fun hr => by rw [show rnB s.r = 1 by rw [hr]; rfl]; exact E5
    have Ef : Hid (s.r = false → ENC w w.heap.size w1.heap.size s ((putK (putK (putK (putK (putK (putK (putK (setsB (List.replicate 32 0) 0 [87, 83, 85, 80]) 4 4 s.g 4) 8 1 s.al 1) 9 1 s.ad 1) 10 1 s.ac 1) 11 1 s.bl 1) 12 1 s.bd 1) 13 1 s.bc 1).set 14 (rnB s.r)) wx) := Lib.hid fun hr => by rw [show rnB s.r = 0 by rw [hr]; rfl]; exact E4
    clear o E5 E4
    go_wp2_with fail
    all_goals
      go_meet
      first | exact Et.out (by assumption) | exact Ef.out (by assumption)
  case rest =>
    clear E4 c0 c1 c2 c3 c4 c5 c6 c7 c8 c9 c10 q14 f14
    have E5 := hcut
    clear hcut
    go_wp2
    go_region_held3 (fun W => SAt W w.heap.size s)
      (first | exact E5.box | exact E5.drew.box | exact E6.box | exact E6.drew.box)
      (first
        | (go_at_call 20
           (with_reducible refine (E5.drew.put 15 1 17 s.wi (by have := I.out.wi; omega) (by omega) (by omega) (by omega)).mono ?_)
           rintro e wx ⟨rfl, E6⟩
           dsimp only))
    clear E5
    go_wp2
    go_region_held3 (fun W => SAt W w.heap.size s)
      (first | exact E6.box | exact E6.drew.box | exact E7.box | exact E7.drew.box)
      (first
        | (go_at_call 20
           (with_reducible refine (E6.drew.put 16 2 16 s.ep (by have := I.out.ep; omega) (by omega) (by omega) (by omega)).mono ?_)
           rintro e wx ⟨rfl, E7⟩
           dsimp only))
    clear E6
    go_wp2
    go_region_held3 (fun W => SAt W w.heap.size s)
      (first | exact E7.box | exact E7.drew.box | exact E8.box | exact E8.drew.box)
      (first
        | (go_at_call 20
           (with_reducible refine (E7.drew.put 18 1 14 s.ou (by have := I.out.ou; omega) (by omega) (by omega) (by omega)).mono ?_)
           rintro e wx ⟨rfl, E8⟩
           dsimp only))
    clear E7
    rw [HL.out] at E8
    have hw0 : 0 < w.heap.size := Ht.out.pos
    have T := Ht.out.below E8.below hw0
    have S := stamp_n w1.heap.size 32 _ 32 none 0 (suFull s) [] 0 _ rfl rfl E8.own rfl ⟨by simp, fun h => by simp at h⟩ T
    go_wp2_with (go_at_call 22; refine S.mono ?_; rintro e wy ⟨rfl, h1, h2⟩; have E9 := E8.step h1 h2 (stamped_len _ _ rfl))
    go_ret2
    exact ⟨_, rfl, E9.own, E9.below⟩
end Go.Proofs.YtdecpkcdljpnaaaDoor
