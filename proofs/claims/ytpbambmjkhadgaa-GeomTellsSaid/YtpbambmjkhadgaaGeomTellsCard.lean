/- Of any geometry whether it may be, how many disks may be lost, how wide it is, how much it holds; of any two whether a reshape can go from one to the other. No condition. -/
import Derived.Lib.SmallJoins
import Derived.Test.YtpbambmjkhadgaaGeomTellsLaw
import Derived.Test.YtpbambmjkhadgaaPlain
namespace Go.Proofs.Ytpbambmjkhadgaa.geomTells
open Go.ChangeShapes Go.WideShapes Go.ChangeAt Go.RowKit

theorem contract (H : Type) (enc : TypeId × Value → H) (W : World) (base : Nat) (args : Array Value) (ds gs : List (DataW H)) (before : List MemPlace)
    (hval : ∀ (j : Nat) t v, Try.f4.params[j]? = some t → args[j]? = some v → Value.okWide Try.prog W .any base t v)
    (hW : DataW.Whole enc Try.prog Try.f4.params.toList Rows.geomTellsSpec.vars false W args.toList ds gs before)
    :
    Calls Try.prog 4 args W fun e W' => ∃ v, e = .returned v ∧ Rows.geomTellsSpec.post enc Try.prog Try.f4 false true false false W args v W' := by
  have hW0 := hW
  obtain ⟨p, q, hA0, hV, rfl, hfz, hnd⟩ := hW
  have hA : DataW.TrodAll enc Try.prog W 0 (fun _ => true) true Try.f4.params.toList args.toList ds p := hA0
  rw [Try.params4] at hA hval
  obtain ⟨v0, vs0, d0, ds0, p0, q0, hargs, rfl, rfl, h0, r0⟩ := trodAll_cons hA
  obtain ⟨v1, vs1, d1, ds1, p1, q1, rfl, rfl, rfl, h1, r1⟩ := trodAll_cons r0
  obtain ⟨v2, vs2, d2, ds2, p2, q2, rfl, rfl, rfl, h2, r2⟩ := trodAll_cons r1
  obtain ⟨v3, vs3, d3, ds3, p3, q3, rfl, rfl, rfl, h3, r3⟩ := trodAll_cons r2
  obtain ⟨v4, vs4, d4, ds4, p4, q4, rfl, rfl, rfl, h4, r4⟩ := trodAll_cons r3
  obtain ⟨rfl, rfl, rfl⟩ := trodAll_nil r4
  obtain rfl : args = #[v0, v1, v2, v3, v4] := by cases args; simp_all
  obtain ⟨rfl, rfl⟩ := trodVars_none hV
  obtain ⟨a_0, a_1, a_2, y0_a, y1_a, y2_a, k_a, rfl, rfl, rfl, e0_a, e1_a, e2_a⟩ := Go.Joins.open_agg3 Try.underlying25 (by kernel_rfl) (by kernel_rfl) (hval 0 25 v0 rfl rfl) h0
  obtain ⟨al, f0_a, rfl, w0_a⟩ := DataW.trod_int Try.underlying3 e0_a
  obtain ⟨ad, f1_a, rfl, w1_a⟩ := DataW.trod_int Try.underlying3 e1_a
  obtain ⟨ac, f2_a, rfl, w2_a⟩ := DataW.trod_int Try.underlying3 e2_a
  simp only [List.cons.injEq, and_true] at f0_a f1_a f2_a
  subst f0_a f1_a f2_a
  obtain ⟨b_0, b_1, b_2, y0_b, y1_b, y2_b, k_b, rfl, rfl, rfl, e0_b, e1_b, e2_b⟩ := Go.Joins.open_agg3 Try.underlying25 (by kernel_rfl) (by kernel_rfl) (hval 1 25 v1 rfl rfl) h1
  obtain ⟨bl, f0_b, rfl, w0_b⟩ := DataW.trod_int Try.underlying3 e0_b
  obtain ⟨bd, f1_b, rfl, w1_b⟩ := DataW.trod_int Try.underlying3 e1_b
  obtain ⟨bc, f2_b, rfl, w2_b⟩ := DataW.trod_int Try.underlying3 e2_b
  simp only [List.cons.injEq, and_true] at f0_b f1_b f2_b
  subst f0_b f1_b f2_b
  obtain ⟨m, rfl, rfl, rfl, w_m⟩ := open_int Try.underlying3 (hval 2 3 v2 rfl rfl) h2
  obtain ⟨n, rfl, rfl, rfl, w_n⟩ := open_int Try.underlying3 (hval 3 3 v3 rfl rfl) h3
  obtain ⟨raw, rfl, rfl, rfl⟩ := open_bool Try.underlying4 (hval 4 4 v4 rfl rfl) h4
  refine (geomtells al ad ac bl bd bc m n raw W (by have := bounds_i64 w0_a; omega) (by have := bounds_i64 w1_a; omega) (by have := bounds_i64 w2_a; omega) (by have := bounds_i64 w0_b; omega) (by have := bounds_i64 w1_b; omega) (by have := bounds_i64 w2_b; omega) (by have := bounds_i64 w_m; omega) (by have := bounds_i64 w_n; omega)).mono fun e W' ⟨he, hb⟩ => ?_
  subst he
  exact law_post laidOut (by kernel_rfl) rfl rfl Try.underlying4 (fun l hl => by
    have hl' : l.length = 5 := hl.trans (by kernel_rfl)
    match l, hl' with
    | [_, _, _, _, _], _ => exact ⟨rfl, rfl, rfl⟩) hW0 hb

set_option maxRecDepth 100000 in
theorem lifted (os : Os) (started : os.Started) (H : Type) (enc : TypeId × Value → H) :
    ReturnsInHanded {} Try.checked os 4 .any (Rows.geomTellsSpec.pre6 enc Try.prog Try.f4 Rows.geomTellsRow.domain false) (Rows.geomTellsSpec.post enc Try.prog Try.f4 false true false false) := by
  refine returnsInHanded_of_change (C := Try.checked) own started (by kernel_rfl) Try.func4
    (ChangeSpec.witness6 (enc := enc) (C := Try.checked) false ⟨#[], #[.agg #[.int .i64 0, .int .i64 0, .int .i64 0], .agg #[.int .i64 0, .int .i64 0, .int .i64 0], .int .i64 0, .int .i64 0, .bool false], []⟩ 8 (by kernel_rfl) (by kernel_rfl) (by kernel_rfl) (by kernel_rfl)) ?_
  intro W base args ds gs before hval0 hW hcnd hsz
  exact contract H enc W base args ds gs before hval0 hW 
theorem said : Rows.GeomTellsSaid :=
  OpenClaim.holds_of_wide 4 Try.f4 rfl rfl rfl rfl rfl rfl rfl ⟨rfl, rfl, rfl, rfl, rfl⟩ rfl rfl rfl rfl rfl (by kernel_rfl) Try.func4 (by kernel_rfl)
    (of_decide_eq_true (by kernel_rfl)) (by unfold Func.isWrapper; first | (rw [if_pos (by decide +kernel)]; kernel_rfl) | (rw [if_neg (by decide +kernel)]; exact ⟨rfl, rfl⟩))
    (fun os started H enc _ => lifted os started H enc)
end Go.Proofs.Ytpbambmjkhadgaa.geomTells
