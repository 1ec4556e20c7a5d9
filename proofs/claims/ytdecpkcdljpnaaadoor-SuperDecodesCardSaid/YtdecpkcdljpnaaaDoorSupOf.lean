/- The statements' Super of numbers: some Super. -/
import Derived.Test.YtdecpkcdljpnaaaDoorSupFld
import Derived.Test.YtdecpkcdljpnaaaDoorPlayGood
set_option linter.unusedVariables false
set_option linter.unusedSimpArgs false
namespace Go.Proofs.YtdecpkcdljpnaaaDoor
open Go.RowKit

/-- What stays: a box of zeros, and the Super that is made. -/
abbrev OF (w : World) (s : Su) (W : World) : Prop := W.heap[w.heap.size]? = some (.cells #[.int .i64 suZ.g, .int .i64 suZ.al, .int .i64 suZ.ad, .int .i64 suZ.ac, .int .i64 suZ.bl, .int .i64 suZ.bd, .int .i64 suZ.bc, .bool suZ.r, .int .i64 suZ.wi, .int .i64 suZ.ep, .int .i64 suZ.ou] 25 (0, 0)) ∧ W.heap[w.heap.size + 1]? = some (.cells #[.int .i64 s.g, .int .i64 s.al, .int .i64 s.ad, .int .i64 s.ac, .int .i64 s.bl, .int .i64 s.bd, .int .i64 s.bc, .bool s.r, .int .i64 s.wi, .int .i64 s.ep, .int .i64 s.ou] 25 (0, 0)) ∧ Below w.heap.size w W
theorem OF.later {w W W' : World} {s : Su} (h : OF w s W) (hb : Below W.heap.size W W') : OF w s W' :=
  ⟨(hb.block _ (Array.getElem?_eq_some_iff.1 h.1).1).trans h.1, (hb.block _ (Array.getElem?_eq_some_iff.1 h.2.1).1).trans h.2.1, h.2.2.trans (hb.mono h.2.2.size)⟩
theorem OF.set {w W W' : World} {s s' : Su} (h : OF w s W) (hg : W.grownBy W' (some (w.heap.size + 1))) (hn : W'.heap[w.heap.size + 1]? = some (.cells #[.int .i64 s'.g, .int .i64 s'.al, .int .i64 s'.ad, .int .i64 s'.ac, .int .i64 s'.bl, .int .i64 s'.bd, .int .i64 s'.bc, .bool s'.r, .int .i64 s'.wi, .int .i64 s'.ep, .int .i64 s'.ou] 25 (0, 0))) : OF w s' W' :=
  ⟨(hg.block _ (Array.getElem?_eq_some_iff.1 h.1).1 (fun e => by injection e with e; omega)).trans h.1, hn, h.2.2.grown hg h.2.2.size (fun j e => by injection e with e; omega)⟩
theorem of_new (w : World) (s : Su) : OF w s ((w.alloc (.cells #[.int .i64 suZ.g, .int .i64 suZ.al, .int .i64 suZ.ad, .int .i64 suZ.ac, .int .i64 suZ.bl, .int .i64 suZ.bd, .int .i64 suZ.bc, .bool suZ.r, .int .i64 suZ.wi, .int .i64 suZ.ep, .int .i64 suZ.ou] 25)).alloc (.cells #[.int .i64 s.g, .int .i64 s.al, .int .i64 s.ad, .int .i64 s.ac, .int .i64 s.bl, .int .i64 s.bd, .int .i64 s.bc, .bool s.r, .int .i64 s.wi, .int .i64 s.ep, .int .i64 s.ou] 25)) :=
  ⟨(hp_old _ _ _ (by simp)).trans (hp_new _ _ _ rfl), hp_new _ _ _ (by simp), below2 _ _ _⟩
theorem cells3 (x y z : Int) : ∀ u ∈ [Value.int .i64 x, .int .i64 y, .int .i64 z], u.oneCell' = true := by
  intro u hu
  simp only [List.mem_cons, List.not_mem_nil, or_false] at hu
  rcases hu with rfl | rfl | rfl <;> rfl
theorem cells1 (x : Int) : ∀ u ∈ [Value.int .i64 x], u.oneCell' = true := by intro u hu; rw [List.mem_singleton.1 hu]; rfl
theorem cellsB (x : Bool) : ∀ u ∈ [Value.bool x], u.oneCell' = true := by intro u hu; rw [List.mem_singleton.1 hu]; rfl
set_option maxRecDepth 100000 in
set_option maxHeartbeats 8000000 in
theorem suOf_w (gen a b window epoch out how k1 k2 k3 kw kh kc : Int) (w : World) (hgen : (-9223372036854775808 ≤ gen ∧ gen ≤ 9223372036854775807)) (ha : (-9223372036854775808 ≤ a ∧ a ≤ 9223372036854775807)) (hb : (-9223372036854775808 ≤ b ∧ b ≤ 9223372036854775807)) (hwin : (-9223372036854775808 ≤ window ∧ window ≤ 9223372036854775807)) (hep : (-9223372036854775808 ≤ epoch ∧ epoch ≤ 9223372036854775807)) (hout : (-9223372036854775808 ≤ out ∧ out ≤ 9223372036854775807)) (hhow : (-9223372036854775808 ≤ how ∧ how ≤ 9223372036854775807))
    (b1 : 0 ≤ k1 ∧ k1 < 2147483647) (b2 : 0 ≤ k2 ∧ k2 < 65536) (b3 : 0 ≤ k3 ∧ k3 < 256) (b4 : 0 ≤ kw ∧ kw < 17) (b5 : 0 ≤ kh ∧ kh < 2) (b6 : 0 ≤ kc ∧ kc < 20)
    (W1 : Hid (∀ V, Calls Tryd.prog 10 #[.int .i64 gen, .int .i64 2147483647] V fun e w' => e = .returned (.int .i64 k1) ∧ w' = V))
    (W2 : Hid (∀ V, Calls Tryd.prog 10 #[.int .i64 epoch, .int .i64 65536] V fun e w' => e = .returned (.int .i64 k2) ∧ w' = V))
    (W3 : Hid (∀ V, Calls Tryd.prog 10 #[.int .i64 out, .int .i64 256] V fun e w' => e = .returned (.int .i64 k3) ∧ w' = V))
    (W4 : Hid (∀ V, Calls Tryd.prog 10 #[.int .i64 window, .int .i64 17] V fun e w' => e = .returned (.int .i64 kw) ∧ w' = V))
    (W5 : Hid (∀ V, Calls Tryd.prog 10 #[.int .i64 how, .int .i64 2] V fun e w' => e = .returned (.int .i64 kh) ∧ w' = V))
    (W6 : Hid (∀ V, Calls Tryd.prog 10 #[.int .i64 (how.tdiv 2), .int .i64 20] V fun e w' => e = .returned (.int .i64 kc) ∧ w' = V))
    (PP : Hid (∀ V, Calls Tryd.prog 27 #[.int .i64 a, .int .i64 b] V fun e w' => ∃ l d c l' d' c' : Int, e = .returned (.tuple #[.agg #[.int .i64 l, .int .i64 d, .int .i64 c], .agg #[.int .i64 l', .int .i64 d', .int .i64 c']]) ∧ (0 ≤ l ∧ l ≤ 255) ∧ (0 ≤ d ∧ d ≤ 255) ∧ (0 ≤ c ∧ c ≤ 255) ∧ (0 ≤ l' ∧ l' ≤ 255) ∧ (0 ≤ d' ∧ d' ≤ 255) ∧ (0 ≤ c' ∧ c' ≤ 255) ∧ Below V.heap.size V w')) :
    Calls Tryd.prog 13 #[.int .i64 gen, .int .i64 a, .int .i64 b, .int .i64 window, .int .i64 epoch, .int .i64 out, .int .i64 how] w fun e w' => ∃ s, Su64 s ∧ e = .returned (.agg #[.int .i64 s.g, .int .i64 s.al, .int .i64 s.ad, .int .i64 s.ac, .int .i64 s.bl, .int .i64 s.bd, .int .i64 s.bc, .bool s.r, .int .i64 s.wi, .int .i64 s.ep, .int .i64 s.ou]) ∧ Below w.heap.size w w' := by
  have hgo := gOk_bd (go_ok a)
  have PG := Lib.hid (fun V => playGood_any a V ha)
  have hpa := pg_bd a
  have hpb := pg_bd b
  have PA := Lib.hid (fun V => playGeom_any a V ha)
  have PB := Lib.hid (fun V => playGeom_any b V hb)
  generalize goL a = gl at PG hgo
  generalize goD a = gd at PG hgo
  generalize goC a = gc at PG hgo
  generalize pgL a = al at PA hpa
  generalize pgD a = ad at PA hpa
  generalize pgC a = ac at PA hpa
  generalize pgL b = bl at PB hpb
  generalize pgD b = bd at PB hpb
  generalize pgC b = bc at PB hpb
  have hw1 : IntKind.i64.wrap (1 + k1) = 1 + k1 := IntWalk.i64_in _ (by omega)
  have O0 := Lib.hid (of_new w ⟨1 + k1, 0, 0, 0, 0, 0, 0, false, 0, k2, k3⟩)
  go_enter Tryd.func13, Tryd.ntmps13
  go_wp2_with fail
  (with_reducible refine (W1.out _).mono ?_); rintro e w' ⟨rfl, rfl⟩
  go_wp2_with fail
  (with_reducible refine (W2.out _).mono ?_); rintro e w' ⟨rfl, rfl⟩
  go_wp2_with fail
  (with_reducible refine (W3.out _).mono ?_); rintro e w' ⟨rfl, rfl⟩
  go_wp2_with fail
  (with_reducible refine (PG.out _).mono ?_); rintro e w1 ⟨rfl, hb1⟩
  have O1 := Lib.hid (O0.out.later hb1)
  clear O0 hb1 PG
  go_upto_if 34 with (first
    | (refine wpList_store_blk rfl 23 _ _ (by rfl) (w.heap.size + 1) 1 (.agg #[.int .i64 gl, .int .i64 gd, .int .i64 gc]) (by rfl) (by rfl) (suL (⟨1 + k1, 0, 0, 0, 0, 0, 0, false, 0, k2, k3⟩ : Su)) 25 O1.out.2.1 [.int .i64 gl, .int .i64 gd, .int .i64 gc] rfl 3 rfl (by kernel_rfl) (by show 1 + 3 ≤ 11; omega) (cells3 gl gd gc) (suL (⟨1 + k1, gl, gd, gc, 0, 0, 0, false, 0, k2, k3⟩ : Su)) (by rfl) ?_
       intro w2 h2 g2
       have O2 := Lib.hid (O1.out.set g2 h2)
       clear h2 g2)
    | (go_at_call 10; (with_reducible refine (W5.out _).mono ?_); rintro e wz ⟨rfl, hwz⟩; obtain rfl := hwz))
  go_cut [35, 36, 37, 38, 39, 40, 41, 42, 43, 44, 45, 46, 47] (fun _ _ _ _ _ _ _ _ _ _ _ _ _ W => ∃ s, Su64 s ∧ OF w s W)
  case first =>
    by_cases h1 : kh = 1
    · subst h1
      go_wp2_with fail
      (with_reducible refine (PP.out _).mono ?_); rintro e wp ⟨l, d, c, l', d', c', rfl, hl, hd, hc, hl', hd', hc', hbp⟩
      have O3 := Lib.hid (O2.out.later hbp)
      clear O2 hbp
      go_wp2_with (first
        | (refine wpList_store_blk rfl 23 _ _ (by rfl) (w.heap.size + 1) 1 (.agg #[.int .i64 l, .int .i64 d, .int .i64 c]) (by rfl) (by rfl) (suL (⟨1 + k1, gl, gd, gc, 0, 0, 0, false, 0, k2, k3⟩ : Su)) 25 O3.out.2.1 [.int .i64 l, .int .i64 d, .int .i64 c] rfl 3 rfl (by kernel_rfl) (by show 1 + 3 ≤ 11; omega) (cells3 l d c) (suL (⟨1 + k1, l, d, c, 0, 0, 0, false, 0, k2, k3⟩ : Su)) (by rfl) ?_
           intro w4 h4 g4
           have O4 := Lib.hid (O3.out.set g4 h4)
           clear h4 g4)
        | (refine wpList_store_blk rfl 23 _ _ (by rfl) (w.heap.size + 1) 4 (.agg #[.int .i64 l', .int .i64 d', .int .i64 c']) (by rfl) (by rfl) (suL (⟨1 + k1, l, d, c, 0, 0, 0, false, 0, k2, k3⟩ : Su)) 25 O4.out.2.1 [.int .i64 l', .int .i64 d', .int .i64 c'] rfl 3 rfl (by kernel_rfl) (by show 4 + 3 ≤ 11; omega) (cells3 l' d' c') (suL (⟨1 + k1, l, d, c, l', d', c', false, 0, k2, k3⟩ : Su)) (by rfl) ?_
           intro w5 h5 g5
           have O5 := Lib.hid (O4.out.set g5 h5)
           clear h5 g5)
        | (go_at_call 10; (with_reducible refine (W4.out _).mono ?_); rintro e wz ⟨rfl, hwz⟩; obtain rfl := hwz)
        | (refine wpList_store_blk rfl 4 _ _ (by rfl) (w.heap.size + 1) 7 (.bool true) (by rfl) (by rfl) (suL (⟨1 + k1, l, d, c, l', d', c', false, 0, k2, k3⟩ : Su)) 25 O5.out.2.1 [.bool true] rfl 1 rfl (by kernel_rfl) (by show 7 + 1 ≤ 11; omega) (cellsB true) (suL (⟨1 + k1, l, d, c, l', d', c', true, 0, k2, k3⟩ : Su)) (by rfl) ?_
           intro w6 h6 g6
           have O6 := Lib.hid (O5.out.set g6 h6)
           clear h6 g6)
        | (refine wpList_store_blk rfl 3 _ _ (by rfl) (w.heap.size + 1) 8 (.int .i64 kw) (by rfl) (by rfl) (suL (⟨1 + k1, l, d, c, l', d', c', true, 0, k2, k3⟩ : Su)) 25 O6.out.2.1 [.int .i64 kw] rfl 1 rfl (by kernel_rfl) (by show 8 + 1 ≤ 11; omega) (cells1 kw) (suL (⟨1 + k1, l, d, c, l', d', c', true, kw, k2, k3⟩ : Su)) (by rfl) ?_
           intro w7 h7 g7
           have O7 := Lib.hid (O6.out.set g7 h7)
           clear h7 g7))
      go_meet
      exact ⟨_, (by constructor <;> (show _ ∧ _; simp only; omega)), O7.out⟩
    · have e1 : (kh == 1) = false := ibeq_no h1
      clear h1
      go_wp2_with fail
      go_meet
      exact ⟨_, (by constructor <;> (show _ ∧ _; simp only; omega)), O2.out⟩
  case rest =>
    obtain ⟨s, h64, OS⟩ := hcut
    have O := Lib.hid OS
    clear OS O2 W1 W2 W3 W4 W5 PP b1 b2 b3 b4 b5
    go_wp2_with fail
    (with_reducible refine (W6.out _).mono ?_); rintro e wz ⟨rfl, hwz⟩
    obtain rfl := hwz
    dsimp only
    clear W6
    by_cases hv : kc = 14
    · subst hv
      have H64 : Su64 (⟨gen, s.al, s.ad, s.ac, s.bl, s.bd, s.bc, s.r, s.wi, s.ep, s.ou⟩ : Su) := by
              obtain ⟨q1, q2, q3, q4, q5, q6, q7, q8, q9, q10⟩ := h64
              constructor <;> (show _ ∧ _; simp only; omega)
      go_wp2_with (first
        | (refine wpList_store_blk rfl 3 _ _ (by rfl) (w.heap.size + 1) 0 (.int .i64 gen) (by rfl) (by rfl) (suL s) 25 O.out.2.1 [.int .i64 gen] rfl 1 rfl (by kernel_rfl) (by show 0 + 1 ≤ 11; omega) (cells1 gen) (suL (⟨gen, s.al, s.ad, s.ac, s.bl, s.bd, s.bc, s.r, s.wi, s.ep, s.ou⟩ : Su)) (by rfl) ?_
           intro w31 h31 g31
           have O31 := Lib.hid (O.out.set g31 h31)
           clear h31 g31
           obtain ⟨z0, z1, z2, z3, z4, z5, z6, z7, z8, z9, z10⟩ := sat_block O31.out.2.1)
        | (refine wpList_store_blk rfl 25 _ _ (by rfl) w.heap.size 0 (.agg (suL (⟨gen, s.al, s.ad, s.ac, s.bl, s.bd, s.bc, s.r, s.wi, s.ep, s.ou⟩ : Su)).toArray) (by rfl) (by rfl) (suL suZ) 25 O31.out.1 (suL (⟨gen, s.al, s.ad, s.ac, s.bl, s.bd, s.bc, s.r, s.wi, s.ep, s.ou⟩ : Su)) rfl 11 rfl (by kernel_rfl) (by decide) (suL_one (⟨gen, s.al, s.ad, s.ac, s.bl, s.bd, s.bc, s.r, s.wi, s.ep, s.ou⟩ : Su)) (suL (⟨gen, s.al, s.ad, s.ac, s.bl, s.bd, s.bc, s.r, s.wi, s.ep, s.ou⟩ : Su)) (by rfl) ?_
           intro wf hf gf
           have FF := O31.out.2.2.grown gf O31.out.2.2.size (fun j e => by injection e with e; omega)
           obtain ⟨y0, y1, y2, y3, y4, y5, y6, y7, y8, y9, y10⟩ := sat_block (s := (⟨gen, s.al, s.ad, s.ac, s.bl, s.bd, s.bc, s.r, s.wi, s.ep, s.ou⟩ : Su)) hf
           clear hf gf))
      refine bodyPost_ret (v := .agg #[.int .i64 (⟨gen, s.al, s.ad, s.ac, s.bl, s.bd, s.bc, s.r, s.wi, s.ep, s.ou⟩ : Su).g, .int .i64 (⟨gen, s.al, s.ad, s.ac, s.bl, s.bd, s.bc, s.r, s.wi, s.ep, s.ou⟩ : Su).al, .int .i64 (⟨gen, s.al, s.ad, s.ac, s.bl, s.bd, s.bc, s.r, s.wi, s.ep, s.ou⟩ : Su).ad, .int .i64 (⟨gen, s.al, s.ad, s.ac, s.bl, s.bd, s.bc, s.r, s.wi, s.ep, s.ou⟩ : Su).ac, .int .i64 (⟨gen, s.al, s.ad, s.ac, s.bl, s.bd, s.bc, s.r, s.wi, s.ep, s.ou⟩ : Su).bl, .int .i64 (⟨gen, s.al, s.ad, s.ac, s.bl, s.bd, s.bc, s.r, s.wi, s.ep, s.ou⟩ : Su).bd, .int .i64 (⟨gen, s.al, s.ad, s.ac, s.bl, s.bd, s.bc, s.r, s.wi, s.ep, s.ou⟩ : Su).bc, .bool (⟨gen, s.al, s.ad, s.ac, s.bl, s.bd, s.bc, s.r, s.wi, s.ep, s.ou⟩ : Su).r, .int .i64 (⟨gen, s.al, s.ad, s.ac, s.bl, s.bd, s.bc, s.r, s.wi, s.ep, s.ou⟩ : Su).wi, .int .i64 (⟨gen, s.al, s.ad, s.ac, s.bl, s.bd, s.bc, s.r, s.wi, s.ep, s.ou⟩ : Su).ep, .int .i64 (⟨gen, s.al, s.ad, s.ac, s.bl, s.bd, s.bc, s.r, s.wi, s.ep, s.ou⟩ : Su).ou]) (by simp [results, Tryd.results13, go_sem, y0, y1, y2, y3, y4, y5, y6, y7, y8, y9, y10]) rfl ⟨(⟨gen, s.al, s.ad, s.ac, s.bl, s.bd, s.bc, s.r, s.wi, s.ep, s.ou⟩ : Su), H64, rfl, FF⟩
    by_cases hv : kc = 15
    · subst hv
      have H64 : Su64 (⟨s.g, al, ad, ac, s.bl, s.bd, s.bc, s.r, s.wi, s.ep, s.ou⟩ : Su) := by
              obtain ⟨q1, q2, q3, q4, q5, q6, q7, q8, q9, q10⟩ := h64
              constructor <;> (show _ ∧ _; simp only; omega)
      go_wp2_with (first
        | (go_at_call 28; (with_reducible refine (PA.out _).mono ?_); rintro e wg ⟨rfl, hbg⟩; have O30 := Lib.hid (O.out.later hbg); clear hbg)
        | (refine wpList_store_blk rfl 23 _ _ (by rfl) (w.heap.size + 1) 1 (.agg #[.int .i64 al, .int .i64 ad, .int .i64 ac]) (by rfl) (by rfl) (suL s) 25 O30.out.2.1 [.int .i64 al, .int .i64 ad, .int .i64 ac] rfl 3 rfl (by kernel_rfl) (by show 1 + 3 ≤ 11; omega) (cells3 al ad ac) (suL (⟨s.g, al, ad, ac, s.bl, s.bd, s.bc, s.r, s.wi, s.ep, s.ou⟩ : Su)) (by rfl) ?_
           intro w31 h31 g31
           have O31 := Lib.hid (O30.out.set g31 h31)
           clear h31 g31
           obtain ⟨z0, z1, z2, z3, z4, z5, z6, z7, z8, z9, z10⟩ := sat_block O31.out.2.1)
        | (refine wpList_store_blk rfl 25 _ _ (by rfl) w.heap.size 0 (.agg (suL (⟨s.g, al, ad, ac, s.bl, s.bd, s.bc, s.r, s.wi, s.ep, s.ou⟩ : Su)).toArray) (by rfl) (by rfl) (suL suZ) 25 O31.out.1 (suL (⟨s.g, al, ad, ac, s.bl, s.bd, s.bc, s.r, s.wi, s.ep, s.ou⟩ : Su)) rfl 11 rfl (by kernel_rfl) (by decide) (suL_one (⟨s.g, al, ad, ac, s.bl, s.bd, s.bc, s.r, s.wi, s.ep, s.ou⟩ : Su)) (suL (⟨s.g, al, ad, ac, s.bl, s.bd, s.bc, s.r, s.wi, s.ep, s.ou⟩ : Su)) (by rfl) ?_
           intro wf hf gf
           have FF := O31.out.2.2.grown gf O31.out.2.2.size (fun j e => by injection e with e; omega)
           obtain ⟨y0, y1, y2, y3, y4, y5, y6, y7, y8, y9, y10⟩ := sat_block (s := (⟨s.g, al, ad, ac, s.bl, s.bd, s.bc, s.r, s.wi, s.ep, s.ou⟩ : Su)) hf
           clear hf gf))
      refine bodyPost_ret (v := .agg #[.int .i64 (⟨s.g, al, ad, ac, s.bl, s.bd, s.bc, s.r, s.wi, s.ep, s.ou⟩ : Su).g, .int .i64 (⟨s.g, al, ad, ac, s.bl, s.bd, s.bc, s.r, s.wi, s.ep, s.ou⟩ : Su).al, .int .i64 (⟨s.g, al, ad, ac, s.bl, s.bd, s.bc, s.r, s.wi, s.ep, s.ou⟩ : Su).ad, .int .i64 (⟨s.g, al, ad, ac, s.bl, s.bd, s.bc, s.r, s.wi, s.ep, s.ou⟩ : Su).ac, .int .i64 (⟨s.g, al, ad, ac, s.bl, s.bd, s.bc, s.r, s.wi, s.ep, s.ou⟩ : Su).bl, .int .i64 (⟨s.g, al, ad, ac, s.bl, s.bd, s.bc, s.r, s.wi, s.ep, s.ou⟩ : Su).bd, .int .i64 (⟨s.g, al, ad, ac, s.bl, s.bd, s.bc, s.r, s.wi, s.ep, s.ou⟩ : Su).bc, .bool (⟨s.g, al, ad, ac, s.bl, s.bd, s.bc, s.r, s.wi, s.ep, s.ou⟩ : Su).r, .int .i64 (⟨s.g, al, ad, ac, s.bl, s.bd, s.bc, s.r, s.wi, s.ep, s.ou⟩ : Su).wi, .int .i64 (⟨s.g, al, ad, ac, s.bl, s.bd, s.bc, s.r, s.wi, s.ep, s.ou⟩ : Su).ep, .int .i64 (⟨s.g, al, ad, ac, s.bl, s.bd, s.bc, s.r, s.wi, s.ep, s.ou⟩ : Su).ou]) (by simp [results, Tryd.results13, go_sem, y0, y1, y2, y3, y4, y5, y6, y7, y8, y9, y10]) rfl ⟨(⟨s.g, al, ad, ac, s.bl, s.bd, s.bc, s.r, s.wi, s.ep, s.ou⟩ : Su), H64, rfl, FF⟩
    by_cases hv : kc = 16
    · subst hv
      have H64 : Su64 (⟨s.g, s.al, s.ad, s.ac, bl, bd, bc, s.r, s.wi, s.ep, s.ou⟩ : Su) := by
              obtain ⟨q1, q2, q3, q4, q5, q6, q7, q8, q9, q10⟩ := h64
              constructor <;> (show _ ∧ _; simp only; omega)
      go_wp2_with (first
        | (go_at_call 28; (with_reducible refine (PB.out _).mono ?_); rintro e wg ⟨rfl, hbg⟩; have O30 := Lib.hid (O.out.later hbg); clear hbg)
        | (refine wpList_store_blk rfl 23 _ _ (by rfl) (w.heap.size + 1) 4 (.agg #[.int .i64 bl, .int .i64 bd, .int .i64 bc]) (by rfl) (by rfl) (suL s) 25 O30.out.2.1 [.int .i64 bl, .int .i64 bd, .int .i64 bc] rfl 3 rfl (by kernel_rfl) (by show 4 + 3 ≤ 11; omega) (cells3 bl bd bc) (suL (⟨s.g, s.al, s.ad, s.ac, bl, bd, bc, s.r, s.wi, s.ep, s.ou⟩ : Su)) (by rfl) ?_
           intro w31 h31 g31
           have O31 := Lib.hid (O30.out.set g31 h31)
           clear h31 g31
           obtain ⟨z0, z1, z2, z3, z4, z5, z6, z7, z8, z9, z10⟩ := sat_block O31.out.2.1)
        | (refine wpList_store_blk rfl 25 _ _ (by rfl) w.heap.size 0 (.agg (suL (⟨s.g, s.al, s.ad, s.ac, bl, bd, bc, s.r, s.wi, s.ep, s.ou⟩ : Su)).toArray) (by rfl) (by rfl) (suL suZ) 25 O31.out.1 (suL (⟨s.g, s.al, s.ad, s.ac, bl, bd, bc, s.r, s.wi, s.ep, s.ou⟩ : Su)) rfl 11 rfl (by kernel_rfl) (by decide) (suL_one (⟨s.g, s.al, s.ad, s.ac, bl, bd, bc, s.r, s.wi, s.ep, s.ou⟩ : Su)) (suL (⟨s.g, s.al, s.ad, s.ac, bl, bd, bc, s.r, s.wi, s.ep, s.ou⟩ : Su)) (by rfl) ?_
           intro wf hf gf
           have FF := O31.out.2.2.grown gf O31.out.2.2.size (fun j e => by injection e with e; omega)
           obtain ⟨y0, y1, y2, y3, y4, y5, y6, y7, y8, y9, y10⟩ := sat_block (s := (⟨s.g, s.al, s.ad, s.ac, bl, bd, bc, s.r, s.wi, s.ep, s.ou⟩ : Su)) hf
           clear hf gf))
      refine bodyPost_ret (v := .agg #[.int .i64 (⟨s.g, s.al, s.ad, s.ac, bl, bd, bc, s.r, s.wi, s.ep, s.ou⟩ : Su).g, .int .i64 (⟨s.g, s.al, s.ad, s.ac, bl, bd, bc, s.r, s.wi, s.ep, s.ou⟩ : Su).al, .int .i64 (⟨s.g, s.al, s.ad, s.ac, bl, bd, bc, s.r, s.wi, s.ep, s.ou⟩ : Su).ad, .int .i64 (⟨s.g, s.al, s.ad, s.ac, bl, bd, bc, s.r, s.wi, s.ep, s.ou⟩ : Su).ac, .int .i64 (⟨s.g, s.al, s.ad, s.ac, bl, bd, bc, s.r, s.wi, s.ep, s.ou⟩ : Su).bl, .int .i64 (⟨s.g, s.al, s.ad, s.ac, bl, bd, bc, s.r, s.wi, s.ep, s.ou⟩ : Su).bd, .int .i64 (⟨s.g, s.al, s.ad, s.ac, bl, bd, bc, s.r, s.wi, s.ep, s.ou⟩ : Su).bc, .bool (⟨s.g, s.al, s.ad, s.ac, bl, bd, bc, s.r, s.wi, s.ep, s.ou⟩ : Su).r, .int .i64 (⟨s.g, s.al, s.ad, s.ac, bl, bd, bc, s.r, s.wi, s.ep, s.ou⟩ : Su).wi, .int .i64 (⟨s.g, s.al, s.ad, s.ac, bl, bd, bc, s.r, s.wi, s.ep, s.ou⟩ : Su).ep, .int .i64 (⟨s.g, s.al, s.ad, s.ac, bl, bd, bc, s.r, s.wi, s.ep, s.ou⟩ : Su).ou]) (by simp [results, Tryd.results13, go_sem, y0, y1, y2, y3, y4, y5, y6, y7, y8, y9, y10]) rfl ⟨(⟨s.g, s.al, s.ad, s.ac, bl, bd, bc, s.r, s.wi, s.ep, s.ou⟩ : Su), H64, rfl, FF⟩
    by_cases hv : kc = 17
    · subst hv
      have H64 : Su64 (⟨s.g, s.al, s.ad, s.ac, s.bl, s.bd, s.bc, s.r, window, s.ep, s.ou⟩ : Su) := by
              obtain ⟨q1, q2, q3, q4, q5, q6, q7, q8, q9, q10⟩ := h64
              constructor <;> (show _ ∧ _; simp only; omega)
      go_wp2_with (first
        | (refine wpList_store_blk rfl 3 _ _ (by rfl) (w.heap.size + 1) 8 (.int .i64 window) (by rfl) (by rfl) (suL s) 25 O.out.2.1 [.int .i64 window] rfl 1 rfl (by kernel_rfl) (by show 8 + 1 ≤ 11; omega) (cells1 window) (suL (⟨s.g, s.al, s.ad, s.ac, s.bl, s.bd, s.bc, s.r, window, s.ep, s.ou⟩ : Su)) (by rfl) ?_
           intro w31 h31 g31
           have O31 := Lib.hid (O.out.set g31 h31)
           clear h31 g31
           obtain ⟨z0, z1, z2, z3, z4, z5, z6, z7, z8, z9, z10⟩ := sat_block O31.out.2.1)
        | (refine wpList_store_blk rfl 25 _ _ (by rfl) w.heap.size 0 (.agg (suL (⟨s.g, s.al, s.ad, s.ac, s.bl, s.bd, s.bc, s.r, window, s.ep, s.ou⟩ : Su)).toArray) (by rfl) (by rfl) (suL suZ) 25 O31.out.1 (suL (⟨s.g, s.al, s.ad, s.ac, s.bl, s.bd, s.bc, s.r, window, s.ep, s.ou⟩ : Su)) rfl 11 rfl (by kernel_rfl) (by decide) (suL_one (⟨s.g, s.al, s.ad, s.ac, s.bl, s.bd, s.bc, s.r, window, s.ep, s.ou⟩ : Su)) (suL (⟨s.g, s.al, s.ad, s.ac, s.bl, s.bd, s.bc, s.r, window, s.ep, s.ou⟩ : Su)) (by rfl) ?_
           intro wf hf gf
           have FF := O31.out.2.2.grown gf O31.out.2.2.size (fun j e => by injection e with e; omega)
           obtain ⟨y0, y1, y2, y3, y4, y5, y6, y7, y8, y9, y10⟩ := sat_block (s := (⟨s.g, s.al, s.ad, s.ac, s.bl, s.bd, s.bc, s.r, window, s.ep, s.ou⟩ : Su)) hf
           clear hf gf))
      refine bodyPost_ret (v := .agg #[.int .i64 (⟨s.g, s.al, s.ad, s.ac, s.bl, s.bd, s.bc, s.r, window, s.ep, s.ou⟩ : Su).g, .int .i64 (⟨s.g, s.al, s.ad, s.ac, s.bl, s.bd, s.bc, s.r, window, s.ep, s.ou⟩ : Su).al, .int .i64 (⟨s.g, s.al, s.ad, s.ac, s.bl, s.bd, s.bc, s.r, window, s.ep, s.ou⟩ : Su).ad, .int .i64 (⟨s.g, s.al, s.ad, s.ac, s.bl, s.bd, s.bc, s.r, window, s.ep, s.ou⟩ : Su).ac, .int .i64 (⟨s.g, s.al, s.ad, s.ac, s.bl, s.bd, s.bc, s.r, window, s.ep, s.ou⟩ : Su).bl, .int .i64 (⟨s.g, s.al, s.ad, s.ac, s.bl, s.bd, s.bc, s.r, window, s.ep, s.ou⟩ : Su).bd, .int .i64 (⟨s.g, s.al, s.ad, s.ac, s.bl, s.bd, s.bc, s.r, window, s.ep, s.ou⟩ : Su).bc, .bool (⟨s.g, s.al, s.ad, s.ac, s.bl, s.bd, s.bc, s.r, window, s.ep, s.ou⟩ : Su).r, .int .i64 (⟨s.g, s.al, s.ad, s.ac, s.bl, s.bd, s.bc, s.r, window, s.ep, s.ou⟩ : Su).wi, .int .i64 (⟨s.g, s.al, s.ad, s.ac, s.bl, s.bd, s.bc, s.r, window, s.ep, s.ou⟩ : Su).ep, .int .i64 (⟨s.g, s.al, s.ad, s.ac, s.bl, s.bd, s.bc, s.r, window, s.ep, s.ou⟩ : Su).ou]) (by simp [results, Tryd.results13, go_sem, y0, y1, y2, y3, y4, y5, y6, y7, y8, y9, y10]) rfl ⟨(⟨s.g, s.al, s.ad, s.ac, s.bl, s.bd, s.bc, s.r, window, s.ep, s.ou⟩ : Su), H64, rfl, FF⟩
    by_cases hv : kc = 18
    · subst hv
      have H64 : Su64 (⟨s.g, s.al, s.ad, s.ac, s.bl, s.bd, s.bc, s.r, s.wi, epoch, out⟩ : Su) := by
              obtain ⟨q1, q2, q3, q4, q5, q6, q7, q8, q9, q10⟩ := h64
              constructor <;> (show _ ∧ _; simp only; omega)
      go_wp2_with (first
        | (refine wpList_store_blk rfl 3 _ _ (by rfl) (w.heap.size + 1) 9 (.int .i64 epoch) (by rfl) (by rfl) (suL s) 25 O.out.2.1 [.int .i64 epoch] rfl 1 rfl (by kernel_rfl) (by show 9 + 1 ≤ 11; omega) (cells1 epoch) (suL (⟨s.g, s.al, s.ad, s.ac, s.bl, s.bd, s.bc, s.r, s.wi, epoch, s.ou⟩ : Su)) (by rfl) ?_
           intro w31 h31 g31
           have O31 := Lib.hid (O.out.set g31 h31)
           clear h31 g31)
        | (refine wpList_store_blk rfl 3 _ _ (by rfl) (w.heap.size + 1) 10 (.int .i64 out) (by rfl) (by rfl) (suL (⟨s.g, s.al, s.ad, s.ac, s.bl, s.bd, s.bc, s.r, s.wi, epoch, s.ou⟩ : Su)) 25 O31.out.2.1 [.int .i64 out] rfl 1 rfl (by kernel_rfl) (by show 10 + 1 ≤ 11; omega) (cells1 out) (suL (⟨s.g, s.al, s.ad, s.ac, s.bl, s.bd, s.bc, s.r, s.wi, epoch, out⟩ : Su)) (by rfl) ?_
           intro w32 h32 g32
           have O32 := Lib.hid (O31.out.set g32 h32)
           clear h32 g32
           obtain ⟨z0, z1, z2, z3, z4, z5, z6, z7, z8, z9, z10⟩ := sat_block O32.out.2.1)
        | (refine wpList_store_blk rfl 25 _ _ (by rfl) w.heap.size 0 (.agg (suL (⟨s.g, s.al, s.ad, s.ac, s.bl, s.bd, s.bc, s.r, s.wi, epoch, out⟩ : Su)).toArray) (by rfl) (by rfl) (suL suZ) 25 O32.out.1 (suL (⟨s.g, s.al, s.ad, s.ac, s.bl, s.bd, s.bc, s.r, s.wi, epoch, out⟩ : Su)) rfl 11 rfl (by kernel_rfl) (by decide) (suL_one (⟨s.g, s.al, s.ad, s.ac, s.bl, s.bd, s.bc, s.r, s.wi, epoch, out⟩ : Su)) (suL (⟨s.g, s.al, s.ad, s.ac, s.bl, s.bd, s.bc, s.r, s.wi, epoch, out⟩ : Su)) (by rfl) ?_
           intro wf hf gf
           have FF := O32.out.2.2.grown gf O32.out.2.2.size (fun j e => by injection e with e; omega)
           obtain ⟨y0, y1, y2, y3, y4, y5, y6, y7, y8, y9, y10⟩ := sat_block (s := (⟨s.g, s.al, s.ad, s.ac, s.bl, s.bd, s.bc, s.r, s.wi, epoch, out⟩ : Su)) hf
           clear hf gf))
      refine bodyPost_ret (v := .agg #[.int .i64 (⟨s.g, s.al, s.ad, s.ac, s.bl, s.bd, s.bc, s.r, s.wi, epoch, out⟩ : Su).g, .int .i64 (⟨s.g, s.al, s.ad, s.ac, s.bl, s.bd, s.bc, s.r, s.wi, epoch, out⟩ : Su).al, .int .i64 (⟨s.g, s.al, s.ad, s.ac, s.bl, s.bd, s.bc, s.r, s.wi, epoch, out⟩ : Su).ad, .int .i64 (⟨s.g, s.al, s.ad, s.ac, s.bl, s.bd, s.bc, s.r, s.wi, epoch, out⟩ : Su).ac, .int .i64 (⟨s.g, s.al, s.ad, s.ac, s.bl, s.bd, s.bc, s.r, s.wi, epoch, out⟩ : Su).bl, .int .i64 (⟨s.g, s.al, s.ad, s.ac, s.bl, s.bd, s.bc, s.r, s.wi, epoch, out⟩ : Su).bd, .int .i64 (⟨s.g, s.al, s.ad, s.ac, s.bl, s.bd, s.bc, s.r, s.wi, epoch, out⟩ : Su).bc, .bool (⟨s.g, s.al, s.ad, s.ac, s.bl, s.bd, s.bc, s.r, s.wi, epoch, out⟩ : Su).r, .int .i64 (⟨s.g, s.al, s.ad, s.ac, s.bl, s.bd, s.bc, s.r, s.wi, epoch, out⟩ : Su).wi, .int .i64 (⟨s.g, s.al, s.ad, s.ac, s.bl, s.bd, s.bc, s.r, s.wi, epoch, out⟩ : Su).ep, .int .i64 (⟨s.g, s.al, s.ad, s.ac, s.bl, s.bd, s.bc, s.r, s.wi, epoch, out⟩ : Su).ou]) (by simp [results, Tryd.results13, go_sem, y0, y1, y2, y3, y4, y5, y6, y7, y8, y9, y10]) rfl ⟨(⟨s.g, s.al, s.ad, s.ac, s.bl, s.bd, s.bc, s.r, s.wi, epoch, out⟩ : Su), H64, rfl, FF⟩
    by_cases hv : kc = 19
    · subst hv
      have H64 : Su64 (⟨s.g, s.al, s.ad, s.ac, s.bl, s.bd, s.bc, !s.r, s.wi, s.ep, s.ou⟩ : Su) := by
              obtain ⟨q1, q2, q3, q4, q5, q6, q7, q8, q9, q10⟩ := h64
              constructor <;> (show _ ∧ _; simp only; omega)
      obtain ⟨c0, c1, c2, c3, c4, c5, c6, c7, c8, c9, c10⟩ := sat_block O.out.2.1
      go_wp2_with (first
        | (refine wpList_store_blk rfl 4 _ _ (by rfl) (w.heap.size + 1) 7 (.bool (!s.r)) (by rfl) (by rfl) (suL s) 25 O.out.2.1 [.bool (!s.r)] rfl 1 rfl (by kernel_rfl) (by show 7 + 1 ≤ 11; omega) (cellsB (!s.r)) (suL (⟨s.g, s.al, s.ad, s.ac, s.bl, s.bd, s.bc, !s.r, s.wi, s.ep, s.ou⟩ : Su)) (by rfl) ?_
           intro w31 h31 g31
           have O31 := Lib.hid (O.out.set g31 h31)
           clear h31 g31
           obtain ⟨z0, z1, z2, z3, z4, z5, z6, z7, z8, z9, z10⟩ := sat_block O31.out.2.1)
        | (refine wpList_store_blk rfl 25 _ _ (by rfl) w.heap.size 0 (.agg (suL (⟨s.g, s.al, s.ad, s.ac, s.bl, s.bd, s.bc, !s.r, s.wi, s.ep, s.ou⟩ : Su)).toArray) (by rfl) (by rfl) (suL suZ) 25 O31.out.1 (suL (⟨s.g, s.al, s.ad, s.ac, s.bl, s.bd, s.bc, !s.r, s.wi, s.ep, s.ou⟩ : Su)) rfl 11 rfl (by kernel_rfl) (by decide) (suL_one (⟨s.g, s.al, s.ad, s.ac, s.bl, s.bd, s.bc, !s.r, s.wi, s.ep, s.ou⟩ : Su)) (suL (⟨s.g, s.al, s.ad, s.ac, s.bl, s.bd, s.bc, !s.r, s.wi, s.ep, s.ou⟩ : Su)) (by rfl) ?_
           intro wf hf gf
           have FF := O31.out.2.2.grown gf O31.out.2.2.size (fun j e => by injection e with e; omega)
           obtain ⟨y0, y1, y2, y3, y4, y5, y6, y7, y8, y9, y10⟩ := sat_block (s := (⟨s.g, s.al, s.ad, s.ac, s.bl, s.bd, s.bc, !s.r, s.wi, s.ep, s.ou⟩ : Su)) hf
           clear hf gf))
      refine bodyPost_ret (v := .agg #[.int .i64 (⟨s.g, s.al, s.ad, s.ac, s.bl, s.bd, s.bc, !s.r, s.wi, s.ep, s.ou⟩ : Su).g, .int .i64 (⟨s.g, s.al, s.ad, s.ac, s.bl, s.bd, s.bc, !s.r, s.wi, s.ep, s.ou⟩ : Su).al, .int .i64 (⟨s.g, s.al, s.ad, s.ac, s.bl, s.bd, s.bc, !s.r, s.wi, s.ep, s.ou⟩ : Su).ad, .int .i64 (⟨s.g, s.al, s.ad, s.ac, s.bl, s.bd, s.bc, !s.r, s.wi, s.ep, s.ou⟩ : Su).ac, .int .i64 (⟨s.g, s.al, s.ad, s.ac, s.bl, s.bd, s.bc, !s.r, s.wi, s.ep, s.ou⟩ : Su).bl, .int .i64 (⟨s.g, s.al, s.ad, s.ac, s.bl, s.bd, s.bc, !s.r, s.wi, s.ep, s.ou⟩ : Su).bd, .int .i64 (⟨s.g, s.al, s.ad, s.ac, s.bl, s.bd, s.bc, !s.r, s.wi, s.ep, s.ou⟩ : Su).bc, .bool (⟨s.g, s.al, s.ad, s.ac, s.bl, s.bd, s.bc, !s.r, s.wi, s.ep, s.ou⟩ : Su).r, .int .i64 (⟨s.g, s.al, s.ad, s.ac, s.bl, s.bd, s.bc, !s.r, s.wi, s.ep, s.ou⟩ : Su).wi, .int .i64 (⟨s.g, s.al, s.ad, s.ac, s.bl, s.bd, s.bc, !s.r, s.wi, s.ep, s.ou⟩ : Su).ep, .int .i64 (⟨s.g, s.al, s.ad, s.ac, s.bl, s.bd, s.bc, !s.r, s.wi, s.ep, s.ou⟩ : Su).ou]) (by simp [results, Tryd.results13, go_sem, y0, y1, y2, y3, y4, y5, y6, y7, y8, y9, y10]) rfl ⟨(⟨s.g, s.al, s.ad, s.ac, s.bl, s.bd, s.bc, !s.r, s.wi, s.ep, s.ou⟩ : Su), H64, rfl, FF⟩
    have n14 : (kc == 14) = false := by simp; omega
    have n15 : (kc == 15) = false := by simp; omega
    have n16 : (kc == 16) = false := by simp; omega
    have n17 : (kc == 17) = false := by simp; omega
    have n18 : (kc == 18) = false := by simp; omega
    have n19 : (kc == 19) = false := by simp; omega
    have H64 := h64
    obtain ⟨z0, z1, z2, z3, z4, z5, z6, z7, z8, z9, z10⟩ := sat_block O.out.2.1
    go_wp2_with (first
      | (refine wpList_store_blk rfl 25 _ _ (by rfl) w.heap.size 0 (.agg (suL s).toArray) (by rfl) (by rfl) (suL suZ) 25 O.out.1 (suL s) rfl 11 rfl (by kernel_rfl) (by decide) (suL_one s) (suL s) (by rfl) ?_
         intro wf hf gf
         have FF := O.out.2.2.grown gf O.out.2.2.size (fun j e => by injection e with e; omega)
         obtain ⟨y0, y1, y2, y3, y4, y5, y6, y7, y8, y9, y10⟩ := sat_block (s := s) hf
         clear hf gf))
    refine bodyPost_ret (v := .agg #[.int .i64 s.g, .int .i64 s.al, .int .i64 s.ad, .int .i64 s.ac, .int .i64 s.bl, .int .i64 s.bd, .int .i64 s.bc, .bool s.r, .int .i64 s.wi, .int .i64 s.ep, .int .i64 s.ou]) (by simp [results, Tryd.results13, go_sem, y0, y1, y2, y3, y4, y5, y6, y7, y8, y9, y10]) rfl ⟨s, H64, rfl, FF⟩
end Go.Proofs.YtdecpkcdljpnaaaDoor
