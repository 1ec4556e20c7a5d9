/- Texts put together: EqualR, RowRight, RowSame, PlaySec, PlaySecs, GfAid, RefGf. -/
import Derived.Test.YtenkkdnepmoihaaGreatDoorUraf
import Derived.Test.YtenkkdnepmoihaaGreatDoorUrad
import Derived.Test.YtenkkdnepmoihaaGreatDoorUrab
import Derived.Test.YtenkkdnepmoihaaGreatDoorUraa
import Derived.Test.YtenkkdnepmoihaaGreatDoorUrac
section
set_option maxRecDepth 8000
set_option linter.unusedVariables false
set_option linter.unusedSimpArgs false
namespace Go.Proofs.YtenkkdnepmoihaaGreatDoor
open Go.RowKit

theorem bytesEqual_any (A A' : Option Addr) (n n' c c' B B' : Nat) (bs bs' : List UInt8) (w : World) (hn : n = bs.length) (hn' : n' = bs'.length) (hr : RdB w B A bs) (hr' : RdB w B' A' bs') :
    Calls Tryz.prog 71 #[.slice A n c, .slice A' n' c'] w fun e w' => e = .returned (.bool (bs == bs')) ∧ w' = w := by
  have h1 := conv_str A bs n c B w hn hr
  have h2 := conv_str A' bs' n' c' B' w hn' hr'
  clear hn hn' hr hr'
  have h3 := str_eql 9 bs bs' w
  have h4 : ∀ x y, (eqGuard .eql 9 x y (str bs) (str bs')) = pure () := fun _ _ => by unfold str; rw [eqGuard_at_string]
  generalize str bs = s1 at h1 h3 h4
  generalize str bs' = s2 at h2 h3 h4
  go_enter Tryz.func71, Tryz.ntmps71
  go_wp2
  go_ret
  exact ⟨rfl, rfl⟩
theorem rs_ext {rs qs : List (List UInt8)} (hl : rs.length = qs.length) (h : ∀ k, k < rs.length → rs.getD k [] = qs.getD k []) : rs = qs := by
  apply List.ext_getElem hl
  intro k h1 h2
  have := h k h1
  simpa [List.getD_eq_getElem?_getD, h1, h2] using this
set_option maxHeartbeats 800000 in
theorem equalR_any (A A' : Option Addr) (n n' c c' : Nat) (rs qs : List (List UInt8)) (w : World) (hn : rs.length = n) (hn' : qs.length = n') (h : RdR w w.heap.size A rs) (h' : RdR w w.heap.size A' qs) :
    Calls Tryz.prog 70 #[.slice A n c, .slice A' n' c', .func (.func 71) #[] #[]] w fun e w' => e = .returned (.bool (decide (rs = qs))) ∧ Below w.heap.size w w' := by
  subst hn hn'
  have H := Lib.hid h
  have H' := Lib.hid h'
  have hmx := h.1
  have hmx' := h'.1
  clear h h'
  by_cases hl : rs.length = qs.length
  · have Hext := Lib.hid (@rs_ext rs qs hl)
    have e0 : ((rs.length : Int) != (qs.length : Int)) = false := by rw [hl]; exact bne_self_eq_false _
    have Hl := Lib.hid hl
    clear hl
    go_enter Tryz.func70, Tryz.ntmps70
    go_wp2
    go_loopw [17] (fun i wr => ∃ j : Nat, j ≤ rs.length ∧ i = .int .i64 j ∧ (∀ k, k < j → rs.getD k [] = qs.getD k []) ∧ wr = w) (fun i _ => rs.length - (intOf i).toNat)
    case atStart => exact ⟨0, Nat.zero_le _, rfl, fun k hk => absurd hk (Nat.not_lt_zero _), rfl⟩
    case round =>
      obtain ⟨j, hj, rfl, hall, rfl⟩ := hrel
      have Hall := Lib.hid hall
      clear hall
      by_cases hlt : j < rs.length
      · have hlt' : j < qs.length := by have := Hl.out; omega
        obtain ⟨g, off, rfl, hg, hc⟩ := H.out.2 (by omega)
        obtain ⟨D, cd, hrp, hrd⟩ := hc j hlt
        obtain ⟨g', off', rfl, hg', hc'⟩ := H'.out.2 (by omega)
        obtain ⟨D', cd', hrp', hrd'⟩ := hc' j hlt'
        clear hc hc'
        have CL := Lib.hid (bytesEqual_any D D' _ _ cd cd' _ _ (rs.getD j []) (qs.getD j []) wr rfl rfl hrd hrd')
        have Hno := Lib.hid (show rs.getD j [] ≠ qs.getD j [] → decide (rs = qs) = false from fun q => decide_eq_false fun e => q (by rw [e]))
        have Hyes := Lib.hid (show rs.getD j [] = qs.getD j [] → ∀ k, k < j + 1 → rs.getD k [] = qs.getD k [] from fun q k hk => by
          by_cases e : k = j
          · subst e; exact q
          · exact Hall.out k (by omega))
        clear hrd hrd'
        generalize rs.getD j [] = y at hrp CL Hno Hyes
        generalize qs.getD j [] = z at hrp' CL Hno Hyes
        have k0 : (0 : Int) ≤ (j : Int) := by omega
        have k1 : (j : Int) < (rs.length : Int) := by omega
        have k2 : (j : Int) < (qs.length : Int) := by omega
        generalize y.length = yl at hrp CL
        generalize z.length = zl at hrp' CL
        cases hpk : (y == z) with
        | false =>
          rw [hpk] at CL
          have R := Lib.hid (Hno.out (beq_eq_false_iff_ne.1 hpk))
          clear hpk
          go_wp2_with (go_at_call 71; refine CL.out.mono ?_; rintro e w1 ⟨rfl, rfl⟩)
          go_ret
          exact ⟨by rw [R.out]; rfl, Below.refl _ _⟩
        | true =>
          rw [hpk] at CL
          have R := Lib.hid (Hyes.out (beq_iff_eq.1 hpk))
          clear hpk
          go_wp2_with (go_at_call 71; refine CL.out.mono ?_; rintro e w1 ⟨rfl, rfl⟩)
          go_roundw
          case rel => exact ⟨j + 1, by omega, by go_num, R.out, trivial⟩
          case measure => simp [intOf]; omega
      · obtain rfl : j = rs.length := by omega
        have R := Lib.hid (show decide (rs = qs) = true from decide_eq_true (Hext.out Hall.out))
        go_wp2
        go_ret
        exact ⟨by rw [R.out]; rfl, Below.refl _ _⟩
  · have R := Lib.hid (show decide (rs = qs) = false from decide_eq_false fun e => hl (by rw [e]))
    have e0 : ((rs.length : Int) != (qs.length : Int)) = true := by rw [bne_iff_ne]; omega
    clear hl
    go_enter Tryz.func70, Tryz.ntmps70
    go_wp2
    go_ret
    exact ⟨by rw [R.out]; rfl, Below.refl _ _⟩
end Go.Proofs.YtenkkdnepmoihaaGreatDoor
end
section
set_option maxRecDepth 8000
set_option linter.unusedVariables false
set_option linter.unusedSimpArgs false
namespace Go.Proofs.YtenkkdnepmoihaaGreatDoor
open Go.RowKit

theorem solveB_8 {N : Nat} {p q : List UInt8} {rs L : List (List UInt8)} (h : solveB N p q rs = some L) : L.length ≤ 8 := by
  unfold solveB at h
  split at h
  · next hc =>
    injection h with h
    simp only [Bool.and_eq_true] at hc
    have h8 : rs.length ≤ 8 := by
      have := hc.2
      unfold canB at this
      simp only [Bool.and_eq_true, decide_eq_true_eq] at this
      exact this.2.2
    have hf : (filledB N rs).length = rs.length := filledB_len _ _
    rw [← h]
    generalize missB rs = ms
    rcases ms with _ | ⟨i, _ | ⟨j, ms⟩⟩ <;> simp only [toldB, List.length_set] <;> omega
  · cases h
theorem roTake_8 {l d c r : Int} {xs L : List (List UInt8)} (h : roTake l d c r xs = some L) : L.length ≤ 8 := by
  unfold roTake at h
  split at h
  · exact solveB_8 h
  · cases h
theorem roFill_8 {l d c r : Int} {rs L : List (List UInt8)} (h : roFill l d c r rs = some L) : L.length ≤ 8 := by
  unfold roFill at h
  split at h
  · next hk =>
    injection h with h
    rw [← h, fillL_len]
    exact (ro_of (fillOk_yes hk).1).d8
  · cases h
set_option maxHeartbeats 800000 in
theorem right_any (A : Option Addr) (xs : List (List UInt8)) (n cp : Nat) (l d c r : Int) (w : World) (hn : xs.length = n) (hn8 : n ≤ 1000000) (hrd : RdR w w.heap.size A xs)
    (hl : -9223372036854775808 ≤ l ∧ l ≤ 9223372036854775807) (hd : -9223372036854775808 ≤ d ∧ d ≤ 9223372036854775807) (hc : -9223372036854775808 ≤ c ∧ c ≤ 9223372036854775807) (hr : -9223372036854775808 ≤ r ∧ r ≤ 9223372036854775807) :
    Calls Tryz.prog 35 #[.agg #[.int .i64 l, .int .i64 d, .int .i64 c], .int .i64 r, .slice A n cp] w fun e w' => e = .returned (.bool (roRight l d c r xs)) ∧ Below w.heap.size w w' := by
  have G := gat_new w l d c 24 (0, 0)
  have CT : Hid (∀ W, Below w.heap.size w W → Calls Tryz.prog 66 #[.agg #[.int .i64 l, .int .i64 d, .int .i64 c], .int .i64 r, .slice A n cp] W (SolveR W (roTake l d c r xs))) :=
    Lib.hid fun W hb => take_any A xs n cp l d c r W hn hn8 ((hrd.below hb (Nat.le_refl _)).more hb.size) hl hd hc hr
  have CF : Hid (∀ (g m cp : Nat) (L : List (List UInt8)) W, L.length = m → m ≤ 1000000 → RdR W W.heap.size (some ⟨g, 0, none⟩) L → Calls Tryz.prog 52 #[.agg #[.int .i64 l, .int .i64 d, .int .i64 c], .int .i64 r, .slice (some ⟨g, 0, none⟩) m cp] W (FillR W (roFill l d c r L))) :=
    Lib.hid fun g m cp L W h1 h2 h3 => fill_any _ L m cp l d c r W h1 h2 h3 hl hd hc hr
  have HR : Hid (∀ o, roTake l d c r xs = o → roRight l d c r xs = match (motive := Option (List (List UInt8)) → Bool) o with | none => false | some rs => decide (roFill l d c r rs = some xs)) := Lib.hid (fun o h => by subst h; rfl)
  have H8 := Lib.hid (fun L => @roTake_8 l d c r xs L)
  have Hr := Lib.hid hrd
  clear hrd
  rcases ht : roTake l d c r xs with _ | L
  · have H := Lib.hid (HR.out _ ht)
    rw [ht] at CT
    clear ht HR H8
    go_enter Tryz.func35, Tryz.ntmps35
    go_wp2_with fail
    (with_reducible refine (CT.out _ (below1 w _)).mono ?_); rintro e w1 hS
    obtain ⟨rfl, hb⟩ := SolveR.later (o := none) hS (below1 w _)
    go_wp2
    go_ret
    exact ⟨by rw [H.out]; rfl, hb⟩
  · have H := Lib.hid (HR.out _ ht)
    have h8 := H8.out L ht
    rw [ht] at CT
    clear ht HR H8
    rcases hf : roFill l d c r L with _ | f
    · have H2 : Hid (roRight l d c r xs = false) := Lib.hid (by rw [H.out]; simp only [hf]; rfl)
      have CF1 := Lib.hid (fun g m cp W h1 h2 h3 => CF.out g m cp L W h1 h2 h3)
      rw [hf] at CF1
      clear hf H CF
      go_enter Tryz.func35, Tryz.ntmps35
      go_wp2_with fail
      (with_reducible refine (CT.out _ (below1 w _)).mono ?_); rintro e w1 hS
      obtain ⟨g, c1, rfl, ho, hb⟩ := SolveR.later (o := some L) hS (below1 w _)
      have hb1 : Below (w.alloc (.cells #[.int .i64 l, .int .i64 d, .int .i64 c] 24)).heap.size (w.alloc (.cells #[.int .i64 l, .int .i64 d, .int .i64 c] 24)) w1 := by
        obtain ⟨_, _, _, _, h⟩ := hS; exact h
      obtain ⟨g1, g2, g3⟩ := G.below hb1 (by simp)
      clear hS hb1
      go_wp2_with fail
      (with_reducible refine (CF1.out g L.length c1 w1 rfl (by omega) (ho.rdr (by omega))).mono ?_); rintro e w2 ⟨rfl, hb2⟩
      go_wp2
      go_ret
      exact ⟨by rw [H2.out]; rfl, hb.trans (hb2.mono hb.size)⟩
    · have hfl := roFill_8 hf
      have H2 : Hid (roRight l d c r xs = decide (f = xs)) := Lib.hid (by
        rw [H.out]; simp only [hf]
        by_cases e : f = xs
        · rw [decide_eq_true e, decide_eq_true (by rw [e])]
        · rw [decide_eq_false e, decide_eq_false (fun h => e (by injection h))])
      have CF1 := Lib.hid (fun g m cp W h1 h2 h3 => CF.out g m cp L W h1 h2 h3)
      rw [hf] at CF1
      clear hf H CF
      go_enter Tryz.func35, Tryz.ntmps35
      go_wp2_with fail
      (with_reducible refine (CT.out _ (below1 w _)).mono ?_); rintro e w1 hS
      obtain ⟨g, c1, rfl, ho, hb⟩ := SolveR.later (o := some L) hS (below1 w _)
      have hb1 : Below (w.alloc (.cells #[.int .i64 l, .int .i64 d, .int .i64 c] 24)).heap.size (w.alloc (.cells #[.int .i64 l, .int .i64 d, .int .i64 c] 24)) w1 := by
        obtain ⟨_, _, _, _, h⟩ := hS; exact h
      obtain ⟨g1, g2, g3⟩ := G.below hb1 (by simp)
      clear hS hb1
      go_wp2_with fail
      (with_reducible refine (CF1.out g L.length c1 w1 rfl (by omega) (ho.rdr (by omega))).mono ?_); rintro e w2 ⟨g4, vs, rfl, hq, hb2⟩
      have F2 := hb.trans (hb2.mono hb.size)
      have hf8 : f.length ≤ 1000000 := by omega
      have CE := Lib.hid (equalR_any _ A f.length n f.length cp f xs w2 rfl hn (hq.rdr hf8) ((Hr.out.below F2 (Nat.le_refl _)).more F2.size))
      clear hq
      go_wp2_with fail
      (with_reducible refine CE.out.mono ?_); rintro e w3 ⟨rfl, hb3⟩
      go_wp2
      go_ret
      exact ⟨by rw [H2.out]; rfl, F2.trans (hb3.mono F2.size)⟩
end Go.Proofs.YtenkkdnepmoihaaGreatDoor
end
section
namespace Go.Proofs.YtenkkdnepmoihaaGreatDoor
open Go.RowKit

end Go.Proofs.YtenkkdnepmoihaaGreatDoor
end
section
namespace Go.Proofs.YtenkkdnepmoihaaGreatDoor
open Go.RowKit

def secI (n : Int) (k : Nat) : Int := wrap64 (n + wrap64 ((k : Int) * bits .or .i64 (n.tdiv 7) 1)) % 256
def secU (n : Int) (k : Nat) : UInt8 := UInt8.ofNat (secI n k).toNat
theorem secU_val (n : Int) (k : Nat) : ((secU n k).toNat : Int) = secI n k := by
  have h0 : 0 ≤ secI n k := Int.emod_nonneg _ (by omega)
  have h1 : secI n k < 256 := Int.emod_lt_of_pos _ (by omega)
  unfold secU
  rw [UInt8.toNat_ofNat']
  generalize secI n k = x at h0 h1
  have : x.toNat < 256 := by omega
  rw [Nat.mod_eq_of_lt (by simpa using this)]
  omega
def sectorB (n : Int) : List UInt8 := if withinI n 11 = 10 then List.replicate 32 0 else (List.range 32).map (secU n)
theorem sectorB_len (n : Int) : (sectorB n).length = 32 := by
  unfold sectorB; split
  · rw [List.length_replicate]
  · rw [List.length_map, List.length_range]
def secTo (n : Int) (k : Nat) : List UInt8 := (List.range k).map (secU n) ++ List.replicate (32 - k) 0
theorem secTo_zero (n : Int) : secTo n 0 = List.replicate 32 0 := rfl
theorem secTo_all (n : Int) : secTo n 32 = (List.range 32).map (secU n) := by unfold secTo; simp
theorem secTo_len (n : Int) {k : Nat} (h : k ≤ 32) : (secTo n k).length = 32 := by unfold secTo; simp; omega
theorem secTo_succ (n : Int) {k : Nat} (h : k < 32) : (secTo n k).set k (secU n k) = secTo n (k + 1) := by
  have hl : ((List.range k).map (secU n)).length = k := by simp
  unfold secTo
  rw [List.set_append_right _ _ (by omega), hl, Nat.sub_self, show 32 - k = (32 - (k + 1)) + 1 from by omega, List.replicate_succ, List.set_cons_zero, List.range_succ, List.map_append, List.append_assoc]
  rfl
set_option maxHeartbeats 400000 in
theorem sector_any (n : Int) (w : World) (hn : -9223372036854775808 ≤ n ∧ n ≤ 9223372036854775807) :
    Calls Tryz.prog 14 #[.int .i64 n] w fun e w' => ∃ g, e = .returned (.slice (some ⟨g, 0, none⟩) 32 32) ∧ OwB 5 w' w.heap.size (.slice (some ⟨g, 0, none⟩) 32 32) (sectorB n) ∧ Below w.heap.size w w' := by
  have hmk : ∀ w, (Instr.makeSlice 35 (.int .i64 32) (.int .i64 32)).run Tryz.prog w = .ok (.slice (some ⟨w.heap.size, 0, none⟩) 32 32) (w.alloc (.cells (zcells 32) 5)) := make_bytes 32 (by omega)
  have CW := Lib.hid (fun W => within_any n 11 W hn (by omega))
  have HE : Hid (sectorB n = if withinI n 11 = 10 then List.replicate 32 0 else (List.range 32).map (secU n)) := rfl
  have ho := own_make 5 w 32 (by omega)
  have hb0 := below1 w (.cells (zcells 32) 5)
  generalize withinI n 11 = q at CW HE
  by_cases hq : q = 10
  · subst hq
    rw [if_pos rfl] at HE
    go_enter Tryz.func14, Tryz.ntmps14
    go_wp2_with fail
    generalize w.alloc (.cells (zcells 32) 5) = w0 at ho hb0 ⊢
    refine (CW.out _).mono ?_
    rintro e w' ⟨rfl, rfl⟩
    go_wp2
    go_ret
    exact ⟨w.heap.size, rfl, by rw [HE.out]; exact ho, hb0⟩
  · have hqb : (q == 10) = false := by rw [beq_eq_false_iff_ne]; exact hq
    rw [if_neg hq, ← secTo_all] at HE
    rw [← secTo_zero n] at ho
    go_enter Tryz.func14, Tryz.ntmps14
    go_wp2_with fail
    generalize w.alloc (.cells (zcells 32) 5) = w0 at ho hb0 ⊢
    refine (CW.out _).mono ?_
    rintro e w' ⟨rfl, rfl⟩
    clear hmk
    go_wp2
    go_loopw [12] (fun i wr => ∃ k : Nat, k ≤ 32 ∧ i = .int .i64 k ∧ OwB 5 wr w.heap.size (.slice (some ⟨w.heap.size, 0, none⟩) 32 32) (secTo n k) ∧ Below w.heap.size w wr) (fun i _ => 32 - (intOf i).toNat)
    case atStart => exact ⟨0, by omega, rfl, ho, hb0⟩
    case round =>
      obtain ⟨k, hk, rfl, hown, hbr⟩ := hrel
      by_cases hlt : k < 32
      · have i0 : (0 : Int) ≤ (k : Int) := by omega
        have i1 : (k : Int) < 32 := by omega
        obtain ⟨hc, hf⟩ := hown.cell (secTo_len n hk) k hlt
        have hset := (hown.set (secTo_len n hk) k (secU n k)).1
        rw [secU_val, secTo_succ n hlt] at hset
        have Hset := Lib.hid hset
        have Hbs := Lib.hid (hbr.setCell (p := ⟨w.heap.size, k, none⟩) (Nat.le_refl _) (.int .u8 (secI n k)))
        clear hset hown
        go_wp2
        go_roundw
        case rel => exact ⟨k + 1, by omega, by go_num, Hset.out, Hbs.out⟩
        case measure => simp [intOf]; omega
      · obtain rfl : k = 32 := by omega
        go_wp2
        go_ret
        exact ⟨w.heap.size, rfl, by rw [HE.out]; exact hown, hbr⟩
end Go.Proofs.YtenkkdnepmoihaaGreatDoor
end
section
set_option maxRecDepth 8000
set_option linter.unusedVariables false
set_option linter.unusedSimpArgs false
namespace Go.Proofs.YtenkkdnepmoihaaGreatDoor
open Go.RowKit

theorem info_row2 : (Tryz.prog.info? 35).map (fun i => (i.zero, i.size, i.bytes)) = some (some (.slice none 0 0), 1, 24) := by kernel_rfl
/-- An own row of rows, nil or not. -/
def OwV (lo : Nat) (w : World) (v : Value) (rs : List (List UInt8)) : Prop := ∃ xs, w.ownsRow lo 35 1 v rs.length xs ∧ RowsY w lo v.ownBlock xs rs
theorem OwV.below {lo : Nat} {w w' : World} {v : Value} {rs : List (List UInt8)} (h : OwV lo w v rs) (hb : Below w.heap.size w w') : OwV lo w' v rs := by
  obtain ⟨xs, h1, h2⟩ := h
  exact ⟨xs, h1.kept (grown_none hb) (Classical.em _), h2.below hb⟩
theorem OwV.rd {lo : Nat} {w : World} {v : Value} {rs : List (List UInt8)} (h : OwV lo w v rs) (hl : rs.length ≤ 140737488355328) : ∃ A cap, v = .slice A rs.length cap ∧ rs.length ≤ cap ∧ RdR w w.heap.size A rs := by
  obtain ⟨xs, h1, h2⟩ := h
  obtain ⟨A, c, h3, h4, h5⟩ := rdf_own h1 hl h2
  exact ⟨A, c, h3, h4, h5.rdr⟩
theorem OwV.owr {lo : Nat} {w : World} {v : Value} {rs : List (List UInt8)} (h : OwV lo w v rs) (h0 : 0 < rs.length) : ∃ g cap, v = .slice (some ⟨g, 0, none⟩) rs.length cap ∧ OwR w lo g rs.length cap rs := by
  obtain ⟨xs, h1, h2⟩ := h
  rcases h1.2 with ⟨_, h3⟩ | ⟨g, cap, cur, rfl, hb, hg, hc, r⟩
  · omega
  · exact ⟨g, cap, rfl, rfl, hc, hb, xs, h1, h2⟩
theorem OwV.nil (lo : Nat) (w : World) : OwV lo w (.slice none 0 0) [] := ⟨[], World.ownsRow_nil _ _ _ _, RowsY.nil _ _ _⟩
def secZ (zs : List Int) (i : Nat) : Int := if i < zs.length then zs.getD i 0 else 3 * (i : Int)
def sectorsB (zs : List Int) (n : Nat) : List (List UInt8) := (List.range n).map fun i => sectorB (secZ zs i)
theorem sectorsB_len (zs : List Int) (n : Nat) : (sectorsB zs n).length = n := by simp [sectorsB]
theorem sectorsB_mem {zs : List Int} {n : Nat} : ∀ x ∈ sectorsB zs n, x.length = 32 := fun x hx => by
  unfold sectorsB at hx
  obtain ⟨i, _, rfl⟩ := List.mem_map.1 hx
  exact sectorB_len _
theorem sectorsB_snoc (zs : List Int) (k : Nat) : sectorsB zs (k + 1) = sectorsB zs k ++ [sectorB (secZ zs k)] := by
  unfold sectorsB
  rw [List.range_succ, List.map_append]
  rfl
set_option maxHeartbeats 1600000 in
theorem sectors_any (A : Option Addr) (zs : List Int) (m cp n : Nat) (w : World) (hm : m = zs.length) (hr : RdZ w w.heap.size A zs) (hn : n ≤ 8) :
    Calls Tryz.prog 40 #[.slice A m cp, .int .i64 (n : Int)] w fun e w' => ∃ v, e = .returned v ∧ OwV w.heap.size w' v (sectorsB zs n) ∧ Below w.heap.size w w' := by
  subst hm
  have hz := hr.1
  go_enter Tryz.func40, Tryz.ntmps40
  go_wp2
  go_loopw [5, 6] (fun o i wr => ∃ (k : Nat) (vs : List Value), k ≤ n ∧ i = .int .i64 k ∧ wr.ownsRow w.heap.size 35 1 o k vs ∧ RowsY wr w.heap.size o.ownBlock vs (sectorsB zs k) ∧ Below w.heap.size w wr) (fun _ i _ => n - (intOf i).toNat)
  case atStart => exact ⟨0, [], Nat.zero_le _, rfl, World.ownsRow_nil _ _ _ _, RowsY.nil _ _ _, Below.refl _ _⟩
  case round =>
    obtain ⟨k, vs, hk, rfl, hown, hrows, hbr⟩ := hrel
    have Hsn := Lib.hid (sectorsB_snoc zs k)
    by_cases hlt : k < n
    · have i0 : (0 : Int) ≤ (k : Int) := by omega
      have i1 : (k : Int) < (n : Int) := by omega
      generalize sectorsB zs k = rk at hrows Hsn
      by_cases hz2 : k < zs.length
      · have e1 : secZ zs k = zs.getD k 0 := if_pos hz2
        rw [e1] at Hsn
        obtain ⟨b, off, rfl, hbb, hc⟩ := hr.2.2 (by omega)
        have h1 := hc k hz2
        rw [← hbr.cell (p := ⟨b, off + k, none⟩) hbb] at h1
        have hbd := hr.bd k
        have i2 : (k : Int) < (zs.length : Int) := by omega
        generalize zs.getD k 0 = x at h1 hbd Hsn
        clear hc e1
        go_wp2_with fail
        (with_reducible refine (sector_any x _ hbd).mono ?_); rintro e w1 ⟨g1, rfl, ho1, hb1⟩
        have hs0 := hbr.size
        have hrows1 := hrows.below hb1
        have hown1 := hown.kept (grown_none hb1) (Classical.em _)
        have hbw1 := hbr.trans (hb1.mono hs0)
        have hs1 := hbw1.size
        have hob := Lib.hid (fun hp => ho1.addr_ob hp)
        have hl1 : (sectorB x).length = 32 := sectorB_len _
        go_wp2_with (at_builtin; refine wpList_append_V rfl _ _ _ rfl w.heap.size 35 (.slice none 0 0) 24 Tryz.underlying32 info_row2 rfl _ k vs rfl (hown1.kept (grown_none (below1 w1 _)) (Classical.em _)) (w1.heap.size + 1) (some ⟨w1.heap.size, 0, none⟩) 1 1 [.slice (some ⟨g1, 0, none⟩) 32 32] rfl rfl (fun _ => ⟨w1.heap.size, 0, rfl, by omega, fun j hj => by obtain rfl : j = 0 := (by simp at hj; omega); exact cell_of_row _ _ _ _ _ _ (hp_new _ _ _ rfl)⟩) (fun u hu => by simp at hu; subst hu; rfl) (by unfold maxLen; omega) (by omega) (by have := hbw1.size; simp; omega) ?_; intro v2 w2 hown2 hg2 hat2)
        have hX0 := (hrows1.below (below1 w1 (.cells #[.slice (some ⟨g1, 0, none⟩) 32 32] 35))).snoc (c := 32) ((ho1.le hs0).below (below1 w1 _)).rdbf (fun hp a ha e => by
          injection ha with ha
          subst ha
          have h3 := (hown.lt _ e.symm).2
          have h4 := (ho1.lt g1 rfl).1
          simp at h3
          omega)
        rw [hl1] at hX0
        have hX := hX0.grown hg2 hat2
        have hbw2 := (hbw1.alloc hbw1.size (.cells #[.slice (some ⟨g1, 0, none⟩) 32 32] 35)).grown hg2 (by have := hbw1.size; simp; omega) (fun j hj => (hown.lt j hj).1)
        rw [← Hsn.out] at hX
        clear hX0
        clear hrows1 hown1 hbw1 hg2 ho1 hb1 hbr hown hrows hl1
        go_wp2
        go_roundw
        case rel => exact ⟨k + 1, _, by omega, by go_num, hown2, hX, hbw2⟩
        case measure => simp [intOf]; omega
      · have e1 : secZ zs k = 3 * (k : Int) := if_neg hz2
        rw [e1] at Hsn
        have hbd : -9223372036854775808 ≤ 3 * (k : Int) ∧ 3 * (k : Int) ≤ 9223372036854775807 := by omega
        have i2 : ¬ (k : Int) < (zs.length : Int) := by omega
        clear e1
        go_wp2_with fail
        (with_reducible refine (sector_any (3 * (k : Int)) _ hbd).mono ?_); rintro e w1 ⟨g1, rfl, ho1, hb1⟩
        have hs0 := hbr.size
        have hrows1 := hrows.below hb1
        have hown1 := hown.kept (grown_none hb1) (Classical.em _)
        have hbw1 := hbr.trans (hb1.mono hs0)
        have hs1 := hbw1.size
        have hob := Lib.hid (fun hp => ho1.addr_ob hp)
        have hl1 : (sectorB (3 * (k : Int))).length = 32 := sectorB_len _
        go_wp2_with (at_builtin; refine wpList_append_V rfl _ _ _ rfl w.heap.size 35 (.slice none 0 0) 24 Tryz.underlying32 info_row2 rfl _ k vs rfl (hown1.kept (grown_none (below1 w1 _)) (Classical.em _)) (w1.heap.size + 1) (some ⟨w1.heap.size, 0, none⟩) 1 1 [.slice (some ⟨g1, 0, none⟩) 32 32] rfl rfl (fun _ => ⟨w1.heap.size, 0, rfl, by omega, fun j hj => by obtain rfl : j = 0 := (by simp at hj; omega); exact cell_of_row _ _ _ _ _ _ (hp_new _ _ _ rfl)⟩) (fun u hu => by simp at hu; subst hu; rfl) (by unfold maxLen; omega) (by omega) (by have := hbw1.size; simp; omega) ?_; intro v2 w2 hown2 hg2 hat2)
        have hX0 := (hrows1.below (below1 w1 (.cells #[.slice (some ⟨g1, 0, none⟩) 32 32] 35))).snoc (c := 32) ((ho1.le hs0).below (below1 w1 _)).rdbf (fun hp a ha e => by
          injection ha with ha
          subst ha
          have h3 := (hown.lt _ e.symm).2
          have h4 := (ho1.lt g1 rfl).1
          simp at h3
          omega)
        rw [hl1] at hX0
        have hX := hX0.grown hg2 hat2
        have hbw2 := (hbw1.alloc hbw1.size (.cells #[.slice (some ⟨g1, 0, none⟩) 32 32] 35)).grown hg2 (by have := hbw1.size; simp; omega) (fun j hj => (hown.lt j hj).1)
        rw [← Hsn.out] at hX
        clear hX0
        clear hrows1 hown1 hbw1 hg2 ho1 hb1 hbr hown hrows hl1
        go_wp2
        go_roundw
        case rel => exact ⟨k + 1, _, by omega, by go_num, hown2, hX, hbw2⟩
        case measure => simp [intOf]; omega
    · obtain rfl : k = n := by omega
      have i1 : ¬ (k : Int) < (k : Int) := by omega
      go_wp2
      go_ret
      exact ⟨_, rfl, ⟨vs, by rw [sectorsB_len]; exact hown, hrows⟩, hbr⟩
end Go.Proofs.YtenkkdnepmoihaaGreatDoor
end
section
namespace Go.Proofs.YtenkkdnepmoihaaGreatDoor
open Go.RowKit

theorem i64_xor_small (a b : Nat) (ha : a < 1024) (hb : b < 1024) : bits .xor .i64 (a : Int) (b : Int) = ((a ^^^ b : Nat) : Int) := by
  have hx : a ^^^ b < 2 ^ 10 := Nat.xor_lt_two_pow (by omega) (by omega)
  have o : ∀ n : Nat, n < 1024 → (BitVec.ofInt 64 (n : Int)).toNat = n := fun n hn => by rw [BitVec.ofInt_natCast, BitVec.toNat_ofNat]; exact Nat.mod_eq_of_lt (by omega)
  show IntKind.i64.wrap ((BitVec.ofInt 64 (a : Int) ^^^ BitVec.ofInt 64 (b : Int)).toNat : Int) = _
  rw [BitVec.toNat_xor, o a ha, o b hb]
  exact IntWalk.i64_in _ (by omega)
theorem xor285 : ∀ x : Nat, x < 256 → ¬ x < 128 → (2 * x) ^^^ 285 = dbl x := by decide +kernel
end Go.Proofs.YtenkkdnepmoihaaGreatDoor
end
section
namespace Go.Proofs.YtenkkdnepmoihaaGreatDoor
open Go.RowKit

theorem mulF_more (k b : Nat) (h : k < 8) (s x : Nat) : mulF (8 - k) s x (b / 2 ^ k) = mulF (8 - (k + 1)) (if b / 2 ^ k % 2 = 1 then s ^^^ x else s) (dbl x) (b / 2 ^ (k + 1)) := by
  rw [show 8 - k = (8 - (k + 1)) + 1 from by omega, mulF_step, Nat.div_div_eq_div_mul, ← Nat.pow_succ]
theorem bit_any (b k : Nat) (hb : b < 256) : bits .and .u8 ((b : Int) / 2 ^ k) 1 = ((b / 2 ^ k % 2 : Nat) : Int) := by
  have hlt : b / 2 ^ k < 256 := Nat.lt_of_le_of_lt (Nat.div_le_self _ _) hb
  have := u8_and_nat (b / 2 ^ k) 1 hlt (by decide)
  rw [nat_mask1] at this
  rw [← this]
  simp
theorem refMul_any (a b : Nat) (ha : a < 256) (hb : b < 256) (w : World) : Calls Tryz.prog 106 #[.int .u8 (a : Int), .int .u8 (b : Int)] w fun e w' => e = .returned (.int .u8 ((gmul a b : Nat) : Int)) ∧ w' = w := by
  go_enter Tryz.func106, Tryz.ntmps106
  go_wp2
  go_loop [5, 6, 7] (fun vx vs vk => ∃ k s x : Nat, k ≤ 8 ∧ s < 256 ∧ x < 256 ∧ vx = .int .i64 (x : Int) ∧ vs = .int .i64 (s : Int) ∧ vk = .int .i64 (k : Int) ∧ Hid (mulF (8 - k) s x (b / 2 ^ k) = gmul a b)) (fun _ _ vk => 8 - (intOf vk).toNat)
  case atStart => exact ⟨0, 0, a, by omega, by decide, ha, rfl, rfl, rfl, (by rw [Nat.pow_zero, Nat.div_one]; rfl : mulF (8 - 0) 0 a (b / 2 ^ 0) = gmul a b)⟩
  case round =>
    obtain ⟨k, s, x, hk, hs, hx, rfl, rfl, rfl, Hm⟩ := hrel
    by_cases h8 : k < 8
    · have hdx := dbl_lt x hx
      have hxl := xor_lt8 hs hx
      have ex := i64_xor_small s x (by omega) (by omega)
      have e0 := bit_any b k hb
      have Hk := Lib.hid ((mulF_more k b h8 s x).symm.trans Hm.out)
      clear Hm
      by_cases hbit : b / 2 ^ k % 2 = 1
      · rw [hbit, show ((1 : Nat) : Int) = 1 from rfl] at e0
        have Hr : Hid (mulF (8 - (k + 1)) (s ^^^ x) (dbl x) (b / 2 ^ (k + 1)) = gmul a b) := by have := Hk.out; rw [if_pos hbit] at this; exact this
        clear Hk hbit
        by_cases h : x < 128
        · have Hd : Hid (dbl x = 2 * x) := if_pos h
          go_wp2
          go_round
          case rel => exact ⟨k + 1, (s ^^^ x), dbl x, by omega, by assumption, hdx, by rw [Hd.out]; go_num, rfl, by go_num, Hr⟩
          case measure => simp [intOf]; omega
        · have e1 := i64_xor_small (2 * x) 285 (by omega) (by omega)
          have e2 : ((2 * x : Nat) : Int) = (x : Int) * 2 := by omega
          rw [e2, xor285 x hx h, show ((285 : Nat) : Int) = 285 from rfl] at e1
          clear e2
          go_wp2
          go_round
          case rel => exact ⟨k + 1, (s ^^^ x), dbl x, by omega, by assumption, hdx, rfl, rfl, by go_num, Hr⟩
          case measure => simp [intOf]; omega
      · rw [show b / 2 ^ k % 2 = 0 from by omega, show ((0 : Nat) : Int) = 0 from rfl] at e0
        have Hr : Hid (mulF (8 - (k + 1)) s (dbl x) (b / 2 ^ (k + 1)) = gmul a b) := by have := Hk.out; rw [if_neg hbit] at this; exact this
        clear Hk hbit
        by_cases h : x < 128
        · have Hd : Hid (dbl x = 2 * x) := if_pos h
          go_wp2
          go_round
          case rel => exact ⟨k + 1, s, dbl x, by omega, by assumption, hdx, by rw [Hd.out]; go_num, rfl, by go_num, Hr⟩
          case measure => simp [intOf]; omega
        · have e1 := i64_xor_small (2 * x) 285 (by omega) (by omega)
          have e2 : ((2 * x : Nat) : Int) = (x : Int) * 2 := by omega
          rw [e2, xor285 x hx h, show ((285 : Nat) : Int) = 285 from rfl] at e1
          clear e2
          go_wp2
          go_round
          case rel => exact ⟨k + 1, s, dbl x, by omega, by assumption, hdx, rfl, rfl, by go_num, Hr⟩
          case measure => simp [intOf]; omega
    · obtain rfl : k = 8 := by omega
      have Hr : Hid (s = gmul a b) := Hm.out
      clear Hm
      go_wp2
      go_ret
      exact ⟨ret_int (congrArg Nat.cast Hr.out), rfl⟩
end Go.Proofs.YtenkkdnepmoihaaGreatDoor
end
