/- Texts put together: KeepCut, SyndQ, Parts, SyndOwn, RowMath, RefPow, RefSynd, Dsk, DskOps, PlaceOf, PlaceNums, RowCount, RefOf, SetInt. -/
import Derived.Test.YtadmofpipfdedaaSfad
import Derived.Test.YtadmofpipfdedaaSfac
import Derived.Test.YtadmofpipfdedaaSfaf
import Derived.Test.YtadmofpipfdedaaSfaa
import Derived.StillTailTactics
import Derived.Great.FillDense
import Derived.Great.BuildSlice
import Derived.Deep.AppendLies
import Derived.Test.YtadmofpipfdedaaSfae
import Derived.Test.YtadmofpipfdedaaSfab
section
namespace Go.Proofs.Ytadmofpipfdedaa
open Go.RowKit

end Go.Proofs.Ytadmofpipfdedaa
end
section
set_option maxRecDepth 20000
namespace Go.Proofs.Ytadmofpipfdedaa
open Go.RowKit

theorem OwB.drewI {e : TypeId} {w : World} {B : Nat} {v : Value} {bs : List UInt8} (h : OwB e w B v bs) : OwB e w.drew B v bs := h
theorem mul_u8 (x : UInt8) (f : Nat) (hf : f < 256) (w : World) : Calls Try.prog 101 #[.int .u8 (x.toNat : Int), .int .u8 (f : Int)] w fun e w' => e = .returned (.int .u8 ((mulU x f).toNat : Int)) ∧ w' = w := by
  rw [mulU_nat]
  exact mul_any x.toNat f x.toNat_lt hf w

set_option maxHeartbeats 800000 in
theorem q_any (A : Option Addr) (rs : List (List UInt8)) (n cp : Nat) (w : World) (hn : rs.length = n) (hr : RdR w w.heap.size A rs) :
    Calls Try.prog 93 #[.slice A n cp] w fun e w' => ∃ v, e = .returned v ∧ OwB 5 w' w.heap.size v (qB rs) ∧ Below w.heap.size w w' := by
  have C := Lib.hid (zeros_any A rs n cp w hn hr)
  subst hn
  have hm := hr.1
  by_cases h0 : zerosB rs = []
  · have Hp : Hid (qB rs = []) := sumG_nil gQ_len h0
    rw [h0] at C
    clear h0
    go_enter Try.func93, Try.ntmps93
    go_wp2_with fail
    refine C.out.mono ?_
    rintro e w1 ⟨v, rfl, ho, hb⟩
    obtain ⟨A1, c1, rfl⟩ := own_nil_len ho
    go_wp2
    go_ret
    exact ⟨_, rfl, nil_own _ _ Hp.out, hb⟩
  · obtain ⟨hall, hs, hal⟩ := sumG_cons (g := gQ) h0
    have Hs : Hid (qB rs = foldG gQ 0 (zerosB rs) rs) := hs
    have Hall := Lib.hid hall
    have Hf := Lib.hid (foldG_snoc gQ (zerosB rs) rs)
    have Hl := Lib.hid (foldG_take_len gQ_len hall)
    have hpos : 0 < (zerosB rs).length := by cases hz : zerosB rs with | nil => exact absurd hz h0 | cons a b => simp
    clear hall hs hal h0
    generalize zerosB rs = zs at C Hs Hall Hf Hl hpos
    go_enter Try.func93, Try.ntmps93
    go_wp2_with fail
    refine C.out.mono ?_
    rintro e w1 ⟨v, rfl, ho, hb⟩
    obtain ⟨g, cap, rfl, hg, hg1, hcap, _, _⟩ := ho.pos hpos
    have hzl := ho.2
    have e0 : ((zs.length : Int) == 0) = false := by rw [beq_eq_false_iff_ne]; omega
    go_wp2
    go_loopw [16] (fun i wr => ∃ k : Nat, k ≤ rs.length ∧ i = .int .i64 k ∧ OwB 5 wr w.heap.size (.slice (some ⟨g, 0, none⟩) zs.length cap) (foldG gQ 0 zs (rs.take k)) ∧ Below w.heap.size w wr) (fun i _ => rs.length - (intOf i).toNat)
    case atStart => exact ⟨0, Nat.zero_le _, rfl, ho, hb⟩
    case round =>
      obtain ⟨k, hk, rfl, hown, hbr⟩ := hrel
      have Hy := Lib.hid (Hl.out k)
      by_cases hlt : k < rs.length
      · obtain ⟨b, off, rfl, hbb, hc⟩ := hr.2 (by omega)
        obtain ⟨A', c', h1, h2⟩ := hc k hlt
        have hln := Hall.out k hlt
        rw [hln] at h1
        have Hln := Lib.hid hln
        have Hsn := Lib.hid (show foldG gQ 0 zs (rs.take (k + 1)) = xorL (foldG gQ 0 zs (rs.take k)) (scaleL (rs.getD k []) (gpow (k : Int))) from Hf.out k hlt)
        clear hln hc
        rw [← hbr.cell (p := ⟨b, off + k, none⟩) hbb] at h1
        generalize rs.getD k [] = row at h1 h2 Hsn Hln
        generalize foldG gQ 0 zs (rs.take k) = y at hown Hsn Hy
        have hlen := h2.1
        have CP := Lib.hid (fun W => pow_any (k : Int) (by omega) W)
        have hfp := gpow_lt (k : Int)
        generalize gpow (k : Int) = f at CP Hsn hfp
        go_wp2_with fail
        refine (CP.out _).mono ?_
        rintro e w2 ⟨rfl, rfl⟩
        go_wp2
        go_loopw [25] (fun i wr => ∃ j : Nat, j ≤ zs.length ∧ i = .int .i64 j ∧ OwB 5 wr w.heap.size (.slice (some ⟨g, 0, none⟩) zs.length cap) (xorTo y (scaleL row f) j) ∧ Below w.heap.size w wr) (fun i _ => zs.length - (intOf i).toNat)
        case atStart => exact ⟨0, Nat.zero_le _, rfl, by rw [xorTo_zero]; exact hown, hbr⟩
        case round =>
          obtain ⟨j, hj, rfl, hown2, hbr2⟩ := hrel
          have Hry := Lib.hid (show (scaleL row f).length = y.length from (scaleL_len _ _).trans (Hln.out.trans Hy.out.symm))
          by_cases hlt2 : j < zs.length
          · obtain ⟨b2, off2, rfl, hb2, hc2⟩ := h2.2 (by have := Hln.out; omega)
            have h3 := hc2 j (by have := Hln.out; omega)
            rw [← hbr2.cell (p := ⟨b2, off2 + j, none⟩) hb2] at h3
            have hown3 := hown2.drewI
            have hbr3 := hbr2.drew
            obtain ⟨h4, h5⟩ := hown3.cell ((xorTo_len Hry.out (by have := Hy.out; omega)).trans Hy.out) j hlt2
            rw [xorTo_get Hry.out (by have := Hy.out; omega)] at h4
            have Hset := Lib.hid (hown3.set ((xorTo_len Hry.out (by have := Hy.out; omega)).trans Hy.out) j (y.getD j 0 ^^^ (scaleL row f).getD j 0)).1
            have Hx := Lib.hid (xorTo_succ Hry.out (show j < y.length by have := Hy.out; omega))
            rw [scaleL_get] at Hset Hx
            have i0 : (0 : Int) ≤ (j : Int) := by omega
            have i1 : (j : Int) < (zs.length : Int) := by omega
            generalize row.getD j 0 = c at h3 Hset Hx
            have CM := Lib.hid (fun W => mul_u8 c f hfp W)
            generalize mulU c f = m at CM Hset Hx
            have ex := xor_u8 (y.getD j 0) m
            generalize y.getD j 0 = d at h4 Hset Hx ex
            generalize d ^^^ m = dc at Hset Hx ex
            clear hc2
            go_wp2_with fail
            refine wp_region_still_tail 9 (by kernel_rfl) (by kernel_rfl) ?_
            simp only [List.take_succ_cons, List.take_zero, List.drop_succ_cons, List.drop_zero]
            change wpStill _ _ wr.drew _ _ _
            generalize hwd : wr.drew = wd at h4 h5 Hset hbr3 hown3 ⊢
            have Hwd := Lib.hid hwd
            clear hwd
            repeat (first | still_step | (still_call (CM.out _)))
            refine wpStill_nil ?_
            change wpList _ _ _ _ _ wr.drew
            rw [Hwd.out]
            go_wp2
            go_roundw
            case rel => exact ⟨j + 1, by omega, by go_num, by rw [← Hx.out]; exact Hset.out, hbr3.setCell (p := ⟨g, j, none⟩) hg _⟩
            case measure => simp [intOf]; omega
          · obtain rfl : j = zs.length := by omega
            have Hxa := Lib.hid (show xorTo y (scaleL row f) zs.length = xorL y (scaleL row f) by rw [← Hy.out]; exact xorTo_all Hry.out)
            rw [Hxa.out] at hown2
            go_wp2
            go_roundw
            case rel => exact ⟨k + 1, by omega, by go_num, by rw [Hsn.out]; exact hown2, hbr2⟩
            case measure => simp [intOf]; omega
      · obtain rfl : k = rs.length := by omega
        have Hall2 := Lib.hid (show foldG gQ 0 zs (rs.take rs.length) = qB rs by rw [List.take_length]; exact Hs.out.symm)
        rw [Hall2.out] at hown
        go_wp2
        go_ret
        exact ⟨_, rfl, hown, hbr⟩

theorem add_any (A A' : Option Addr) (a b : List UInt8) (n n' c c' B : Nat) (w : World) (hn : n = a.length) (hn' : n' = b.length) (hr : RdB w B A a) (hr' : RdB w B A' b) (hB : B ≤ w.heap.size) :
    Calls Try.prog 110 #[.slice A n c, .slice A' n' c'] w fun e w' => ∃ v, e = .returned v ∧ OwB 5 w' w.heap.size v (pB [a, b]) ∧ Below w.heap.size w w' := by
  subst hn hn'
  have C := Lib.hid (p_any (some ⟨w.heap.size, 0, none⟩) [a, b] 2 2 (w.alloc (.cells #[.slice A a.length c, .slice A' b.length c'] 45)) rfl (by have := rdr_two (c := c) (c' := c') (t := 45) hr hr' hB; exact this.more (by simp)))
  go_enter Try.func110, Try.ntmps110
  go_wp2_with fail
  refine C.out.mono ?_
  rintro e w1 ⟨v, rfl, ho, hb⟩
  go_wp2
  go_ret
  exact ⟨v, rfl, ho.le (by simp), (below1 w _).trans (hb.mono (by simp))⟩

/-- a times f, its first j bytes so far. -/
def scTo (a : List UInt8) (f j : Nat) : List UInt8 := scaleL (a.take j) f ++ zeroL (a.length - j)
theorem scTo_len (a : List UInt8) (f : Nat) {j : Nat} (hj : j ≤ a.length) : (scTo a f j).length = a.length := by
  simp [scTo, scaleL_len, zeroL_len]; omega
theorem scTo_zero (a : List UInt8) (f : Nat) : scTo a f 0 = List.replicate a.length 0 := by simp [scTo, scaleL, zeroL]
theorem scTo_all (a : List UInt8) (f : Nat) : scTo a f a.length = scaleL a f := by simp [scTo, zeroL]
theorem scTo_succ (a : List UInt8) (f : Nat) {j : Nat} (hj : j < a.length) : (scTo a f j).set j (mulU (a.getD j 0) f) = scTo a f (j + 1) := by
  have hl : (scaleL (a.take j) f).length = j := by rw [scaleL_len]; simp; omega
  unfold scTo
  rw [List.set_append_right _ _ (by omega), hl, Nat.sub_self]
  rw [show a.length - j = (a.length - (j + 1)) + 1 from by omega]
  unfold zeroL
  rw [List.replicate_succ, List.set_cons_zero, List.take_succ_eq_append_getElem hj]
  unfold scaleL
  rw [List.map_append, List.append_assoc]
  simp [hj]
set_option maxHeartbeats 400000 in
theorem scale_any (A : Option Addr) (a : List UInt8) (n c f : Nat) (w : World) (hn : n = a.length) (hf : f < 256) (hr : RdB w w.heap.size A a) :
    Calls Try.prog 111 #[.slice A n c, .int .u8 (f : Int)] w fun e w' => ∃ v, e = .returned v ∧ OwB 5 w' w.heap.size v (scaleL a f) ∧ Below w.heap.size w w' := by
  subst hn
  have hm := hr.1
  have km := make_bytes a.length hm
  have own0 := own_make 5 w a.length hm
  rw [← scTo_zero a f] at own0
  go_enter Try.func111, Try.ntmps111
  go_wp2
  go_loopw [13] (fun i wr => ∃ j : Nat, j ≤ a.length ∧ i = .int .i64 j ∧ OwB 5 wr w.heap.size (.slice (some ⟨w.heap.size, 0, none⟩) a.length a.length) (scTo a f j) ∧ Below w.heap.size w wr) (fun i _ => a.length - (intOf i).toNat)
  case atStart => exact ⟨0, Nat.zero_le _, rfl, own0, below1 _ _⟩
  case round =>
    obtain ⟨j, hj, rfl, hown, hbr⟩ := hrel
    by_cases hlt : j < a.length
    · obtain ⟨b2, off2, rfl, hb2, hc2⟩ := hr.2 (by omega)
      have h3 := hc2 j hlt
      rw [← hbr.cell (p := ⟨b2, off2 + j, none⟩) hb2] at h3
      obtain ⟨h4, h5⟩ := hown.cell (scTo_len a f (by omega)) j hlt
      have Hset := Lib.hid (hown.set (scTo_len a f (by omega)) j (mulU (a.getD j 0) f)).1
      rw [scTo_succ a f hlt] at Hset
      have i0 : (0 : Int) ≤ (j : Int) := by omega
      have i1 : (j : Int) < (a.length : Int) := by omega
      have CM := Lib.hid (fun W => mul_u8 (a.getD j 0) f hf W)
      generalize mulU (a.getD j 0) f = m at CM Hset
      generalize a.getD j 0 = x at h3 CM
      generalize (scTo a f j).getD j 0 = d at h4
      clear hc2
      go_wp2_with fail
      refine (CM.out _).mono ?_
      rintro e w2 ⟨rfl, rfl⟩
      go_wp2
      go_roundw
      case rel => exact ⟨j + 1, by omega, by go_num, Hset.out, hbr.setCell (p := ⟨w.heap.size, j, none⟩) (Nat.le_refl _) _⟩
      case measure => simp [intOf]; omega
    · obtain rfl : j = a.length := by omega
      rw [scTo_all] at hown
      go_wp2
      go_ret
      exact ⟨_, rfl, hown, hbr⟩
end Go.Proofs.Ytadmofpipfdedaa
end
section
namespace Go.Proofs.Ytadmofpipfdedaa
open Go.RowKit

theorem info_row : (Try.prog.info? 45).map (fun i => (i.zero, i.size, i.bytes)) = some (some (.slice none 0 0), 1, 24) := by kernel_rfl
theorem OwB.addr_ob {e : TypeId} {w : World} {B : Nat} {A : Option Addr} {n c : Nat} {bs : List UInt8} (h : OwB e w B (.slice A n c) bs) (hp : 0 < bs.length) : ∀ a, A = some a → B ≤ a.block := fun a ha => by
  obtain ⟨g, cap, hv, hB, _⟩ := h.pos hp
  injection hv with h1 _ _
  rw [ha] at h1
  injection h1 with h1
  subst h1
  exact hB
end Go.Proofs.Ytadmofpipfdedaa
end
section
namespace Go.Proofs.Ytadmofpipfdedaa
open Go.RowKit

/-- An own slice of these bytes came back; nothing old has turned. -/
def Gives (w : World) (p : List UInt8) (e : Ending) (w' : World) : Prop := ∃ A c, e = .returned (.slice A p.length c) ∧ OwB 5 w' w.heap.size (.slice A p.length c) p ∧ Below w.heap.size w w'
theorem gives_of {w : World} {p q : List UInt8} (hp : p = q) {e : Ending} {w' : World} (h : ∃ v, e = .returned v ∧ OwB 5 w' w.heap.size v p ∧ Below w.heap.size w w') : Gives w q e w' := by
  subst hp
  obtain ⟨v, he, ho, hb⟩ := h
  obtain ⟨A, c, rfl, _, _⟩ := ho.rd
  exact ⟨A, c, he, ho, hb⟩
theorem p_gives {A : Option Addr} {rs : List (List UInt8)} {n cp : Nat} {w : World} {p : List UInt8} (hr : RdR w w.heap.size A rs) (hn : rs.length = n) (hp : pB rs = p) : Calls Try.prog 92 #[.slice A n cp] w (Gives w p) :=
  (p_any A rs n cp w hn hr).mono fun _ _ h => gives_of hp h
theorem q_gives {A : Option Addr} {rs : List (List UInt8)} {n cp : Nat} {w : World} {p : List UInt8} (hr : RdR w w.heap.size A rs) (hn : rs.length = n) (hp : qB rs = p) : Calls Try.prog 93 #[.slice A n cp] w (Gives w p) :=
  (q_any A rs n cp w hn hr).mono fun _ _ h => gives_of hp h
end Go.Proofs.Ytadmofpipfdedaa
end
section
set_option linter.unusedVariables false
set_option linter.unusedSimpArgs false
namespace Go.Proofs.Ytadmofpipfdedaa

/-- The disk of part k (the data, then P, then Q); the part that a disk has. -/
def roS (D F k : Nat) : Nat := if F + k < D then F + k else F + k - D
def roI (D F i : Nat) : Nat := if F ≤ i then i - F else i + D - F
theorem roS_lt {D F k : Nat} (hF : F < D) (hk : k < D) : roS D F k < D := by unfold roS; split <;> omega
theorem roI_lt {D F i : Nat} (hF : F < D) (hi : i < D) : roI D F i < D := by unfold roI; split <;> omega
theorem roI_roS {D F k : Nat} (hF : F < D) (hk : k < D) : roI D F (roS D F k) = k := by unfold roI roS; split <;> split <;> omega
theorem roS_roI {D F i : Nat} (hF : F < D) (hi : i < D) : roS D F (roI D F i) = i := by unfold roI roS; split <;> split <;> omega
/-- All parts: data, P, Q. -/
def allL (rs : List (List UInt8)) : List (List UInt8) := rs ++ [pB rs, qB rs]
theorem allL_data {rs : List (List UInt8)} {k : Nat} (hk : k < rs.length) : (allL rs).getD k [] = rs.getD k [] := by
  simp [allL, List.getD_eq_getElem?_getD, List.getElem?_append_left hk]
theorem allL_p (rs : List (List UInt8)) : (allL rs).getD rs.length [] = pB rs := by
  simp [allL, List.getD_eq_getElem?_getD, List.getElem?_append_right]
theorem allL_q (rs : List (List UInt8)) : (allL rs).getD (rs.length + 1) [] = qB rs := by
  simp [allL, List.getD_eq_getElem?_getD, List.getElem?_append_right]
/-- The disks' sectors as far as part k. -/
def fillTo2 (D F : Nat) (rs : List (List UInt8)) (k : Nat) : List (List UInt8) := (List.range D).map fun i => if roI D F i < k then (allL rs).getD (roI D F i) [] else []
def fillL (D F : Nat) (rs : List (List UInt8)) : List (List UInt8) := fillTo2 D F rs D
theorem fillTo2_len (D F : Nat) (rs : List (List UInt8)) (k : Nat) : (fillTo2 D F rs k).length = D := by simp [fillTo2]
theorem fillL_len (D F : Nat) (rs : List (List UInt8)) : (fillL D F rs).length = D := fillTo2_len _ _ _ _
theorem fillTo2_get {D F : Nat} {rs : List (List UInt8)} {k i : Nat} (hi : i < D) : (fillTo2 D F rs k).getD i [] = if roI D F i < k then (allL rs).getD (roI D F i) [] else [] := by
  simp [fillTo2, List.getD_eq_getElem?_getD, hi]
theorem fillL_get {D F : Nat} {rs : List (List UInt8)} {i : Nat} (hF : F < D) (hi : i < D) : (fillL D F rs).getD i [] = (allL rs).getD (roI D F i) [] := by
  unfold fillL
  rw [fillTo2_get hi, if_pos (roI_lt hF hi)]
theorem fillL_at {D F : Nat} {rs : List (List UInt8)} {k : Nat} (hF : F < D) (hk : k < D) : (fillL D F rs).getD (roS D F k) [] = (allL rs).getD k [] := by
  rw [fillL_get hF (roS_lt hF hk), roI_roS hF hk]
theorem fillTo2_zero (D F : Nat) (rs : List (List UInt8)) : fillTo2 D F rs 0 = List.replicate D [] := by
  apply List.ext_getElem (by simp [fillTo2])
  intro i h1 h2
  simp [fillTo2]
theorem fillTo2_succ {D F : Nat} {rs : List (List UInt8)} {k : Nat} (hF : F < D) (hk : k < D) : (fillTo2 D F rs k).set (roS D F k) ((allL rs).getD k []) = fillTo2 D F rs (k + 1) := by
  apply ext_getD (by rw [List.length_set, fillTo2_len, fillTo2_len])
  intro i hi
  rw [List.length_set, fillTo2_len] at hi
  rw [fillTo2_get hi]
  by_cases e : roS D F k = i
  · subst e
    rw [getD_set_same (by rw [fillTo2_len]; exact hi), roI_roS hF hk, if_pos (by omega)]
  · rw [getD_set_other e, fillTo2_get hi]
    have hne : roI D F i ≠ k := fun h => e (by rw [← h]; exact roS_roI hF hi)
    by_cases h : roI D F i < k
    · rw [if_pos h, if_pos (by omega)]
    · rw [if_neg h, if_neg (by omega)]

/-- Which geometry, which row: the disk of data chunk 0, how many disks, how many of data. -/
def roF (l d c r : Int) : Nat := (plF l d c r).toNat
def roD (d : Int) : Nat := d.toNat
def roW (l d : Int) : Nat := (d - (l - 4)).toNat
structure Ro (l d c r : Int) : Prop where
  hF : roF l d c r < roD d
  hW : roW l d < roD d
  w1 : 1 ≤ roW l d
  w7 : roW l d ≤ 7
  d8 : roD d ≤ 8
  d3 : 3 ≤ roD d
  dd : ((roD d : Nat) : Int) = d
  wd : gWid l d c = ((roW l d : Nat) : Int)
  lv : (l = 5 ∧ roD d = roW l d + 1) ∨ (l = 6 ∧ roD d = roW l d + 2)
  pP : plP l d c r = ((roS (roD d) (roF l d c r) (roW l d) : Nat) : Int)
  pQ : plQ l d c r = if l = 6 then ((roS (roD d) (roF l d c r) (roW l d + 1) : Nat) : Int) else -1
  pD : ∀ k : Nat, k < roW l d → plD l d c r (k : Int) = ((roS (roD d) (roF l d c r) k : Nat) : Int)
theorem emod_two {x d : Int} (h0 : 0 ≤ x) (h1 : x < d + d) : x % d = if x < d then x else x - d := by
  split
  · exact Int.emod_eq_of_lt h0 (by omega)
  · have h : x = (x - d) + d := by omega
    rw [h, Int.add_emod_right]
    rw [Int.emod_eq_of_lt (by omega) (by omega)]
    omega
theorem ro_of {l d c r : Int} (h : plOk l d c r = true) : Ro l d c r := by
  obtain ⟨hg, h0, h1⟩ := plOk_yes h
  have hb := gOk_bd hg
  have hl := (gOk_yes hg).1
  have hp := plP_yes h
  have hm := rem_bd (r / c) (show 1 ≤ d by omega)
  have hF := plF_bd l c r (show 1 ≤ d by omega)
  have hFe : plF l d c r = (d - 1 - r / c % d + (l - 4)) % d := rfl
  have hFe2 := emod_two (x := d - 1 - r / c % d + (l - 4)) (d := d) (by omega) (by omega)
  rw [hFe2] at hFe
  have e1 : ((roD d : Nat) : Int) = d := by unfold roD; omega
  have e2 : ((roF l d c r : Nat) : Int) = plF l d c r := by unfold roF; omega
  have e3 : ((roW l d : Nat) : Int) = d - (l - 4) := by unfold roW; omega
  have hroS : ∀ k : Nat, k < roD d → ((roS (roD d) (roF l d c r) k : Nat) : Int) = (plF l d c r + k) % d := fun k hk => by
    rw [emod_two (by omega) (by omega)]
    unfold roS
    split <;> split <;> omega
  refine ⟨by omega, by omega, by omega, by omega, by omega, by omega, e1, by rw [gWid_yes hg, e3], ?_, ?_, ?_, ?_⟩
  · rcases hl with h | h
    · exact .inl ⟨h.1, by omega⟩
    · exact .inr ⟨h.1, by omega⟩
  · rw [hp, hroS _ (by omega)]
    generalize r / c % d = q at hm hFe ⊢
    generalize plF l d c r = f at hF hFe ⊢
    clear hFe2 hroS
    rw [emod_two (by omega) (by omega)]
    split at hFe <;> split <;> omega
  · by_cases h6 : l = 6
    · rw [if_pos h6, hroS _ (by omega)]
      subst h6
      rw [plQ_6 h]
      generalize r / c % d = q at hm hFe ⊢
      generalize plF 6 d c r = f at hF hFe ⊢
      clear hFe2 hroS
      rw [emod_two (by omega) (by omega), emod_two (by omega) (by omega)]
      split at hFe <;> split <;> split <;> omega
    · rw [if_neg h6]
      obtain rfl : l = 5 := by omega
      exact plQ_5
  · intro k hk
    rw [hroS k (by omega), plD_yes (plDok_mk h (by omega) (by omega))]

def fillOk (l d c r : Int) (rs : List (List UInt8)) : Bool := plOk l d c r && (decide (rs.length = roW l d) && rs.all fun x => x.length == 32)
def roFill (l d c r : Int) (rs : List (List UInt8)) : Option (List (List UInt8)) := if fillOk l d c r rs = true then some (fillL (roD d) (roF l d c r) rs) else none
/-- The data chunks' sectors of the disks' ones. -/
def dataL (l d c r : Int) (xs : List (List UInt8)) : List (List UInt8) := (List.range (roW l d)).map fun k => xs.getD (roS (roD d) (roF l d c r) k) []
def parL (l d c r : Int) (xs : List (List UInt8)) : List UInt8 := xs.getD (roS (roD d) (roF l d c r) (roW l d)) []
def parQ (l d c r : Int) (xs : List (List UInt8)) : List UInt8 := if l = 6 then xs.getD (roS (roD d) (roF l d c r) (roW l d + 1)) [] else []
def roTake (l d c r : Int) (xs : List (List UInt8)) : Option (List (List UInt8)) :=
  if (plOk l d c r && decide (xs.length = roD d)) = true then solveB 32 (parL l d c r xs) (parQ l d c r xs) (dataL l d c r xs) else none
def roRight (l d c r : Int) (xs : List (List UInt8)) : Bool :=
  match roTake l d c r xs with
  | none => false
  | some rs => decide (roFill l d c r rs = some xs)
theorem fillOk_yes {l d c r : Int} {rs : List (List UInt8)} (h : fillOk l d c r rs = true) : plOk l d c r = true ∧ rs.length = roW l d ∧ ∀ x ∈ rs, x.length = 32 := by
  unfold fillOk at h
  simp only [Bool.and_eq_true, decide_eq_true_eq, List.all_eq_true, beq_iff_eq] at h
  exact ⟨h.1, h.2.1, h.2.2⟩
theorem fillOk_mk {l d c r : Int} {rs : List (List UInt8)} (h : plOk l d c r = true) (hl : rs.length = roW l d) (ha : ∀ x ∈ rs, x.length = 32) : fillOk l d c r rs = true := by
  unfold fillOk
  simp only [Bool.and_eq_true, decide_eq_true_eq, List.all_eq_true, beq_iff_eq]
  exact ⟨h, hl, ha⟩
theorem roFill_yes {l d c r : Int} {rs : List (List UInt8)} (h : fillOk l d c r rs = true) : roFill l d c r rs = some (fillL (roD d) (roF l d c r) rs) := if_pos h
theorem roFill_no {l d c r : Int} {rs : List (List UInt8)} (h : ¬ fillOk l d c r rs = true) : roFill l d c r rs = none := if_neg h
theorem dataL_len (l d c r : Int) (xs : List (List UInt8)) : (dataL l d c r xs).length = roW l d := by simp [dataL]
theorem dataL_get {l d c r : Int} {xs : List (List UInt8)} {k : Nat} (hk : k < roW l d) : (dataL l d c r xs).getD k [] = xs.getD (roS (roD d) (roF l d c r) k) [] := by
  simp [dataL, List.getD_eq_getElem?_getD, hk]
theorem roTake_yes {l d c r : Int} {xs : List (List UInt8)} (h : plOk l d c r = true) (hl : xs.length = roD d) : roTake l d c r xs = solveB 32 (parL l d c r xs) (parQ l d c r xs) (dataL l d c r xs) := by
  unfold roTake; rw [h, decide_eq_true hl]; rfl
theorem mem_getD {rs : List (List UInt8)} {N k : Nat} (h : ∀ r ∈ rs, r.length = N) (hk : k < rs.length) : (rs.getD k []).length = N := h _ (by simp [hk])
/-- All parts have a sector's bytes. -/
theorem allL_32 {rs : List (List UInt8)} (h0 : 0 < rs.length) (h : ∀ x ∈ rs, x.length = 32) {k : Nat} (hk : k < rs.length + 2) : ((allL rs).getD k []).length = 32 := by
  by_cases h1 : k < rs.length
  · rw [allL_data h1]; exact mem_getD h h1
  · by_cases h2 : k = rs.length
    · subst h2; rw [allL_p]; exact pB_len h0 h
    · obtain rfl : k = rs.length + 1 := by omega
      rw [allL_q]; exact qB_len h0 h
/-- Where nothing is missing all is as it is. -/
theorem missB_nil {rs : List (List UInt8)} (h : ∀ k, k < rs.length → (rs.getD k []).length = 32) : missB rs = [] := by
  apply List.eq_nil_iff_forall_not_mem.2
  intro j hj
  obtain ⟨h1, h2⟩ := missTo_mem.1 hj
  rw [h j h1] at h2
  omega
theorem solve_none {p q : List UInt8} {rs : List (List UInt8)} (h : ∀ x ∈ rs, x.length = 32) (h0 : 0 < rs.length) (h8 : rs.length ≤ 8) (hp : p.length = 0 ∨ p.length = 32) (hq : q.length = 0 ∨ q.length = 32) : solveB 32 p q rs = some rs := by
  have L : Lacks 32 rs rs := ⟨by omega, h, rfl, fun k _ => .inr rfl⟩
  have hm : missB rs = [] := missB_nil fun k hk => mem_getD h hk
  unfold solveB
  rw [L.ask hp hq, L.can h0 h8 (by rw [hm]; simp), hm]
  show some (filledB 32 rs) = some rs
  congr 1
  exact ext_getD (filledB_len _ _) fun k hk => L.filled_there (by rwa [filledB_len] at hk) (by rw [hm]; simp)
theorem take_none {l d c r : Int} {xs : List (List UInt8)} (h : plOk l d c r = true) (hl : xs.length = roD d) (hx : ∀ i, i < roD d → (xs.getD i []).length = 32) : roTake l d c r xs = some (dataL l d c r xs) := by
  have R := ro_of h
  have hw1 := R.w1; have hw7 := R.w7; have hW := R.hW; have hlv := R.lv
  rw [roTake_yes h hl]
  refine solve_none (fun x hx' => ?_) (by rw [dataL_len]; omega) (by rw [dataL_len]; omega) (.inr (hx _ (roS_lt R.hF hW))) ?_
  · obtain ⟨k, hk, rfl⟩ := List.getElem_of_mem hx'
    have hk' : k < roW l d := by rwa [dataL_len] at hk
    have := dataL_get (c := c) (r := r) (xs := xs) hk'
    rw [List.getD_eq_getElem?_getD, List.getElem?_eq_getElem hk] at this
    rw [show (dataL l d c r xs)[k] = _ from this]
    exact hx _ (roS_lt R.hF (by omega))
  · unfold parQ
    split
    · exact .inr (hx _ (roS_lt R.hF (by omega)))
    · exact .inl rfl
theorem dataL_fill {l d c r : Int} {rs : List (List UInt8)} (h : fillOk l d c r rs = true) : dataL l d c r (fillL (roD d) (roF l d c r) rs) = rs := by
  obtain ⟨hk, hn, ha⟩ := fillOk_yes h
  have R := ro_of hk
  have hW := R.hW
  refine ext_getD (by rw [dataL_len, hn]) fun k hk => ?_
  rw [dataL_len] at hk
  rw [dataL_get hk, fillL_at R.hF (by omega), allL_data (by omega)]
theorem fill_32 {l d c r : Int} {rs : List (List UInt8)} (h : fillOk l d c r rs = true) {i : Nat} (hi : i < roD d) : ((fillL (roD d) (roF l d c r) rs).getD i []).length = 32 := by
  obtain ⟨hk, hn, ha⟩ := fillOk_yes h
  have R := ro_of hk
  have hw1 := R.w1; have hlv := R.lv
  have := roI_lt R.hF hi
  rw [fillL_get R.hF hi]
  exact allL_32 (by omega) ha (by omega)
theorem row_right {l d c r : Int} {rs : List (List UInt8)} (h : fillOk l d c r rs = true) : roRight l d c r (fillL (roD d) (roF l d c r) rs) = true := by
  obtain ⟨hk, hn, ha⟩ := fillOk_yes h
  unfold roRight
  rw [take_none hk (fillL_len _ _ _) (fun i hi => fill_32 h hi), dataL_fill h]
  exact decide_eq_true (roFill_yes h)
/-- A part of a sum, changed. -/
theorem set_set_get {rs : List (List UInt8)} {k : Nat} (y : List UInt8) : (rs.set k (zeroL 32)).set k y = rs.set k y := by simp
theorem sum_parts {g : Nat → List UInt8 → List UInt8} (hg : ∀ k r, (g k r).length = r.length) (h0 : ∀ k, g k (zeroL 32) = zeroL 32) {rs : List (List UInt8)} (ha : ∀ x ∈ rs, x.length = 32) {k : Nat} (hk : k < rs.length) :
    ∃ s : List UInt8, s.length = 32 ∧ ∀ y : List UInt8, y.length = 32 → sumG g (rs.set k y) = xorL s (g k y) := by
  have ha0 := set_alike (i := k) ha (zeroL_len 32)
  refine ⟨sumG g (rs.set k (zeroL 32)), (sumG_len hg (alikeB_of (by rw [List.length_set]; omega) ha0).1).trans (alikeB_of (by rw [List.length_set]; omega) ha0).2, fun y hy => ?_⟩
  rw [← set_set_get y]
  exact sumG_set hg h0 (by rw [List.length_set]; exact hk) (getD_set_same hk) hy ha0
theorem set_self {rs : List (List UInt8)} {k : Nat} (hk : k < rs.length) : rs.set k (rs.getD k []) = rs := ext_getD (by rw [List.length_set]) fun j hj => by
  by_cases e : k = j
  · subst e; exact getD_set_same hk
  · exact getD_set_other e
theorem xorL_mid {s x y : List UInt8} (hs : s.length = 32) (hx : x.length = 32) (hy : y.length = 32) : xorL (xorL s x) (xorL s y) = xorL x y := by
  rw [xorL_comm s x, xorL_assoc, xorL_left (hs.trans hy.symm)]
/-- One data sector changed: what all parts change by. -/
theorem change_p {rs : List (List UInt8)} (ha : ∀ x ∈ rs, x.length = 32) {k : Nat} (hk : k < rs.length) {y : List UInt8} (hy : y.length = 32) : xorL (pB rs) (pB (rs.set k y)) = xorL (rs.getD k []) y := by
  obtain ⟨s, hs, H⟩ := sum_parts gP_len (gP_zero 32) ha hk
  have h1 := H _ (mem_getD ha hk)
  rw [set_self hk] at h1
  show xorL (sumG gP rs) (sumG gP (rs.set k y)) = _
  rw [h1, H y hy]
  exact xorL_mid hs (mem_getD ha hk) hy
theorem xorL_nil_eq {x y : List UInt8} (hx : x.length = 32) (hy : y.length = 32) (h : xorL x y = zeroL 32) : y = x := by
  have := xorL_left (a := x) (b := y) (hx.trans hy.symm)
  rw [h, xorL_zero x 32 hx] at this
  exact this.symm
/-- A sector turned is found. -/
theorem row_turned {l d c r : Int} {rs : List (List UInt8)} (h : fillOk l d c r rs = true) {i : Nat} (hi : i < roD d) {y : List UInt8} (hy : y.length = 32) (hne : y ≠ (fillL (roD d) (roF l d c r) rs).getD i []) :
    roRight l d c r ((fillL (roD d) (roF l d c r) rs).set i y) = false := by
  obtain ⟨hk, hn, ha⟩ := fillOk_yes h
  have R := ro_of hk
  have hw1 := R.w1; have hlv := R.lv; have hW := R.hW; have hF := R.hF
  have hlen : ((fillL (roD d) (roF l d c r) rs).set i y).length = roD d := by rw [List.length_set, fillL_len]
  have hsame : ((fillL (roD d) (roF l d c r) rs).set i y).getD i [] = y := getD_set_same (by rw [fillL_len]; exact hi)
  unfold roRight
  rw [take_none hk hlen (fun j hj => by
    by_cases e : i = j
    · subst e; rw [hsame]; exact hy
    · rw [getD_set_other e]; exact fill_32 h hj)]
  refine decide_eq_false fun e => ?_
  have hj := roI_lt hF hi
  have hji := roS_roI hF hi
  by_cases hd : roI (roD d) (roF l d c r) i < roW l d
  · have e2 : dataL l d c r ((fillL (roD d) (roF l d c r) rs).set i y) = rs.set (roI (roD d) (roF l d c r) i) y := ext_getD (by rw [dataL_len, List.length_set, hn]) fun k hk => by
      rw [dataL_len] at hk
      rw [dataL_get hk]
      by_cases ek : roI (roD d) (roF l d c r) i = k
      · subst ek; rw [hji, hsame, getD_set_same (by omega)]
      · rw [getD_set_other (fun e3 => ek (by rw [e3]; exact roI_roS hF (by omega))), fillL_at hF (by omega), allL_data (by omega), getD_set_other ek]
    rw [e2] at e
    have hf : fillOk l d c r (rs.set (roI (roD d) (roF l d c r) i) y) = true := fillOk_mk hk (by rw [List.length_set, hn]) (set_alike ha hy)
    rw [roFill_yes hf] at e
    injection e with e
    have e3 := congrArg (fun t : List (List UInt8) => t.getD (roS (roD d) (roF l d c r) (roW l d)) []) e
    have p1 := allL_p (rs.set (roI (roD d) (roF l d c r) i) y)
    rw [List.length_set, hn] at p1
    have p2 := allL_p rs
    rw [hn] at p2
    rw [fillL_at hF hW, getD_set_other (fun e4 => by
      have := roI_roS hF hW
      rw [← e4] at this
      omega), fillL_at hF hW, p1, p2] at e3
    have hc := change_p ha (k := roI (roD d) (roF l d c r) i) (by omega) hy
    rw [e3, xorL_self, pB_len (N := 32) (by omega) ha] at hc
    refine hne ?_
    rw [fillL_get hF hi, allL_data (by omega)]
    exact xorL_nil_eq (mem_getD ha (by omega)) hy hc.symm
  · have e2 : dataL l d c r ((fillL (roD d) (roF l d c r) rs).set i y) = rs := ext_getD (by rw [dataL_len, hn]) fun k hk => by
      rw [dataL_len] at hk
      rw [dataL_get hk, getD_set_other (fun e3 => hd (by rw [e3, roI_roS hF (by omega)]; exact hk)), fillL_at hF (by omega), allL_data (by omega)]
    rw [e2, roFill_yes h] at e
    injection e with e
    have e3 := congrArg (fun t : List (List UInt8) => t.getD i []) e
    rw [hsame] at e3
    exact hne e3.symm
end Go.Proofs.Ytadmofpipfdedaa
end
section
namespace Go.Proofs.Ytadmofpipfdedaa
open Go.RowKit

theorem gpw_step {x m : Nat} (hx : x < 256) (h : 0 < m) : gmul (gmul x 2) (gpw 2 (m - 1)) = gmul x (gpw 2 m) := by
  obtain ⟨k, rfl⟩ : ∃ k, m = k + 1 := ⟨m - 1, by omega⟩
  rw [← gmul_assoc hx (by decide) (gpw_lt (by decide) _)]; rfl
set_option maxRecDepth 100000 in
theorem refPow_any (n : Int) (hn : -9223372036854775808 ≤ n ∧ n ≤ 9223372036854775807) (w : World) : Calls Try.prog 84 #[.int .i64 n] w fun e w' => e = .returned (.int .u8 ((gpow n : Nat) : Int)) ∧ w' = w := by
  obtain ⟨hn1, hn2⟩ := hn
  have Ht := tmod255 n
  have h0 := Int.emod_nonneg n (show (255 : Int) ≠ 0 by omega)
  have h1 := Int.emod_lt_of_pos n (show (0 : Int) < 255 by omega)
  have hlo : -255 < n.tmod 255 := Int.lt_tmod_of_pos _ (by omega)
  have hhi : n.tmod 255 < 255 := Int.tmod_lt_of_pos _ (by omega)
  obtain ⟨k, hk⟩ := Int.eq_ofNat_of_zero_le h0
  have H : Hid (gpw 2 k = gpow n) := by unfold gpow; rw [gpw_two_n, hk]; exact congrArg gE rfl
  rw [hk] at h1 Ht
  clear hk h0
  by_cases hneg : n.tmod 255 < 0
  · rw [if_pos hneg] at Ht
    have Ht1 := Lib.hid Ht.symm
    clear Ht
    go_enter Try.func84, Try.ntmps84
    go_wp2
    have Ht2 := Ht1.out
    clear Ht1 hlo hhi hneg
    generalize n.tmod 255 + 255 = z at Ht2 ⊢
    subst Ht2
    go_loop [0, 3] (fun vn vx => ∃ m x : Nat, m < 256 ∧ x < 256 ∧ vn = .int .i64 (m : Int) ∧ vx = .int .u8 (x : Int) ∧ Hid (gmul x (gpw 2 m) = gpow n)) (fun vn _ => (intOf vn).toNat)
    case atStart => exact ⟨k, 1, by omega, by decide, rfl, rfl, (gmul_one_left _ (gpw_lt (by decide) k)).trans H.out⟩
    case round =>
      obtain ⟨m, x, hm, hx, rfl, rfl, Hm⟩ := hrel
      by_cases hz : m = 0
      · have Hr : Hid (x = gpow n) := by subst hz; rw [← Hm.out]; exact (gmul_one_right hx).symm
        have hne : ¬ (0 : Int) < (m : Int) := by omega
        clear hz Hm
        go_wp2
        go_ret
        exact ⟨ret_int (congrArg Nat.cast Hr.out), rfl⟩
      · have hne : (0 : Int) < (m : Int) := by omega
        have hx2 : gmul x 2 < 256 := gmul_lt hx
        have Hr : Hid (gmul (gmul x 2) (gpw 2 (m - 1)) = gpow n) := (gpw_step hx (by omega)).trans Hm.out
        clear Hm
        go_wp2_with (go_at_call 85; refine (refMul_any x 2 hx (by decide) _).mono ?_; rintro e w' ⟨rfl, rfl⟩)
        go_round
        case rel => exact ⟨m - 1, gmul x 2, by omega, hx2, by go_num, rfl, Hr⟩
        case measure => simp [intOf]; omega
  · rw [if_neg hneg] at Ht
    have Ht1 := Lib.hid Ht.symm
    clear Ht
    go_enter Try.func84, Try.ntmps84
    go_wp2
    have Ht2 := Ht1.out
    clear Ht1 hlo hhi hneg
    generalize n.tmod 255 = z at Ht2 ⊢
    subst Ht2
    go_loop [0, 3] (fun vn vx => ∃ m x : Nat, m < 256 ∧ x < 256 ∧ vn = .int .i64 (m : Int) ∧ vx = .int .u8 (x : Int) ∧ Hid (gmul x (gpw 2 m) = gpow n)) (fun vn _ => (intOf vn).toNat)
    case atStart => exact ⟨k, 1, by omega, by decide, rfl, rfl, (gmul_one_left _ (gpw_lt (by decide) k)).trans H.out⟩
    case round =>
      obtain ⟨m, x, hm, hx, rfl, rfl, Hm⟩ := hrel
      by_cases hz : m = 0
      · have Hr : Hid (x = gpow n) := by subst hz; rw [← Hm.out]; exact (gmul_one_right hx).symm
        have hne : ¬ (0 : Int) < (m : Int) := by omega
        clear hz Hm
        go_wp2
        go_ret
        exact ⟨ret_int (congrArg Nat.cast Hr.out), rfl⟩
      · have hne : (0 : Int) < (m : Int) := by omega
        have hx2 : gmul x 2 < 256 := gmul_lt hx
        have Hr : Hid (gmul (gmul x 2) (gpw 2 (m - 1)) = gpow n) := (gpw_step hx (by omega)).trans Hm.out
        clear Hm
        go_wp2_with (go_at_call 85; refine (refMul_any x 2 hx (by decide) _).mono ?_; rintro e w' ⟨rfl, rfl⟩)
        go_round
        case rel => exact ⟨m - 1, gmul x 2, by omega, hx2, by go_num, rfl, Hr⟩
        case measure => simp [intOf]; omega
end Go.Proofs.Ytadmofpipfdedaa
end
section
set_option maxRecDepth 20000
namespace Go.Proofs.Ytadmofpipfdedaa
open Go.RowKit

theorem refMul_u8 (x : UInt8) (f : Nat) (hf : f < 256) (w : World) : Calls Try.prog 85 #[.int .u8 (x.toNat : Int), .int .u8 (f : Int)] w fun e w' => e = .returned (.int .u8 ((mulU x f).toNat : Int)) ∧ w' = w := by
  rw [mulU_nat]
  exact refMul_any x.toNat f x.toNat_lt hf w
set_option maxHeartbeats 400000 in
theorem alike_any (A : Option Addr) (rs : List (List UInt8)) (n cp : Nat) (w : World) (hn : rs.length = n) (hr : RdR w w.heap.size A rs) :
    Calls Try.prog 83 #[.slice A n cp] w fun e w' => e = .returned (.bool (alikeB rs)) ∧ w' = w := by
  subst hn
  have hm := hr.1
  by_cases h0 : rs.length = 0
  · have hz := Lib.hid (show alikeB rs = false by rw [List.eq_nil_of_length_eq_zero h0]; rfl)
    have Hz := Lib.hid h0
    clear h0
    go_enter Try.func83, Try.ntmps83
    rw [Hz.out]
    go_wp2
    go_loop [7] (fun i => i = .int .i64 0) (fun _ => 0)
    case atStart => rfl
    case round =>
      subst hrel
      go_wp2
      go_ret
      exact ⟨by rw [hz.out]; rfl, rfl⟩
  · obtain ⟨b, off, rfl, hb, hc⟩ := hr.2 (by omega)
    have Hc := Lib.hid hc
    obtain ⟨A0, c0, k0, r0⟩ := hc 0 (by omega)
    have Hno := Lib.hid (fun k => @alikeB_no rs k)
    have Hyes := Lib.hid (@alikeB_iff rs)
    have hN := r0.1
    rw [Nat.add_zero] at k0
    have i0 : (0 : Int) < (rs.length : Int) := by omega
    have i1 : 0 < rs.length := by omega
    generalize (rs.getD 0 []).length = N at k0 hN Hno Hyes
    clear hc h0 hr r0
    go_enter Try.func83, Try.ntmps83
    go_wp2
    go_loop [7] (fun i => ∃ k : Nat, k ≤ rs.length ∧ i = .int .i64 k ∧ Hid (∀ j, j < k → (rs.getD j []).length = N)) (fun i => rs.length - (intOf i).toNat)
    case atStart => exact ⟨0, Nat.zero_le _, rfl, fun j hj => by omega⟩
    case round =>
      obtain ⟨k, hk, rfl, Hj⟩ := hrel
      by_cases hlt : k < rs.length
      · obtain ⟨A', c', h1, h2⟩ := Hc.out k hlt
        have Hno := Lib.hid (Hno.out k hlt)
        by_cases he : (rs.getD k []).length = N
        · have Hn : Hid (∀ j, j < k + 1 → (rs.getD j []).length = N) := fun j hj => by
            by_cases hjk : j = k
            · subst hjk; exact he
            · exact Hj.out j (by omega)
          rw [he] at h1
          clear h2 he
          go_wp2
          go_round
          case rel => exact ⟨k + 1, by omega, by go_num, Hn⟩
          case measure => simp [intOf]; omega
        · have hz := Lib.hid (Hno.out he)
          have hne := int_bne_yes he
          clear he
          generalize rs.getD k [] = row at h1 h2 hne
          go_wp2
          go_ret
          exact ⟨by rw [hz.out]; rfl, rfl⟩
      · obtain rfl : k = rs.length := by omega
        have hz := Lib.hid (Hyes.out.2 ⟨i1, Hj.out⟩)
        go_wp2
        go_ret
        exact ⟨by rw [hz.out]; rfl, rfl⟩

set_option maxHeartbeats 800000 in
theorem refP_any (A : Option Addr) (rs : List (List UInt8)) (n cp : Nat) (w : World) (hn : rs.length = n) (hr : RdR w w.heap.size A rs) :
    Calls Try.prog 66 #[.slice A n cp] w fun e w' => ∃ v, e = .returned v ∧ OwB 5 w' w.heap.size v (pB rs) ∧ Below w.heap.size w w' := by
  have C := Lib.hid (alike_any A rs n cp w hn hr)
  subst hn
  have hm := hr.1
  by_cases h0 : alikeB rs = true
  · obtain ⟨hp, hall⟩ := alikeB_iff.1 h0
    have Hs : Hid (pB rs = foldG gP 0 (zeroL (rs.getD 0 []).length) rs) := if_pos h0
    rw [h0] at C
    clear h0
    have Hall := Lib.hid hall
    obtain ⟨b, off, rfl, hbb, hc⟩ := hr.2 hp
    have Hc := Lib.hid hc
    obtain ⟨A0, c0, k0, r0⟩ := hc 0 hp
    have hN := r0.1
    rw [Nat.add_zero] at k0
    have i0 : (0 : Int) < (rs.length : Int) := by omega
    have Hf := Lib.hid (foldG_snoc gP (zeroL (rs.getD 0 []).length) rs)
    have Hl := Lib.hid (foldG_take_len gP_len (z := zeroL (rs.getD 0 []).length) (fun k hk => (hall k hk).trans (zeroL_len _).symm))
    rw [zeroL_len] at Hl
    have own0 := own_make 5 w (rs.getD 0 []).length hN
    have km := make_bytes (rs.getD 0 []).length hN
    rw [show List.replicate (rs.getD 0 []).length (0 : UInt8) = zeroL (rs.getD 0 []).length from rfl] at own0
    clear hc hall hr r0
    generalize (rs.getD 0 []).length = N at Hs Hall k0 hN Hf Hl own0 km
    generalize zeroL N = zs at Hs Hf Hl own0
    go_enter Try.func66, Try.ntmps66
    go_wp2_with fail
    refine C.out.mono ?_
    rintro e w1 ⟨rfl, rfl⟩
    go_wp2
    go_loopw [18] (fun i wr => ∃ k : Nat, k ≤ rs.length ∧ i = .int .i64 k ∧ OwB 5 wr w1.heap.size (.slice (some ⟨w1.heap.size, 0, none⟩) N N) (foldG gP 0 zs (rs.take k)) ∧ Below w1.heap.size w1 wr) (fun i _ => rs.length - (intOf i).toNat)
    case atStart => exact ⟨0, Nat.zero_le _, rfl, own0, below1 _ _⟩
    case round =>
      obtain ⟨k, hk, rfl, hown, hbr⟩ := hrel
      have Hy := Lib.hid (Hl.out k)
      by_cases hlt : k < rs.length
      · obtain ⟨A', c', h1, h2⟩ := Hc.out k hlt
        have Hsn := Lib.hid (Hf.out k hlt)
        have hln := Hall.out k hlt
        rw [hln] at h1
        have Hln := Lib.hid hln
        clear hln
        rw [← hbr.cell (p := ⟨b, off + k, none⟩) hbb] at h1
        generalize rs.getD k [] = row at h1 h2 Hsn Hln
        generalize foldG gP 0 zs (rs.take k) = y at hown Hsn Hy
        have hlen := h2.1
        go_wp2
        go_loopw [24] (fun i wr => ∃ j : Nat, j ≤ N ∧ i = .int .i64 j ∧ OwB 5 wr w1.heap.size (.slice (some ⟨w1.heap.size, 0, none⟩) N N) (xorTo y row j) ∧ Below w1.heap.size w1 wr) (fun i _ => N - (intOf i).toNat)
        case atStart => exact ⟨0, Nat.zero_le _, rfl, by rw [xorTo_zero]; exact hown, hbr⟩
        case round =>
          obtain ⟨j, hj, rfl, hown2, hbr2⟩ := hrel
          have Hry := Lib.hid (show row.length = y.length from Hln.out.trans Hy.out.symm)
          by_cases hlt2 : j < N
          · obtain ⟨b2, off2, rfl, hb2, hc2⟩ := h2.2 (by have := Hln.out; omega)
            have h3 := hc2 j (by have := Hln.out; omega)
            rw [← hbr2.cell (p := ⟨b2, off2 + j, none⟩) hb2] at h3
            obtain ⟨h4, h5⟩ := hown2.cell ((xorTo_len Hry.out (by have := Hy.out; omega)).trans Hy.out) j hlt2
            rw [xorTo_get Hry.out (by have := Hy.out; omega)] at h4
            have Hset := Lib.hid (hown2.set ((xorTo_len Hry.out (by have := Hy.out; omega)).trans Hy.out) j (y.getD j 0 ^^^ row.getD j 0)).1
            have Hx := Lib.hid (xorTo_succ Hry.out (show j < y.length by have := Hy.out; omega))
            have ex := xor_u8 (y.getD j 0) (row.getD j 0)
            have i0 : (0 : Int) ≤ (j : Int) := by omega
            have i1 : (j : Int) < (N : Int) := by omega
            generalize row.getD j 0 = c at h3 Hset Hx ex
            generalize y.getD j 0 = d at h4 Hset Hx ex
            generalize d ^^^ c = dc at Hset Hx ex
            clear hc2
            go_wp2
            go_roundw
            case rel => exact ⟨j + 1, by omega, by go_num, by rw [← Hx.out]; exact Hset.out, hbr2.setCell (p := ⟨w1.heap.size, j, none⟩) (Nat.le_refl _) _⟩
            case measure => simp [intOf]; omega
          · obtain rfl : j = N := by omega
            have Hxa := Lib.hid (show xorTo y row j = xorL y row by rw [← Hy.out]; exact xorTo_all Hry.out)
            rw [Hxa.out] at hown2
            go_wp2
            go_roundw
            case rel => exact ⟨k + 1, by omega, by go_num, by rw [Hsn.out]; exact hown2, hbr2⟩
            case measure => simp [intOf]; omega
      · obtain rfl : k = rs.length := by omega
        have Hall2 := Lib.hid (show foldG gP 0 zs (rs.take rs.length) = pB rs by rw [List.take_length]; exact Hs.out.symm)
        rw [Hall2.out] at hown
        go_wp2
        go_ret
        exact ⟨_, rfl, hown, hbr⟩
  · have hz : alikeB rs = false := by simpa using h0
    have Hp : Hid (pB rs = []) := if_neg h0
    rw [hz] at C
    clear hz h0
    go_enter Try.func66, Try.ntmps66
    go_wp2_with fail
    refine C.out.mono ?_
    rintro e w1 ⟨rfl, rfl⟩
    go_wp2
    go_ret
    exact ⟨_, rfl, nil_own _ _ Hp.out, Below.refl _ _⟩

set_option maxHeartbeats 800000 in
theorem refQ_any (A : Option Addr) (rs : List (List UInt8)) (n cp : Nat) (w : World) (hn : rs.length = n) (hr : RdR w w.heap.size A rs) :
    Calls Try.prog 67 #[.slice A n cp] w fun e w' => ∃ v, e = .returned v ∧ OwB 5 w' w.heap.size v (qB rs) ∧ Below w.heap.size w w' := by
  have C := Lib.hid (alike_any A rs n cp w hn hr)
  subst hn
  have hm := hr.1
  by_cases h0 : alikeB rs = true
  · obtain ⟨hp, hall⟩ := alikeB_iff.1 h0
    have Hs : Hid (qB rs = foldG gQ 0 (zeroL (rs.getD 0 []).length) rs) := if_pos h0
    rw [h0] at C
    clear h0
    have Hall := Lib.hid hall
    obtain ⟨b, off, rfl, hbb, hc⟩ := hr.2 hp
    have Hc := Lib.hid hc
    obtain ⟨A0, c0, k0, r0⟩ := hc 0 hp
    have hN := r0.1
    rw [Nat.add_zero] at k0
    have i0 : (0 : Int) < (rs.length : Int) := by omega
    have Hf := Lib.hid (foldG_snoc gQ (zeroL (rs.getD 0 []).length) rs)
    have Hl := Lib.hid (foldG_take_len gQ_len (z := zeroL (rs.getD 0 []).length) (fun k hk => (hall k hk).trans (zeroL_len _).symm))
    rw [zeroL_len] at Hl
    have own0 := own_make 5 w (rs.getD 0 []).length hN
    have km := make_bytes (rs.getD 0 []).length hN
    rw [show List.replicate (rs.getD 0 []).length (0 : UInt8) = zeroL (rs.getD 0 []).length from rfl] at own0
    clear hc hall hr r0
    generalize (rs.getD 0 []).length = N at Hs Hall k0 hN Hf Hl own0 km
    generalize zeroL N = zs at Hs Hf Hl own0
    go_enter Try.func67, Try.ntmps67
    go_wp2_with fail
    refine C.out.mono ?_
    rintro e w1 ⟨rfl, rfl⟩
    go_wp2
    go_loopw [19] (fun i wr => ∃ k : Nat, k ≤ rs.length ∧ i = .int .i64 k ∧ OwB 5 wr w1.heap.size (.slice (some ⟨w1.heap.size, 0, none⟩) N N) (foldG gQ 0 zs (rs.take k)) ∧ Below w1.heap.size w1 wr) (fun i _ => rs.length - (intOf i).toNat)
    case atStart => exact ⟨0, Nat.zero_le _, rfl, own0, below1 _ _⟩
    case round =>
      obtain ⟨k, hk, rfl, hown, hbr⟩ := hrel
      have Hy := Lib.hid (Hl.out k)
      by_cases hlt : k < rs.length
      · obtain ⟨A', c', h1, h2⟩ := Hc.out k hlt
        have Hsn := Lib.hid (show foldG gQ 0 zs (rs.take (k + 1)) = xorL (foldG gQ 0 zs (rs.take k)) (scaleL (rs.getD k []) (gpow (k : Int))) from Hf.out k hlt)
        have hln := Hall.out k hlt
        rw [hln] at h1
        have Hln := Lib.hid hln
        clear hln
        rw [← hbr.cell (p := ⟨b, off + k, none⟩) hbb] at h1
        generalize rs.getD k [] = row at h1 h2 Hsn Hln
        generalize foldG gQ 0 zs (rs.take k) = y at hown Hsn Hy
        have hlen := h2.1
        have CP := Lib.hid (fun W => refPow_any (k : Int) (by omega) W)
        have hfp := gpow_lt (k : Int)
        generalize gpow (k : Int) = f at CP Hsn hfp
        go_wp2_with fail
        refine (CP.out _).mono ?_
        rintro e w2 ⟨rfl, rfl⟩
        go_wp2
        go_loopw [28] (fun i wr => ∃ j : Nat, j ≤ N ∧ i = .int .i64 j ∧ OwB 5 wr w1.heap.size (.slice (some ⟨w1.heap.size, 0, none⟩) N N) (xorTo y (scaleL row f) j) ∧ Below w1.heap.size w1 wr) (fun i _ => N - (intOf i).toNat)
        case atStart => exact ⟨0, Nat.zero_le _, rfl, by rw [xorTo_zero]; exact hown, hbr⟩
        case round =>
          obtain ⟨j, hj, rfl, hown2, hbr2⟩ := hrel
          have Hry := Lib.hid (show (scaleL row f).length = y.length from (scaleL_len _ _).trans (Hln.out.trans Hy.out.symm))
          by_cases hlt2 : j < N
          · obtain ⟨b2, off2, rfl, hb2, hc2⟩ := h2.2 (by have := Hln.out; omega)
            have h3 := hc2 j (by have := Hln.out; omega)
            rw [← hbr2.cell (p := ⟨b2, off2 + j, none⟩) hb2] at h3
            have hown3 := hown2.drewI
            have hbr3 := hbr2.drew
            obtain ⟨h4, h5⟩ := hown3.cell ((xorTo_len Hry.out (by have := Hy.out; omega)).trans Hy.out) j hlt2
            rw [xorTo_get Hry.out (by have := Hy.out; omega)] at h4
            have Hset := Lib.hid (hown3.set ((xorTo_len Hry.out (by have := Hy.out; omega)).trans Hy.out) j (y.getD j 0 ^^^ (scaleL row f).getD j 0)).1
            have Hx := Lib.hid (xorTo_succ Hry.out (show j < y.length by have := Hy.out; omega))
            rw [scaleL_get] at Hset Hx
            have i0 : (0 : Int) ≤ (j : Int) := by omega
            have i1 : (j : Int) < (N : Int) := by omega
            generalize row.getD j 0 = c at h3 Hset Hx
            have CM := Lib.hid (fun W => refMul_u8 c f hfp W)
            generalize mulU c f = m at CM Hset Hx
            have ex := xor_u8 (y.getD j 0) m
            generalize y.getD j 0 = d at h4 Hset Hx ex
            generalize d ^^^ m = dc at Hset Hx ex
            clear hc2
            go_wp2_with fail
            refine wp_region_still_tail 9 (by kernel_rfl) (by kernel_rfl) ?_
            simp only [List.take_succ_cons, List.take_zero, List.drop_succ_cons, List.drop_zero]
            change wpStill _ _ wr.drew _ _ _
            generalize hwd : wr.drew = wd at h4 h5 Hset hbr3 hown3 ⊢
            have Hwd := Lib.hid hwd
            clear hwd
            repeat (first | still_step | (still_call (CM.out _)))
            refine wpStill_nil ?_
            change wpList _ _ _ _ _ wr.drew
            rw [Hwd.out]
            go_wp2
            go_roundw
            case rel => exact ⟨j + 1, by omega, by go_num, by rw [← Hx.out]; exact Hset.out, hbr3.setCell (p := ⟨w1.heap.size, j, none⟩) (Nat.le_refl _) _⟩
            case measure => simp [intOf]; omega
          · obtain rfl : j = N := by omega
            have Hxa := Lib.hid (show xorTo y (scaleL row f) j = xorL y (scaleL row f) by rw [← Hy.out]; exact xorTo_all Hry.out)
            rw [Hxa.out] at hown2
            go_wp2
            go_roundw
            case rel => exact ⟨k + 1, by omega, by go_num, by rw [Hsn.out]; exact hown2, hbr2⟩
            case measure => simp [intOf]; omega
      · obtain rfl : k = rs.length := by omega
        have Hall2 := Lib.hid (show foldG gQ 0 zs (rs.take rs.length) = qB rs by rw [List.take_length]; exact Hs.out.symm)
        rw [Hall2.out] at hown
        go_wp2
        go_ret
        exact ⟨_, rfl, hown, hbr⟩
  · have hz : alikeB rs = false := by simpa using h0
    have Hp : Hid (qB rs = []) := if_neg h0
    rw [hz] at C
    clear hz h0
    go_enter Try.func67, Try.ntmps67
    go_wp2_with fail
    refine C.out.mono ?_
    rintro e w1 ⟨rfl, rfl⟩
    go_wp2
    go_ret
    exact ⟨_, rfl, nil_own _ _ Hp.out, Below.refl _ _⟩
end Go.Proofs.Ytadmofpipfdedaa
end
section
namespace Go.Proofs.Ytadmofpipfdedaa
open Go.RowKit

theorem new_at (w : World) : DskAt (w.alloc (.cells (dcells (List.replicate 1664 0) (List.replicate 1664 0) (.slice none 0 0) false).toArray 99)) w.heap.size w.heap.size (.slice none 0 0) Dsk.new :=
  ⟨heap_alloc_new _ _, World.ownsRow_nil _ _ _ _, Nat.le_refl _, by simp [Value.ownBlock], Dsk.new_ok⟩
theorem dsk_new_any (w : World) : Calls Try.prog 43 #[] w fun e w' => e = .returned (.pointer (some ⟨w.heap.size, 0, none⟩)) ∧ DskAt w' w.heap.size w.heap.size (.slice none 0 0) Dsk.new ∧ Below w.heap.size w w' := by
  have H := Lib.hid (new_at w)
  have hbuild := build_new
  generalize hC : dcells (List.replicate 1664 0) (List.replicate 1664 0) (.slice none 0 0) false = C at H hbuild
  clear hC
  go_enter Try.func43, Try.ntmps43
  go_wp2_with ((refine wpList_build_run rfl 99 #[] (by rfl) #[] (by simp) (.agg C.toArray) (hbuild _) ?_))
  go_ret
  exact ⟨rfl, H.out, below1 _ _⟩
section
variable (B b : Nat) (pv : Value) (D : Dsk) (w : World) (h : DskAt w B b pv D)
include h
theorem dsk_failed_any : Calls Try.prog 42 #[.pointer (some ⟨b, 0, none⟩)] w fun e w' => e = .returned (.bool D.f) ∧ w' = w := by
  have hc := cell_df h.blk h.ok.S h.ok.now
  clear h
  go_enter Try.func42, Try.ntmps42
  go_wp2
  go_ret
  exact ⟨rfl, rfl⟩
/-- The error of a call on sector k. -/
def reachE (f : Bool) (k : Int) : Int := if f = true then 5 else if k < 0 ∨ 52 ≤ k then 4 else 0
theorem dsk_reach_any (k : Int) (hk : -9223372036854775808 ≤ k ∧ k ≤ 9223372036854775807) : Calls Try.prog 74 #[.pointer (some ⟨b, 0, none⟩), .int .i64 k] w fun e w' => e = .returned (.int .i64 (reachE D.f k)) ∧ w' = w := by
  have hc := cell_df h.blk h.ok.S h.ok.now
  have HE : Hid (reachE D.f k = if D.f = true then 5 else if k < 0 ∨ 52 ≤ k then 4 else 0) := rfl
  clear h
  generalize D.f = f at hc HE ⊢
  generalize reachE f k = E at HE ⊢
  cases f
  · by_cases h1 : k < 0
    · have HE2 := Lib.hid (show E = 4 by rw [HE.out, if_neg (by simp), if_pos (.inl h1)])
      clear HE
      go_enter Try.func74, Try.ntmps74
      go_wp2
      go_ret
      exact ⟨by rw [HE2.out]; rfl, rfl⟩
    · by_cases h2 : 52 ≤ k
      · have HE2 := Lib.hid (show E = 4 by rw [HE.out, if_neg (by simp), if_pos (.inr h2)])
        clear HE
        go_enter Try.func74, Try.ntmps74
        go_wp2
        go_ret
        exact ⟨by rw [HE2.out]; rfl, rfl⟩
      · have HE2 := Lib.hid (show E = 0 by rw [HE.out, if_neg (by simp), if_neg (by omega)])
        clear HE
        go_enter Try.func74, Try.ntmps74
        go_wp2
        go_ret
        exact ⟨by rw [HE2.out]; rfl, rfl⟩
  · have HE2 := Lib.hid (show E = 5 by rw [HE.out, if_pos rfl])
    clear HE
    go_enter Try.func74, Try.ntmps74
    go_wp2
    go_ret
    exact ⟨by rw [HE2.out]; rfl, rfl⟩
/-- The error of a call that sets sector k to n bytes. -/
def takeE (f : Bool) (k : Int) (n : Nat) : Int := if reachE f k ≠ 0 then reachE f k else if n ≠ 32 then 1 else 0
theorem dsk_take_any (k : Int) (A : Option Addr) (n c : Nat) (hk : -9223372036854775808 ≤ k ∧ k ≤ 9223372036854775807) (hn : n ≤ 140737488355328) :
    Calls Try.prog 80 #[.pointer (some ⟨b, 0, none⟩), .int .i64 k, .slice A n c] w fun e w' => e = .returned (.int .i64 (takeE D.f k n)) ∧ w' = w := by
  have C := Lib.hid (dsk_reach_any B b pv D w h k hk)
  have HE : Hid (takeE D.f k n = if reachE D.f k ≠ 0 then reachE D.f k else if n ≠ 32 then 1 else 0) := rfl
  clear h
  generalize takeE D.f k n = E at HE ⊢
  generalize reachE D.f k = R at HE C
  by_cases h1 : R = 0
  · subst h1
    by_cases h2 : n = 32
    · have HE2 := Lib.hid (show E = 0 by rw [HE.out, if_neg (by simp), if_neg (by simp [h2])])
      have e2 : ((n : Int) != 32) = false := by subst h2; rfl
      clear HE h2
      go_enter Try.func80, Try.ntmps80
      go_wp2_with fail
      refine C.out.mono ?_
      rintro e w' ⟨rfl, rfl⟩
      go_wp2
      go_ret
      exact ⟨by rw [HE2.out]; rfl, rfl⟩
    · have HE2 := Lib.hid (show E = 1 by rw [HE.out, if_neg (by simp), if_pos h2])
      have e2 : ((n : Int) != 32) = true := by rw [bne_iff_ne]; omega
      clear HE h2
      go_enter Try.func80, Try.ntmps80
      go_wp2_with fail
      refine C.out.mono ?_
      rintro e w' ⟨rfl, rfl⟩
      go_wp2
      go_ret
      exact ⟨by rw [HE2.out]; rfl, rfl⟩
  · have HE2 := Lib.hid (show E = R by rw [HE.out, if_pos h1])
    have e2 : (R != 0) = true := by rw [bne_iff_ne]; exact h1
    clear HE h1
    go_enter Try.func80, Try.ntmps80
    go_wp2_with fail
    refine C.out.mono ?_
    rintro e w' ⟨rfl, rfl⟩
    go_wp2
    go_ret
    exact ⟨by rw [HE2.out]; rfl, rfl⟩
end
end Go.Proofs.Ytadmofpipfdedaa
end
section
set_option maxRecDepth 8000
namespace Go.Proofs.Ytadmofpipfdedaa
open Go.RowKit

theorem range_heap {w w' : World} {b o : Nat} {cs : List Value} (h : w.rangeAt b o cs) (hb : w'.heap[b]? = w.heap[b]?) : w'.rangeAt b o cs := fun j v hj => (World.cell?_of_block (a := ⟨b, o + j, none⟩) hb).trans (h j v hj)
section
variable {P : Program}
theorem wpStill_load_mid {ops : Array Oper} {rest : List Oper} {op : Oper} {a : Act} {w : World} {Q : Act → Prop} (hgd : op.guard = none) (ty : TypeId) (x : Operand) (ho : op.op = .load ty x)
    (b o : Nat) (hx : a.eval x = .pointer (some ⟨b, o, none⟩)) (cs : List Value) (d : TypeDesc) (hc : w.rangeAt b o cs) (hu : P.underlying ty = some d) (hd : d.isRow = true) (hi : (P.info? ty).map (·.size) = some cs.length)
    (h : wpStill P ops w Q rest (a.put op.dst (.agg cs.toArray))) : wpStill P ops w Q (op :: rest) a := by
  refine wpStill_step (fun K hK => ?_)
  rw [if_pos (by simp [Region.wanted, hgd])]
  unfold Oper.still execOp
  simp only [ho, hx, Instr.loadAt, Instr.sureAddr, Sem.run_bind, Sem.run_pure, Result.andThen_ok, run_loadVar_mid w b o ty cs d hc hu hd hi]
  exact ⟨rfl, hK _ h⟩
theorem spl_all {cur vs : List Value} (h : vs.length = cur.length) : spl cur 0 vs = vs := by
  unfold spl; simp [h]
/-- Some cells set in an array, as build sets them. -/
theorem foldl_spl (o : Nat) (vs : Array Value) (z : Array Value) (h : o + vs.size ≤ z.size) : vs.zipIdx.foldl (fun cs (x : Value × Nat) => cs.setIfInBounds (o + x.2) x.1) z = (spl z.toList o vs.toList).toArray := by
  obtain ⟨h1, h2⟩ := Go.Great.foldl_set o vs.toList 0 z
  have e : vs.zipIdx.foldl (fun cs (x : Value × Nat) => cs.setIfInBounds (o + x.2) x.1) z = (vs.toList.zipIdx 0).foldl (fun cs (x : Value × Nat) => cs.setIfInBounds (o + x.2) x.1) z := by
    rw [← Array.foldl_toList, Array.toList_zipIdx]
  rw [e]
  apply Array.ext_getElem?
  intro k
  have hl1 : (z.toList.take o).length = o := by rw [List.length_take, Array.length_toList]; omega
  have e3 : ∀ l : List Value, l.toArray[k]? = l[k]? := fun l => by simp
  rw [h2 k, e3 (spl z.toList o vs.toList)]
  unfold spl
  simp only [Nat.add_zero, Array.length_toList]
  by_cases c1 : k < o
  · rw [if_neg (by omega), List.append_assoc, List.getElem?_append_left (by omega), List.getElem?_take, if_pos c1, Array.getElem?_toList]
  · by_cases c2 : k < o + vs.size
    · rw [if_pos (by omega), List.append_assoc, List.getElem?_append_right (by omega), hl1, List.getElem?_append_left (by rw [Array.length_toList]; omega)]
    · rw [if_neg (by omega), List.getElem?_append_right (l₁ := z.toList.take o ++ vs.toList) (by rw [List.length_append, hl1, Array.length_toList]; omega), List.length_append, hl1, Array.length_toList, List.getElem?_drop, Array.getElem?_toList]
      congr 1
      omega
theorem fill_step (place : Nat → Option (Nat × Nat)) (z : Array Value) (i o : Nat) (v : Value) (rest : List (Nat × Value)) (hp : place i = some (o, v.cells.size)) (h : o + v.cells.size ≤ z.size) :
    Instr.fill place z ((i, v) :: rest) = Instr.fill place (spl z.toList o v.cells.toList).toArray rest := by
  rw [Instr.fill]
  simp only [hp]
  rw [if_neg (by simp; omega), ← foldl_spl o v.cells z h]
end
/-- write{k, x} as a value. -/
theorem build_write (u v : Value) (hu : u.cells.size = 1) (hv : v.cells.size = 32) (w : World) : (Instr.build 102 #[(0, u), (1, v)]).run Try.prog w = .ok (.agg (u.cells ++ v.cells)) w := by
  refine run_build w _ _ _ ?_
  have e : Try.prog.built 102 [(0, u), (1, v)] = Instr.fill ((#[(0, 1), (1, 32)] : Array (Nat × Nat))[·]?) (Value.int .i64 0 :: List.replicate 32 (Value.int .u8 0)).toArray [(0, u), (1, v)] := by kernel_rfl
  refine e.trans ?_
  generalize hU : u.cells = U at hu
  generalize hV : v.cells = V at hv
  obtain ⟨x, rfl⟩ : ∃ x, U = #[x] := ⟨U[0]'(by omega), by
    apply Array.ext
    · simpa using hu
    · intro i h1 h2
      obtain rfl : i = 0 := by simp at h2; omega
      rfl⟩
  rw [fill_step _ _ 0 0 _ _ (by rw [hU]; rfl) (by rw [hU]; simp), fill_step _ _ 1 1 _ _ (by rw [hV, hv]; rfl) (by rw [hU, hV]; simp [spl, hv]), Instr.fill, hU, hV]
  congr 1
  have e2 : spl (Value.int .i64 0 :: List.replicate 32 (Value.int .u8 0)) 0 [x] = [x] ++ List.replicate 32 (Value.int .u8 0) ++ [] := rfl
  have e3 := spl_mid (A := [x]) (X := List.replicate 32 (Value.int .u8 0)) (C := []) (vs := V.toList) (o := 1) rfl (by simp [hv])
  apply Array.ext'
  simp only [Array.toList_append]
  rw [e2, e3]
  simp
theorem built_slice (v : Value) (hv : v.cells.size = 33) (w : World) : (Instr.buildSlice 97 1 #[(0, v)]).run Try.prog w = .ok (.slice (some ⟨w.heap.size, 0, none⟩) 1 1) (w.alloc (.cells v.cells 102)) := by
  have hi : (Try.prog.info? 102).map (fun i => (i.zero, i.size)) = some (some (.agg (Value.int .i64 0 :: List.replicate 32 (Value.int .u8 0)).toArray), 33) := by kernel_rfl
  obtain ⟨i, hi, hzz⟩ := Option.map_eq_some_iff.1 hi
  simp only [Prod.mk.injEq] at hzz
  obtain ⟨hz, hs⟩ := hzz
  refine run_buildSlice w _ _ 1 _ _ i _ Try.underlying97 hi hz (by rw [hs]; decide) (by rw [hs]; decide) ?_
  rw [hs]
  rw [fill_step _ _ 0 0 _ _ (by simp [hv]) (by simp [hv]), Instr.fill]
  congr 1
  rw [spl_all (by simp [hv])]
theorem wp_build_write {dst : Option Tmp} {x y : Operand} {ty : TypeId} {pos : String} {after : Array Edge} {a : Act} {w : World} {K : Act → World → Prop} {Q : Exit → Act → World → Prop} (hx : (a.eval x).cells.size = 1) (hy : (a.eval y).cells.size = 32) :
    Oper.wp Try.prog ⟨dst, .build 102 #[(0, x), (1, y)], ty, pos, after, none⟩ a w K Q = K (a.put dst (.agg ((a.eval x).cells ++ (a.eval y).cells))) w := by
  unfold Oper.wp execOp
  simp only [List.map_toArray, List.map_cons, List.map_nil, Sem.run_bind, build_write _ _ hx hy, Result.andThen_ok]
  simp [Oper.upon_value]
theorem exec_build_write {dst : Option Tmp} {x y : Operand} {ty : TypeId} {pos : String} {after : Array Edge} {a : Act} {w : World} (hx : (a.eval x).cells.size = 1) (hy : (a.eval y).cells.size = 32) :
    Sem.run Try.prog (execOp a.eval ⟨dst, .build 102 #[(0, x), (1, y)], ty, pos, after, none⟩) w = .ok (.value (.agg ((a.eval x).cells ++ (a.eval y).cells))) w := by
  unfold execOp
  simp only [List.map_toArray, List.map_cons, List.map_nil, Sem.run_bind, build_write _ _ hx hy, Result.andThen_ok]
  simp
theorem wp_built_slice {dst : Option Tmp} {x : Operand} {ty : TypeId} {pos : String} {after : Array Edge} {a : Act} {w : World} {K : Act → World → Prop} {Q : Exit → Act → World → Prop} (hx : (a.eval x).cells.size = 33) :
    Oper.wp Try.prog ⟨dst, .buildSlice 97 1 #[(0, x)], ty, pos, after, none⟩ a w K Q = K (a.put dst (.slice (some ⟨w.heap.size, 0, none⟩) 1 1)) (w.alloc (.cells (a.eval x).cells 102)) := by
  unfold Oper.wp execOp
  simp only [List.map_toArray, List.map_cons, List.map_nil, Sem.run_bind, built_slice _ hx, Result.andThen_ok]
  simp [Oper.upon_value]
theorem arr_at (A : Option Addr) (n c : Nat) (hn : 32 ≤ n) (w : World) : (Instr.arrayAt 95 (.slice A n c)).run Try.prog w = .ok (.pointer A) w := by
  have h : ¬ n < 32 := by omega
  simp [Instr.arrayAt, run_underlying Try.underlying95, h]
end Go.Proofs.Ytadmofpipfdedaa
end
section
set_option linter.unusedVariables false
set_option linter.unusedSimpArgs false
namespace Go.Proofs.Ytadmofpipfdedaa
open Go.RowKit

end Go.Proofs.Ytadmofpipfdedaa
end
section
set_option linter.unusedVariables false
set_option linter.unusedSimpArgs false
namespace Go.Proofs.Ytadmofpipfdedaa
open Go.RowKit

end Go.Proofs.Ytadmofpipfdedaa
end
section
set_option linter.unusedVariables false
set_option linter.unusedSimpArgs false
namespace Go.Proofs.Ytadmofpipfdedaa

/-- Zeros. -/
theorem xorL_zz : xorL (zeroL 32) (zeroL 32) = zeroL 32 := by decide
theorem foldG_zero {g : Nat → List UInt8 → List UInt8} (h0 : ∀ k, g k (zeroL 32) = zeroL 32) : ∀ (n k : Nat), foldG g k (zeroL 32) (List.replicate n (zeroL 32)) = zeroL 32
  | 0, _ => rfl
  | n + 1, k => by rw [List.replicate_succ, foldG, h0, xorL_zz]; exact foldG_zero h0 n (k + 1)
theorem rep_mem {n : Nat} : ∀ x ∈ List.replicate n (zeroL 32), x.length = 32 := fun x hx => by rw [List.eq_of_mem_replicate hx]; rfl
theorem rep_get {n k : Nat} (h : k < n) : (List.replicate n (zeroL 32)).getD k [] = zeroL 32 := by simp [List.getD_eq_getElem?_getD, h]
theorem sumG_zero {g : Nat → List UInt8 → List UInt8} (h0 : ∀ k, g k (zeroL 32) = zeroL 32) {n : Nat} (hn : 0 < n) : sumG g (List.replicate n (zeroL 32)) = zeroL 32 := by
  have h := alikeB_of (rs := List.replicate n (zeroL 32)) (by simpa using hn) rep_mem
  unfold sumG
  rw [if_pos h.1, h.2]
  exact foldG_zero h0 n 0
theorem zeros_all {n k : Nat} (hn : 0 < n) (hk : k < n + 2) : (allL (List.replicate n (zeroL 32))).getD k [] = zeroL 32 := by
  have hl : (List.replicate n (zeroL 32)).length = n := by simp
  by_cases h1 : k < n
  · rw [allL_data (by rw [hl]; exact h1)]; exact rep_get h1
  · by_cases h2 : k = n
    · subst h2
      have := allL_p (List.replicate k (zeroL 32))
      rw [hl] at this
      rw [this]
      exact sumG_zero (gP_zero 32) hn
    · obtain rfl : k = n + 1 := by omega
      have := allL_q (List.replicate n (zeroL 32))
      rw [hl] at this
      rw [this]
      exact sumG_zero (gQ_zero 32) hn
theorem zeros_fill {D F W i : Nat} (hF : F < D) (hW : 0 < W) (hD : D ≤ W + 2) (hi : i < D) : (fillL D F (List.replicate W (zeroL 32))).getD i [] = zeroL 32 := by
  rw [fillL_get hF hi]
  have := roI_lt hF hi
  exact zeros_all hW (by omega)
end Go.Proofs.Ytadmofpipfdedaa
end
section
set_option linter.unusedVariables false
set_option linter.unusedSimpArgs false
namespace Go.Proofs.Ytadmofpipfdedaa
open Go.RowKit

end Go.Proofs.Ytadmofpipfdedaa
end
section
set_option maxRecDepth 20000
namespace Go.Proofs.Ytadmofpipfdedaa
open Go.RowKit

theorem zeroBoolM (w : World) : (zeroValue 4).run Try.prog w = .ok (.bool false) w := by kernel_rfl
theorem plainElem_bool_inv {v : Value} {b : Bool} {ps : List MemPlace} (h : plainElem (H := Unit) Try.prog 4 v = some (.lit (.bool b), ps)) : v = .bool b := by
  unfold plainElem at h
  rw [Try.underlying4] at h
  cases v <;> simp at h
  simp [h]
/-- Block B is a set that holds just these numbers. -/
def SetI (w : World) (B : Nat) (xs : List Int) : Prop :=
  ∃ D : DataW Unit, w.ownsMap Try.prog 3 (plainElem Try.prog 4) B xs.length D ∧ Maps.size D = xs.length ∧ ∀ x : Int, Maps.has D (.int .i64 x) = decide (x ∈ xs) ∧ D.atKey (.int .i64 x) (.lit (.bool false)) = .lit (.bool (decide (x ∈ xs)))
theorem setI_new (w : World) : SetI (w.alloc (.map #[] 0)) w.heap.size [] := ⟨.map [], World.ownsMap_made _ _ _ _, rfl, fun _ => ⟨rfl, rfl⟩⟩
section
variable {w w' : World} {B : Nat} {xs : List Int}
theorem SetI.lt (h : SetI w B xs) : B < w.heap.size := by obtain ⟨D, ho, _⟩ := h; exact ho.lt
theorem SetI.kept {row : Option Nat} (h : SetI w B xs) (hg : w.grownBy w' row) (hne : some B ≠ row) : SetI w' B xs := by obtain ⟨D, ho, hr⟩ := h; exact ⟨D, ho.kept hg hne, hr⟩
theorem SetI.below (h : SetI w B xs) (hb : Below w.heap.size w w') : SetI w' B xs := h.kept (grown_none hb) (by simp)
theorem SetI.look (h : SetI w B xs) (x : Int) (hx : -9223372036854775808 ≤ x ∧ x ≤ 9223372036854775807) : (Instr.lookup 65 (.map (some B)) (.int .i64 x) false).run Try.prog w = .ok (.bool (decide (x ∈ xs))) w := by
  obtain ⟨D, ho, _, hr⟩ := h
  have hw : (Lit.int .i64 x).wf = true := WalkArith.wf_i64 hx
  obtain ⟨v, ps, hrun, hv⟩ := ho.lookup keyI Try.underlying65 (zeroBoolM w) (plainElem_bool Try.underlying4 false) (keyI_of x hw)
  rw [(hr x).2] at hv
  rw [hrun, plainElem_bool_inv hv]
theorem SetI.store (h : SetI w B xs) (hn : xs.length < 1000000) (x : Int) (hx : -9223372036854775808 ≤ x ∧ x ≤ 9223372036854775807) (hnew : x ∉ xs) :
    ∃ w', (Instr.mapUpdate 65 (.map (some B)) (.int .i64 x) (.bool true)).run Try.prog w = .ok () w' ∧ SetI w' B (x :: xs) ∧ w.grownBy w' (some B) := by
  obtain ⟨D, ho, hs, hr⟩ := h
  obtain ⟨w', hrun, ho', hg⟩ := ho.update keyI Try.underlying65 (by unfold maxLen; omega) (keyI_of x (WalkArith.wf_i64 hx)) (plainElem_bool Try.underlying4 true)
  refine ⟨w', hrun, ⟨_, ho', ?_, fun z => ?_⟩, hg⟩
  · rw [Maps.size_put (ho.tidy keyI), (hr x).1, decide_eq_false hnew]; simp [hs]
  · by_cases e : z = x
    · subst e
      have hz : z ∈ z :: xs := List.mem_cons_self
      rw [decide_eq_true hz]
      exact ⟨Maps.has_put_same ho.isMap (keyLitI z) _, Maps.atKey_put_same ho.isMap (keyLitI z) _ _⟩
    · have hne : Lit.int .i64 z ≠ Lit.int .i64 x := fun h => e (lit_int_inj h)
      have hd : decide (z ∈ x :: xs) = decide (z ∈ xs) := by simp [e]
      rw [hd]
      exact ⟨(Maps.has_put_other hne _).trans (hr z).1, (Maps.atKey_put_other hne _ _).trans (hr z).2⟩
end
end Go.Proofs.Ytadmofpipfdedaa
end
