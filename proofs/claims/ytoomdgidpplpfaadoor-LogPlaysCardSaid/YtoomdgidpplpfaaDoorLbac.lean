/- Texts put together: DskAll, Within0, Keep, MakeS, PlaySec, DskLeft, Off. -/
import Derived.Test.YtoomdgidpplpfaaDoorLbab
import Derived.Test.YtoomdgidpplpfaaDoorProg
import Derived.Test.YtoomdgidpplpfaaDoorLbaa
section
namespace Go.Proofs.YtoomdgidpplpfaaDoor
open Go.RowKit

def Dsk.writeE (D : Dsk) (k : Int) (x : List UInt8) : Dsk := if takeE D.f k x.length = 0 then D.write k.toNat x else D
def Dsk.damageE (D : Dsk) (k : Int) (x : List UInt8) : Dsk := if takeE D.f k x.length = 0 then D.damage k.toNat x else D
def Dsk.flushE (D : Dsk) : Dsk := if D.f = true then D else D.flush
def Dsk.readE (D : Dsk) (k : Int) : List UInt8 := if reachE D.f k = 0 then secAt D.now k.toNat else []
theorem takeE_zero {f : Bool} {k : Int} {n : Nat} (h : takeE f k n = 0) : f = false ∧ 0 ≤ k ∧ k < 52 ∧ n = 32 := by
  unfold takeE reachE at h
  cases f
  · by_cases h1 : k < 0 ∨ 52 ≤ k
    · simp [h1] at h
    · by_cases h2 : n = 32
      · exact ⟨rfl, by omega, by omega, h2⟩
      · simp [h1, h2] at h
  · simp at h
theorem reachE_zero {f : Bool} {k : Int} (h : reachE f k = 0) : f = false ∧ 0 ≤ k ∧ k < 52 := by
  unfold reachE at h
  cases f
  · by_cases h1 : k < 0 ∨ 52 ≤ k
    · simp [h1] at h
    · exact ⟨rfl, by omega, by omega⟩
  · simp at h
theorem takeE_ok {k : Int} (h0 : 0 ≤ k) (h1 : k < 52) : takeE false k 32 = 0 := by
  unfold takeE reachE; simp; omega
theorem reachE_ok {k : Int} (h0 : 0 ≤ k) (h1 : k < 52) : reachE false k = 0 := by
  unfold reachE; simp; omega
theorem reachE_fail (k : Int) : reachE true k = 5 := by unfold reachE; simp
theorem takeE_fail (k : Int) (n : Nat) : takeE true k n = 5 := by unfold takeE reachE; simp
theorem reachE_range {k : Int} (h : k < 0 ∨ 52 ≤ k) : reachE false k = 4 := by unfold reachE; simp [h]
theorem takeE_range {k : Int} (n : Nat) (h : k < 0 ∨ 52 ≤ k) : takeE false k n = 4 := by unfold takeE reachE; simp [h]
theorem takeE_arg {k : Int} {n : Nat} (h0 : 0 ≤ k) (h1 : k < 52) (hn : n ≠ 32) : takeE false k n = 1 := by
  unfold takeE
  rw [reachE_ok h0 h1]; simp [hn]
namespace Dsk
theorem writeE_f (D : Dsk) (k : Int) (x : List UInt8) : (D.writeE k x).f = D.f := by unfold writeE; split <;> rfl
theorem damageE_f (D : Dsk) (k : Int) (x : List UInt8) : (D.damageE k x).f = D.f := by unfold damageE; split <;> rfl
theorem flushE_f (D : Dsk) : D.flushE.f = D.f := by unfold flushE; split <;> rfl
theorem writeE_len (D : Dsk) (k : Int) (x : List UInt8) : (D.writeE k x).ps.length ≤ D.ps.length + 1 := by unfold writeE; split <;> simp [Dsk.write]
theorem damageE_len (D : Dsk) (k : Int) (x : List UInt8) : (D.damageE k x).ps.length ≤ D.ps.length := by
  unfold damageE; split
  · exact List.length_filter_le _ _
  · exact Nat.le_refl _
theorem flushE_len (D : Dsk) : D.flushE.ps.length ≤ D.ps.length := by unfold flushE; split <;> simp [Dsk.flush]
end Dsk
section
variable (B b : Nat) (pv : Value) (D : Dsk) (w : World) (h : DskAt w B b pv D)
include h
theorem dsk_write_any (k : Int) (x : List UInt8) (A : Option Addr) (n c : Nat) (hn : n = x.length) (hk : -9223372036854775808 ≤ k ∧ k ≤ 9223372036854775807) (hr : RdB w w.heap.size A x) (hps : D.ps.length ≤ 2000000) :
    Calls Tryd.prog 66 #[.pointer (some ⟨b, 0, none⟩), .int .i64 k, .slice A n c] w fun e w' => ∃ pv', e = .returned (.int .i64 (takeE D.f k n)) ∧ DskAt w' B b pv' (D.writeE k x) ∧ Chg (DF b pv) w w' ∧ NewOr w pv pv' := by
  subst hn
  unfold Dsk.writeE
  by_cases he : takeE D.f k x.length = 0
  · obtain ⟨hf, h0, h1, hl⟩ := takeE_zero he
    have e := dsk_write_ok B b pv D k.toNat x A c w h hf (by omega) hl hr hps
    rw [Int.toNat_of_nonneg h0] at e
    rw [if_pos he, he, hl]
    exact e
  · rw [if_neg he]
    refine (dsk_write_no B b pv D w h k A x.length c hk (by have := hr.1; omega) he).mono ?_
    rintro e w' ⟨rfl, rfl⟩
    exact ⟨pv, rfl, h, Chg.refl _ _, NewOr.refl _ _⟩
theorem dsk_flush_any : Calls Tryd.prog 68 #[.pointer (some ⟨b, 0, none⟩)] w fun e w' => ∃ pv', e = .returned (.int .i64 (if D.f = true then 5 else 0)) ∧ DskAt w' B b pv' D.flushE ∧ Chg (DF b pv) w w' ∧ NewOr w pv pv' := by
  unfold Dsk.flushE
  by_cases hf : D.f = true
  · rw [if_pos hf, if_pos hf]
    refine (dsk_flush_no B b pv D w h hf).mono ?_
    rintro e w' ⟨rfl, rfl⟩
    exact ⟨pv, rfl, h, Chg.refl _ _, NewOr.refl _ _⟩
  · rw [if_neg hf, if_neg hf]
    refine (dsk_flush_ok B b pv D w h (by simpa using hf)).mono ?_
    rintro e w' ⟨rfl, h1, h2⟩
    exact ⟨_, rfl, h1, h2, NewOr.none _ _⟩
theorem dsk_read_any (k : Int) (hk : -9223372036854775808 ≤ k ∧ k ≤ 9223372036854775807) :
    Calls Tryd.prog 42 #[.pointer (some ⟨b, 0, none⟩), .int .i64 k] w fun e w' => ∃ v, e = .returned (.tuple #[v, .int .i64 (reachE D.f k)]) ∧ OwB 5 w' w.heap.size v (D.readE k) ∧ Below w.heap.size w w' := by
  unfold Dsk.readE
  by_cases he : reachE D.f k = 0
  · obtain ⟨hf, h0, h1⟩ := reachE_zero he
    have e := dsk_read_ok B b pv D w h k.toNat (by omega) hf
    rw [Int.toNat_of_nonneg h0] at e
    rw [if_pos he, he]
    exact e
  · rw [if_neg he]
    refine (dsk_read_no B b pv D w h k hk he).mono ?_
    rintro e w' ⟨rfl, rfl⟩
    exact ⟨_, rfl, OwB.nil _ _ _, Below.refl _ _⟩
end
theorem sec_zero {k : Nat} (hk : k < 52) : secAt zeroS k = List.replicate 32 0 := by
  unfold secAt zeroS
  rw [List.drop_replicate, List.take_replicate]
  congr 1
  omega
theorem new_now : Dsk.new.now = zeroS := rfl
end Go.Proofs.YtoomdgidpplpfaaDoor
end
section
namespace Go.Proofs.YtoomdgidpplpfaaDoor
open Go.RowKit

def withinI (v n : Int) : Int := if n < 1 then 0 else v % n
theorem withinI_bd (v n : Int) (hn : 1 ≤ n) : 0 ≤ withinI v n ∧ withinI v n < n := by
  unfold withinI
  rw [if_neg (by omega)]
  exact ⟨Int.emod_nonneg _ (by omega), Int.emod_lt_of_pos _ (by omega)⟩
theorem tmod_within (v n : Int) (hn : 1 ≤ n) : withinI v n = if v.tmod n < 0 then v.tmod n + n else v.tmod n := by
  have h0 := Int.emod_nonneg v (show n ≠ 0 by omega)
  have h1 := Int.emod_lt_of_pos v (show 0 < n by omega)
  unfold withinI
  rw [if_neg (by omega), Int.tmod_eq_emod]
  split <;> split <;> omega
theorem within_any (v n : Int) (w : World) (hv : -9223372036854775808 ≤ v ∧ v ≤ 9223372036854775807) (hn : 1 ≤ n ∧ n ≤ 140737488355329) :
    Calls Tryd.prog 9 #[.int .i64 v, .int .i64 n] w fun e w' => e = .returned (.int .i64 (withinI v n)) ∧ w' = w := by
  obtain ⟨h1, h2⟩ := hn
  obtain ⟨h3, h4⟩ := hv
  have Ht := Lib.hid (tmod_within v n h1)
  have hlo : -n < v.tmod n := Int.lt_tmod_of_pos _ (by omega)
  have hhi : v.tmod n < n := Int.tmod_lt_of_pos _ (by omega)
  by_cases hneg : v.tmod n < 0
  · go_enter Tryd.func9, Tryd.ntmps9
    go_wp2
    go_ret
    exact ⟨by rw [Ht.out, if_pos hneg]; rfl, rfl⟩
  · go_enter Tryd.func9, Tryd.ntmps9
    go_wp2
    go_ret
    exact ⟨by rw [Ht.out, if_neg (by omega)]; rfl, rfl⟩
theorem within_all (v n : Int) (w : World) (hv : -9223372036854775808 ≤ v ∧ v ≤ 9223372036854775807) (hn : -9223372036854775808 ≤ n ∧ n ≤ 9223372036854775807) :
    Calls Tryd.prog 9 #[.int .i64 v, .int .i64 n] w fun e w' => e = .returned (.int .i64 (withinI v n)) ∧ w' = w := by
  obtain ⟨h3, h4⟩ := hv
  obtain ⟨h5, h2⟩ := hn
  by_cases h1 : 1 ≤ n
  · have Ht := Lib.hid (tmod_within v n h1)
    have hlo : -n < v.tmod n := Int.lt_tmod_of_pos _ (by omega)
    have hhi : v.tmod n < n := Int.tmod_lt_of_pos _ (by omega)
    by_cases hneg : v.tmod n < 0
    · go_enter Tryd.func9, Tryd.ntmps9
      go_wp2
      go_ret
      exact ⟨by rw [Ht.out, if_pos hneg]; rfl, rfl⟩
    · go_enter Tryd.func9, Tryd.ntmps9
      go_wp2
      go_ret
      exact ⟨by rw [Ht.out, if_neg (by omega)]; rfl, rfl⟩
  · have h1' : n < 1 := by omega
    have Ht := Lib.hid (show withinI v n = 0 by unfold withinI; rw [if_pos h1'])
    clear h1
    go_enter Tryd.func9, Tryd.ntmps9
    go_wp2
    go_ret
    exact ⟨by rw [Ht.out]; rfl, rfl⟩
end Go.Proofs.YtoomdgidpplpfaaDoor
end
section
namespace Go.Proofs.YtoomdgidpplpfaaDoor
open Go.RowKit

theorem size_u8 : (Tryd.prog.info? 5).map (·.size) = some 1 := by kernel_rfl
theorem xor_u8 (a b : UInt8) : bits .xor .u8 (a.toNat : Int) (b.toNat : Int) = (((a ^^^ b).toNat : Nat) : Int) := by
  rw [u8_xor_nat _ _ a.toNat_lt b.toNat_lt, UInt8.toNat_xor]
theorem take_snoc_eq {bs bs' : List UInt8} {j : Nat} (h : bs.take j = bs'.take j) (hj : j < bs.length) (hj' : j < bs'.length) (he : bs.getD j 0 = bs'.getD j 0) : bs.take (j + 1) = bs'.take (j + 1) := by
  rw [List.take_succ_eq_append_getElem hj, List.take_succ_eq_append_getElem hj', h]
  have e : bs[j] = bs'[j] := by simpa [hj, hj'] using he
  rw [e]
theorem getD_of_eq {bs bs' : List UInt8} (h : bs = bs') (j : Nat) : bs.getD j 0 = bs'.getD j 0 := by rw [h]
theorem u8_bne {a b : UInt8} (h : a ≠ b) : ((a.toNat : Int) != (b.toNat : Int)) = true := by
  rw [bne_iff_ne]; intro h'; exact h (UInt8.toNat_inj.1 (by omega))
theorem u8_beq_no {a b : UInt8} (h : a ≠ b) : ((a.toNat : Int) == (b.toNat : Int)) = false := by
  rw [beq_eq_false_iff_ne]; intro h'; exact h (UInt8.toNat_inj.1 (by omega))
def SamePost (bs bs' : List UInt8) (w : World) (e : Ending) (w' : World) : Prop := e = .returned (.bool (decide (bs = bs'))) ∧ ∃ m, w' = w.drewN m
set_option maxHeartbeats 400000 in
theorem same_any (A A' : Option Addr) (n n' c c' B : Nat) (bs bs' : List UInt8) (w : World) (hn : n = bs.length) (hn' : n' = bs'.length) (hr : RdB w B A bs) (hr' : RdB w B A' bs') :
    Calls Tryd.prog 22 #[.slice A n c, .slice A' n' c'] w (SamePost bs bs' w) := by
  subst hn hn'
  have hl := hr.1
  have hl' := hr'.1
  by_cases hlen : bs.length = bs'.length
  · have hle := Lib.hid hlen
    have hne : ((bs.length : Int) != (bs'.length : Int)) = false := by rw [hlen]; simp
    clear hlen
    go_enter Tryd.func22, Tryd.ntmps22
    go_wp2
    go_loopw [5] (fun i wr => ∃ j m : Nat, j ≤ bs.length ∧ i = .int .i64 j ∧ bs.take j = bs'.take j ∧ wr = w.drewN m) (fun i _ => bs.length - (intOf i).toNat)
    case atStart => exact ⟨0, 0, Nat.zero_le _, rfl, rfl, rfl⟩
    case round =>
      obtain ⟨j, m, hj, rfl, htk, rfl⟩ := hrel
      have Htk := Lib.hid htk
      clear htk
      by_cases hlt : j < bs.length
      · have hlt' : j < bs'.length := by have := hle.out; omega
        obtain ⟨b, off, rfl, hb, hc⟩ := hr.2 (by omega)
        obtain ⟨b', off', rfl, hb', hc'⟩ := hr'.2 (by omega)
        have h1 := hc j hlt
        have h2 := hc' j hlt'
        have i0 : (0 : Int) ≤ (j : Int) := by omega
        have i1 : (j : Int) < (bs.length : Int) := by omega
        have i2 : (j : Int) < (bs'.length : Int) := by omega
        clear hc hc'
        by_cases he : bs.getD j 0 = bs'.getD j 0
        · have Hsn := Lib.hid (take_snoc_eq Htk.out hlt hlt' he)
          rw [← he] at h2
          clear he
          generalize bs.getD j 0 = x at h1 h2
          go_wp2
          go_quiet (fail)
          go_wp2
          go_roundw
          case rel => exact ⟨j + 1, _, by omega, by go_num, Hsn.out, rfl⟩
          case measure => simp [intOf]; omega
        · have hd : decide (bs = bs') = false := by simpa using fun h => he (getD_of_eq h j)
          have Hd := Lib.hid hd
          have hb := u8_bne he
          clear hd he
          generalize bs.getD j 0 = x at h1 hb
          generalize bs'.getD j 0 = y at h2 hb
          go_wp2
          go_quiet (fail)
          go_wp2
          go_ret
          exact ⟨by rw [Hd.out]; rfl, m + nq, World.drewN_drewN _ _ _⟩
      · obtain rfl : j = bs.length := by omega
        have Hd : Hid (decide (bs = bs') = true) := by
          have h1 := Htk.out
          rw [List.take_length, hle.out, List.take_length] at h1
          exact decide_eq_true h1
        go_wp2
        go_ret
        exact ⟨by rw [Hd.out]; rfl, m, rfl⟩
  · go_enter Tryd.func22, Tryd.ntmps22
    have hne : ((bs.length : Int) != (bs'.length : Int)) = true := by rw [bne_iff_ne]; omega
    go_wp2
    go_ret
    exact ⟨by rw [decide_eq_false (fun h => hlen (by rw [h]))]; rfl, 0, rfl⟩
end Go.Proofs.YtoomdgidpplpfaaDoor
end
section
namespace Go.Proofs.YtoomdgidpplpfaaDoor
open Go.RowKit

theorem makeS (w : World) : (Instr.makeSlice 41 (.int .i64 32) (.int .i64 32)).run Tryd.prog w = .ok (.slice (some ⟨w.heap.size, 0, none⟩) 32 32) (w.alloc (.cells (zcells 32) 5)) := make_bytes 32 (by omega) w
theorem same_eq (A A' : Option Addr) (n c c' B : Nat) (bs : List UInt8) (w : World) (hn : n = bs.length) (hr : RdB w B A bs) (hr' : RdB w B A' bs) :
    Calls Tryd.prog 22 #[.slice A n c, .slice A' n c'] w fun e w' => e = .returned (.bool true) ∧ Below w.heap.size w w' := by
  refine (same_any A A' n n c c' B bs bs w hn hn hr hr').mono ?_
  rintro e w' ⟨rfl, m, rfl⟩
  exact ⟨by rw [decide_eq_true rfl], belowN _ _ _⟩
end Go.Proofs.YtoomdgidpplpfaaDoor
end
section
namespace Go.Proofs.YtoomdgidpplpfaaDoor
open Go.RowKit

def secI (n : Int) (k : Nat) : Int := wrap64 (n + wrap64 ((k : Int) * bits .or .i64 (n.tdiv 7) 1)) % 256
def secU (n : Int) (k : Nat) : UInt8 := UInt8.ofNat (secI n k).toNat
theorem secU_val (n : Int) (k : Nat) : ((secU n k).toNat : Int) = secI n k := by
  have h0 : 0 ≤ secI n k := Int.emod_nonneg _ (by omega)
  have h1 : secI n k < 256 := Int.emod_lt_of_pos _ (by omega)
  unfold secU
  rw [UInt8.toNat_ofNat']
  generalize secI n k = x at h0 h1
  have : x.toNat < 256 := by omega
  rw [Nat.mod_eq_of_lt (by simpa using this)]
  omega
def sectorB (n : Int) : List UInt8 := if withinI n 11 = 10 then List.replicate 32 0 else (List.range 32).map (secU n)
theorem sectorB_len (n : Int) : (sectorB n).length = 32 := by
  unfold sectorB; split
  · rw [List.length_replicate]
  · rw [List.length_map, List.length_range]
def secTo (n : Int) (k : Nat) : List UInt8 := (List.range k).map (secU n) ++ List.replicate (32 - k) 0
theorem secTo_zero (n : Int) : secTo n 0 = List.replicate 32 0 := rfl
theorem secTo_all (n : Int) : secTo n 32 = (List.range 32).map (secU n) := by unfold secTo; simp
theorem secTo_len (n : Int) {k : Nat} (h : k ≤ 32) : (secTo n k).length = 32 := by unfold secTo; simp; omega
theorem secTo_succ (n : Int) {k : Nat} (h : k < 32) : (secTo n k).set k (secU n k) = secTo n (k + 1) := by
  have hl : ((List.range k).map (secU n)).length = k := by simp
  unfold secTo
  rw [List.set_append_right _ _ (by omega), hl, Nat.sub_self, show 32 - k = (32 - (k + 1)) + 1 from by omega, List.replicate_succ, List.set_cons_zero, List.range_succ, List.map_append, List.append_assoc]
  rfl
set_option maxHeartbeats 400000 in
theorem sector_any (n : Int) (w : World) (hn : -9223372036854775808 ≤ n ∧ n ≤ 9223372036854775807) :
    Calls Tryd.prog 18 #[.int .i64 n] w fun e w' => ∃ g, e = .returned (.slice (some ⟨g, 0, none⟩) 32 32) ∧ OwB 5 w' w.heap.size (.slice (some ⟨g, 0, none⟩) 32 32) (sectorB n) ∧ Below w.heap.size w w' := by
  have hmk : ∀ w, (Instr.makeSlice 41 (.int .i64 32) (.int .i64 32)).run Tryd.prog w = .ok (.slice (some ⟨w.heap.size, 0, none⟩) 32 32) (w.alloc (.cells (zcells 32) 5)) := make_bytes 32 (by omega)
  have CW := Lib.hid (fun W => within_any n 11 W hn (by omega))
  have HE : Hid (sectorB n = if withinI n 11 = 10 then List.replicate 32 0 else (List.range 32).map (secU n)) := rfl
  have ho := own_make 5 w 32 (by omega)
  have hb0 := below1 w (.cells (zcells 32) 5)
  generalize withinI n 11 = q at CW HE
  by_cases hq : q = 10
  · subst hq
    rw [if_pos rfl] at HE
    go_enter Tryd.func18, Tryd.ntmps18
    go_wp2_with fail
    generalize w.alloc (.cells (zcells 32) 5) = w0 at ho hb0 ⊢
    refine (CW.out _).mono ?_
    rintro e w' ⟨rfl, rfl⟩
    go_wp2
    go_ret
    exact ⟨w.heap.size, rfl, by rw [HE.out]; exact ho, hb0⟩
  · have hqb : (q == 10) = false := by rw [beq_eq_false_iff_ne]; exact hq
    rw [if_neg hq, ← secTo_all] at HE
    rw [← secTo_zero n] at ho
    go_enter Tryd.func18, Tryd.ntmps18
    go_wp2_with fail
    generalize w.alloc (.cells (zcells 32) 5) = w0 at ho hb0 ⊢
    refine (CW.out _).mono ?_
    rintro e w' ⟨rfl, rfl⟩
    clear hmk
    go_wp2
    go_loopw [12] (fun i wr => ∃ k : Nat, k ≤ 32 ∧ i = .int .i64 k ∧ OwB 5 wr w.heap.size (.slice (some ⟨w.heap.size, 0, none⟩) 32 32) (secTo n k) ∧ Below w.heap.size w wr) (fun i _ => 32 - (intOf i).toNat)
    case atStart => exact ⟨0, by omega, rfl, ho, hb0⟩
    case round =>
      obtain ⟨k, hk, rfl, hown, hbr⟩ := hrel
      by_cases hlt : k < 32
      · have i0 : (0 : Int) ≤ (k : Int) := by omega
        have i1 : (k : Int) < 32 := by omega
        obtain ⟨hc, hf⟩ := hown.cell (secTo_len n hk) k hlt
        have hset := (hown.set (secTo_len n hk) k (secU n k)).1
        rw [secU_val, secTo_succ n hlt] at hset
        have Hset := Lib.hid hset
        have Hbs := Lib.hid (hbr.setCell (p := ⟨w.heap.size, k, none⟩) (Nat.le_refl _) (.int .u8 (secI n k)))
        clear hset hown
        go_wp2
        go_roundw
        case rel => exact ⟨k + 1, by omega, by go_num, Hset.out, Hbs.out⟩
        case measure => simp [intOf]; omega
      · obtain rfl : k = 32 := by omega
        go_wp2
        go_ret
        exact ⟨w.heap.size, rfl, by rw [HE.out]; exact hown, hbr⟩
end Go.Proofs.YtoomdgidpplpfaaDoor
end
section
namespace Go.Proofs.YtoomdgidpplpfaaDoor
open Go.RowKit

theorem wrap_bd (x : Int) : -9223372036854775808 ≤ wrap64 x ∧ wrap64 x ≤ 9223372036854775807 := by
  have := IntKind.wrap_i64 x
  unfold wrap64
  omega
theorem keptOf_snoc : ∀ (ps : List (Nat × List UInt8)) (p : Nat × List UInt8) (ks : List Bool), keptOf (ps ++ [p]) ks = keptOf ps ks ++ (if ks.getD ps.length false = true then [p] else [])
  | [], p, [] => by simp [keptOf]
  | [], p, k :: ks => by cases k <;> simp [keptOf]
  | q :: ps, p, [] => by simp [keptOf]
  | q :: ps, p, k :: ks => by
    have ih := keptOf_snoc ps p ks
    show (if k then q :: keptOf (ps ++ [p]) ks else keptOf (ps ++ [p]) ks) = (if k then q :: keptOf ps ks else keptOf ps ks) ++ _
    rw [ih]
    cases k <;> simp
/-- Sector k behind a crash that keeps ks. -/
def Dsk.left (D : Dsk) (ks : List Bool) (k : Nat) : List UInt8 := secAt (D.crash ks).S k
theorem left_write {D : Dsk} (h : D.Ok) {k : Nat} {x : List UInt8} (hk : k < 52) (hx : x.length = 32) (ks : List Bool) : (D.write k x).left ks k = if ks.getD D.ps.length false = true then x else D.left ks k := by
  unfold Dsk.left Dsk.crash Dsk.write
  simp only []
  rw [keptOf_snoc]
  split
  · rw [nowOf_append]
    show secAt (putAt (nowOf D.S (keptOf D.ps ks)) k x) k = x
    exact sec_put_same (nowOf_len h.S h.ps.kept) hk hx
  · rw [List.append_nil]
theorem left_first (k : Nat) (x : List UInt8) (hk : k < 52) (hx : x.length = 32) (ks : List Bool) : ((Dsk.new.write k x).flush).left ks k = x := by
  show secAt (putAt zeroS k x) k = x
  exact sec_put_same zeroS_len hk hx
end Go.Proofs.YtoomdgidpplpfaaDoor
end
section
namespace Go.Proofs.YtoomdgidpplpfaaDoor
open Go.RowKit

theorem write_sec {D : Dsk} (h : D.Ok) {k : Nat} {x : List UInt8} (hk : k < 52) (hx : x.length = 32) : secAt (D.write k x).now k = x := by
  rw [Dsk.write_now]; exact sec_put_same h.now hk hx
theorem wrE {D : Dsk} {k : Nat} {x : List UInt8} (hf : D.f = false) (hk : k < 52) (hx : x.length = 32) : takeE D.f (k : Int) 32 = 0 ∧ D.writeE (k : Int) x = D.write k x := by
  have h := takeE_ok (k := (k : Int)) (by omega) (by omega)
  rw [← hf] at h
  refine ⟨h, ?_⟩
  unfold Dsk.writeE
  rw [hx, if_pos h]
  rfl
theorem rdE {D : Dsk} {k : Nat} (hf : D.f = false) (hk : k < 52) : reachE D.f (k : Int) = 0 ∧ D.readE (k : Int) = secAt D.now k := by
  have h := reachE_ok (k := (k : Int)) (by omega) (by omega)
  rw [← hf] at h
  refine ⟨h, ?_⟩
  unfold Dsk.readE
  rw [if_pos h]
  rfl
theorem flE {D : Dsk} (hf : D.f = false) : (if D.f = true then (5 : Int) else 0) = 0 ∧ D.flushE = D.flush := by
  unfold Dsk.flushE
  rw [hf]
  exact ⟨rfl, rfl⟩
def Off (v : Value) (b : Nat) (pv : Value) : Prop := ∀ k, v.ownBlock = some k → ¬ DF b pv k
theorem off_new {w w' : World} {B B0 b : Nat} {pv v : Value} {D : Dsk} {e : TypeId} {xs : List UInt8} (hd : DskAt w B b pv D) (ho : OwB e w' B0 v xs) (hB : w.heap.size ≤ B0) : Off v b pv := fun k hk hF => by
  have h1 := (ho.lt k hk).1
  have h2 := hd.lt
  rcases hF with e | e
  · omega
  · have := (hd.plt k e).2; omega
theorem Off.step {w : World} {B0 b : Nat} {pv pv' v : Value} {e : TypeId} {xs : List UInt8} (h : Off v b pv) (ho : OwB e w B0 v xs) (hn : NewOr w pv pv') : Off v b pv' := fun k hk hF => by
  rcases hF with e | e
  · exact h k hk (.inl e)
  · rcases hn k e with e1 | e1
    · exact h k hk (.inr e1)
    · have := (ho.lt k hk).2; omega
theorem OwB.off {w w' : World} {B0 b : Nat} {pv v : Value} {e : TypeId} {xs : List UInt8} (ho : OwB e w B0 v xs) (h : Off v b pv) (hc : Chg (DF b pv) w w') : OwB e w' B0 v xs := ho.chg hc h
theorem DskAt.stay {w w' : World} {B b g : Nat} {pv v : Value} {D : Dsk} (hd : DskAt w B b pv D) (h : Off v b pv) (hg : v.ownBlock = some g) (hc : w.grownBy w' (some g)) : DskAt w' B b pv D :=
  hd.chg (chg_grown hc) (fun e => h g hg (.inl (Option.some.inj e))) fun k hk e => h g hg (.inr (by rw [hk, e]))
/-- Two disks beside one another. -/
def Apart (b : Nat) (pv : Value) (b2 : Nat) (pv2 : Value) : Prop := ∀ k, DF b pv k → ¬ DF b2 pv2 k
theorem Apart.symm {b b2 : Nat} {pv pv2 : Value} (h : Apart b pv b2 pv2) : Apart b2 pv2 b pv := fun k h2 h1 => h k h1 h2
theorem apart_new {w w' : World} {B b b2 : Nat} {pv pv2 : Value} {D D2 : Dsk} (hd : DskAt w B b pv D) (hd2 : DskAt w' w.heap.size b2 pv2 D2) : Apart b pv b2 pv2 := fun k h1 h2 => by
  have := DF.le hd2 h2
  rcases h1 with e | e
  · have := hd.lt; omega
  · have := (hd.plt k e).2; omega
theorem Apart.step {w : World} {B b b2 : Nat} {pv pv2 pv2' : Value} {D : Dsk} (h : Apart b pv b2 pv2) (hd : DskAt w B b pv D) (hn : NewOr w pv2 pv2') : Apart b pv b2 pv2' := fun k h1 h2 => by
  rcases h2 with e | e
  · exact h k h1 (.inl e)
  · rcases hn k e with e1 | e1
    · exact h k h1 (.inr e1)
    · rcases h1 with e2 | e2
      · have := hd.lt; omega
      · have := (hd.plt k e2).2; omega
theorem DskAt.apart {w w' : World} {B b b2 : Nat} {pv pv2 : Value} {D : Dsk} (hd : DskAt w B b pv D) (h : Apart b pv b2 pv2) (hc : Chg (DF b2 pv2) w w') : DskAt w' B b pv D :=
  hd.chg hc (fun e => h b (.inl rfl) e) fun k hk e => h k (.inr hk) e
end Go.Proofs.YtoomdgidpplpfaaDoor
end
