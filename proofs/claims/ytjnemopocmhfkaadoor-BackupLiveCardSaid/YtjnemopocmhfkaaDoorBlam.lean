/- Texts put together: DskAll, DskClone, EraseBits. -/
import Derived.Test.YtjnemopocmhfkaaDoorBlak
import Derived.Test.YtjnemopocmhfkaaDoorBlal
import Derived.Deep.WholeRow
import Derived.Test.YtjnemopocmhfkaaDoorBlaj
import Derived.Test.YtjnemopocmhfkaaDoorBlaf
section
namespace Go.Proofs.YtjnemopocmhfkaaDoor
open Go.RowKit

def Dsk.writeE (D : Dsk) (k : Int) (x : List UInt8) : Dsk := if takeE D.f k x.length = 0 then D.write k.toNat x else D
def Dsk.flushE (D : Dsk) : Dsk := if D.f = true then D else D.flush
def Dsk.readE (D : Dsk) (k : Int) : List UInt8 := if reachE D.f k = 0 then secAt D.now k.toNat else []
theorem takeE_zero {f : Bool} {k : Int} {n : Nat} (h : takeE f k n = 0) : f = false ∧ 0 ≤ k ∧ k < 52 ∧ n = 32 := by
  unfold takeE reachE at h
  cases f
  · by_cases h1 : k < 0 ∨ 52 ≤ k
    · simp [h1] at h
    · by_cases h2 : n = 32
      · exact ⟨rfl, by omega, by omega, h2⟩
      · simp [h1, h2] at h
  · simp at h
theorem reachE_zero {f : Bool} {k : Int} (h : reachE f k = 0) : f = false ∧ 0 ≤ k ∧ k < 52 := by
  unfold reachE at h
  cases f
  · by_cases h1 : k < 0 ∨ 52 ≤ k
    · simp [h1] at h
    · exact ⟨rfl, by omega, by omega⟩
  · simp at h
theorem takeE_ok {k : Int} (h0 : 0 ≤ k) (h1 : k < 52) : takeE false k 32 = 0 := by
  unfold takeE reachE; simp; omega
theorem reachE_ok {k : Int} (h0 : 0 ≤ k) (h1 : k < 52) : reachE false k = 0 := by
  unfold reachE; simp; omega
theorem reachE_fail (k : Int) : reachE true k = 5 := by unfold reachE; simp
theorem takeE_fail (k : Int) (n : Nat) : takeE true k n = 5 := by unfold takeE reachE; simp
namespace Dsk
end Dsk
section
variable (B b : Nat) (pv : Value) (D : Dsk) (w : World) (h : DskAt w B b pv D)
include h
theorem dsk_write_any (k : Int) (x : List UInt8) (A : Option Addr) (n c : Nat) (hn : n = x.length) (hk : -9223372036854775808 ≤ k ∧ k ≤ 9223372036854775807) (hr : RdB w w.heap.size A x) (hps : D.ps.length ≤ 2000000) :
    Calls Tryd.prog 54 #[.pointer (some ⟨b, 0, none⟩), .int .i64 k, .slice A n c] w fun e w' => ∃ pv', e = .returned (.int .i64 (takeE D.f k n)) ∧ DskAt w' B b pv' (D.writeE k x) ∧ Chg (DF b pv) w w' ∧ NewOr w pv pv' := by
  subst hn
  unfold Dsk.writeE
  by_cases he : takeE D.f k x.length = 0
  · obtain ⟨hf, h0, h1, hl⟩ := takeE_zero he
    have e := dsk_write_ok B b pv D k.toNat x A c w h hf (by omega) hl hr hps
    rw [Int.toNat_of_nonneg h0] at e
    rw [if_pos he, he, hl]
    exact e
  · rw [if_neg he]
    refine (dsk_write_no B b pv D w h k A x.length c hk (by have := hr.1; omega) he).mono ?_
    rintro e w' ⟨rfl, rfl⟩
    exact ⟨pv, rfl, h, Chg.refl _ _, NewOr.refl _ _⟩
theorem dsk_flush_any : Calls Tryd.prog 46 #[.pointer (some ⟨b, 0, none⟩)] w fun e w' => ∃ pv', e = .returned (.int .i64 (if D.f = true then 5 else 0)) ∧ DskAt w' B b pv' D.flushE ∧ Chg (DF b pv) w w' ∧ NewOr w pv pv' := by
  unfold Dsk.flushE
  by_cases hf : D.f = true
  · rw [if_pos hf, if_pos hf]
    refine (dsk_flush_no B b pv D w h hf).mono ?_
    rintro e w' ⟨rfl, rfl⟩
    exact ⟨pv, rfl, h, Chg.refl _ _, NewOr.refl _ _⟩
  · rw [if_neg hf, if_neg hf]
    refine (dsk_flush_ok B b pv D w h (by simpa using hf)).mono ?_
    rintro e w' ⟨rfl, h1, h2⟩
    exact ⟨_, rfl, h1, h2, NewOr.none _ _⟩
theorem dsk_read_any (k : Int) (hk : -9223372036854775808 ≤ k ∧ k ≤ 9223372036854775807) :
    Calls Tryd.prog 41 #[.pointer (some ⟨b, 0, none⟩), .int .i64 k] w fun e w' => ∃ v, e = .returned (.tuple #[v, .int .i64 (reachE D.f k)]) ∧ OwB 5 w' w.heap.size v (D.readE k) ∧ Below w.heap.size w w' := by
  unfold Dsk.readE
  by_cases he : reachE D.f k = 0
  · obtain ⟨hf, h0, h1⟩ := reachE_zero he
    have e := dsk_read_ok B b pv D w h k.toNat (by omega) hf
    rw [Int.toNat_of_nonneg h0] at e
    rw [if_pos he, he]
    exact e
  · rw [if_neg he]
    refine (dsk_read_no B b pv D w h k hk he).mono ?_
    rintro e w' ⟨rfl, rfl⟩
    exact ⟨_, rfl, OwB.nil _ _ _, Below.refl _ _⟩
end
theorem sec_zero {k : Nat} (hk : k < 52) : secAt zeroS k = List.replicate 32 0 := by
  unfold secAt zeroS
  rw [List.drop_replicate, List.take_replicate]
  congr 1
  omega
end Go.Proofs.YtjnemopocmhfkaaDoor
end
section
set_option maxRecDepth 8000
namespace Go.Proofs.YtjnemopocmhfkaaDoor
open Go.RowKit

theorem range_own {w : World} {B g n cap : Nat} {e : TypeId} {size : Nat} {xs : List Value} (h : w.ownsRow B e size (.slice (some ⟨g, 0, none⟩) n cap) n xs) : ∀ j u, xs[j]? = some u → w.cell? ((⟨g, 0, none⟩ : Addr).add j) = some u := fun j u hu => by
  have e1 : ((⟨g, 0, none⟩ : Addr).add j) = ⟨g, j, none⟩ := by unfold Addr.add; by_cases hk0 : j = 0 <;> simp [hk0]
  rw [e1, own_cell_at h j (List.getElem?_eq_some_iff.1 hu).1]
  exact hu
theorem wcells_len {ps : List (Nat × List UInt8)} (h : WOk ps) : (wcells ps).length = ps.length * 33 := by
  induction ps with
  | nil => rfl
  | cons p ps ih =>
    have e : wcells (p :: ps) = wcell p ++ wcells ps := by simp [wcells]
    rw [e, List.length_append, wcell_len (h p (List.mem_cons_self ..)).2, ih h.cons, List.length_cons]
    omega
theorem wcells_one {ps : List (Nat × List UInt8)} : ∀ u ∈ wcells ps, u.oneCell' = true := fun u hu => by
  obtain ⟨p, _, hp⟩ := List.mem_flatMap.1 hu
  rcases List.mem_cons.1 hp with rfl | h
  · rfl
  · exact map_bv_one u h
theorem size_pwc : (Tryd.prog.info? 92).map (fun i => (i.zero, i.size, i.bytes)) = some (some (.agg (Value.int .i64 0 :: List.replicate 32 (Value.int .u8 0)).toArray), 33, 40) := by kernel_rfl
set_option maxHeartbeats 400000 in
theorem clonew_any (pv : Value) (B : Nat) (ps : List (Nat × List UInt8)) (w : World) (h : w.ownsRow B 92 33 pv ps.length (wcells ps)) (hok : WOk ps) (hps : ps.length ≤ 2000000) :
    Calls Tryd.prog 57 #[pv] w fun e w' => ∃ v, e = .returned v ∧ w'.ownsRow w.heap.size 92 33 v ps.length (wcells ps) ∧ Below w.heap.size w w' := by
  rcases h.2 with ⟨rfl, h0⟩ | ⟨g, cap, cur, rfl, hB, hg, hc, _⟩
  · have hn : ps = [] := List.eq_nil_of_length_eq_zero h0
    subst hn
    have hq : ∀ W : World, (binOp .eql 76 (.slice none 0 0) (.slice none 0 0)).run Tryd.prog W = .ok (.bool true) W := fun _ => rfl
    go_enter Tryd.func57, Tryd.ntmps57
    go_wp2
    go_ret
    exact ⟨_, rfl, World.ownsRow_nil _ _ _ _, Below.refl _ _⟩
  · have hq : ∀ W : World, (binOp .eql 76 (.slice (some ⟨g, 0, none⟩) ps.length cap) (.slice none 0 0)).run Tryd.prog W = .ok (.bool false) W := fun _ => rfl
    obtain ⟨iw, hiw, hzz⟩ := Option.map_eq_some_iff.1 size_pwc
    simp only [Prod.mk.injEq] at hzz
    obtain ⟨hz, hs, hb⟩ := hzz
    have Hcells := Lib.hid (range_own h)
    have Hl := Lib.hid (wcells_len hok)
    have hglt : g < w.heap.size := (Array.getElem?_eq_some_iff.1 hg).1
    have Hc2 := Lib.hid (show ∀ o : Obj, ∀ j u, (wcells ps)[j]? = some u → (w.alloc o).cell? ((⟨g, 0, none⟩ : Addr).add j) = some u from fun o j u hu => by
      have h1 := Hcells.out j u hu
      rw [World.cell?_alloc_lt _ _ _ (by unfold Addr.add; split <;> simpa using hglt)]
      exact h1)
    have Hz := Lib.hid hz
    have Hs := Lib.hid hs
    have Hb := Lib.hid hb
    have Hiw := Lib.hid hiw
    have Ho := Lib.hid (show (w.alloc (.cells #[] 92)).ownsRow w.heap.size 92 33 (.slice (some ⟨w.heap.size, 0, none⟩) 0 0) 0 [] from ⟨rfl, .inr ⟨w.heap.size, 0, #[], rfl, Nat.le_refl _, heap_alloc_new _ _, Nat.le_refl _, by unfold maxLen; omega, rfl, rfl⟩⟩)
    clear h hg hz hs hb hiw
    go_enter Tryd.func57, Tryd.ntmps57
    go_wp2_with (at_builtin; refine wpList_append_own_at _ rfl _ _ _ rfl w.heap.size 92 iw _ 33 40 Tryd.underlying76 Hiw.out Hz.out Hs.out Hb.out rfl (by omega) (.slice (some ⟨w.heap.size, 0, none⟩) 0 0) 0 [] rfl Ho.out ⟨g, 0, none⟩ ps.length cap (wcells ps) rfl Hl.out (Hc2.out _) wcells_one (by unfold maxLen; omega) (by omega) (by simp) ?_; intro v' w' hown hgr hnil hat)
    have hbw := (below1 w (.cells #[] 92)).grown hgr (by simp) (by simp [Value.ownBlock])
    rw [List.nil_append, Nat.zero_add] at hown
    go_ret
    exact ⟨v', rfl, hown, hbw⟩
theorem wp_alloc_dsk {C : List Value} (hz : ∀ w, (zeroValue 78).run Tryd.prog w = .ok (.agg C.toArray) w) {ops : Array Oper} {rest : List Oper} {op : Oper} {a : Act} {w : World} {Q : Exit → Act → World → Prop} (hgd : op.guard = none) (ho : op.op = .alloc 78)
    (h : wpList Tryd.prog ops Q rest (a.put op.dst (.pointer (some ⟨w.heap.size, 0, none⟩))) (w.alloc (.cells C.toArray 78))) : wpList Tryd.prog ops Q (op :: rest) a w :=
  wpList_plain hgd fun K hK => by
    unfold Oper.wp execOp
    simp only [ho, Instr.alloc, Sem.run_bind, hz, Result.andThen_ok]
    simp [newVar, newRow, Value.cells, Oper.upon_value]
    exact hK _ _ h
set_option maxHeartbeats 800000 in
theorem dsk_clone_any (B b : Nat) (pv : Value) (D : Dsk) (w : World) (h : DskAt w B b pv D) (hps : D.ps.length ≤ 2000000) :
    Calls Tryd.prog 53 #[.pointer (some ⟨b, 0, none⟩)] w fun e w' => ∃ b' pv', e = .returned (.pointer (some ⟨b', 0, none⟩)) ∧ DskAt w' w.heap.size b' pv' D ∧ Below w.heap.size w w' := by
  have Hh := Lib.hid h
  have HS := Lib.hid h.ok.S
  have HN := Lib.hid h.ok.now
  have hblt := h.lt
  have Hrange := Lib.hid (show w.rangeAt b 0 (dcells D.S D.now pv D.f) from fun j v hj => by rw [Nat.zero_add, cell_of_row _ _ _ _ _ _ h.blk]; simpa using hj)
  have Hl := Lib.hid (dcells_len HS.out HN.out pv D.f)
  have hpv1 : pv.oneCell' = true := by rcases h.own.2 with ⟨rfl, _⟩ | ⟨g, cap, cur, rfl, _⟩ <;> rfl
  have H1 := Lib.hid (show ∀ u ∈ dcells D.S D.now pv D.f, u.oneCell' = true from fun u hu => by
    unfold dcells at hu
    rcases List.mem_append.1 hu with h | h
    · rcases List.mem_append.1 h with h | h <;> exact map_bv_one u h
    · rcases List.mem_cons.1 h with rfl | h
      · exact hpv1
      · rw [List.mem_singleton.1 h]; rfl)
  have Hz := Lib.hid (zero_of_info info_dsk).1
  have HlC := Lib.hid (dcells_len (List.length_replicate (n := 1664) (a := (0 : UInt8))) (List.length_replicate (n := 1664) (a := (0 : UInt8))) (.slice none 0 0) false)
  generalize dcells (List.replicate 1664 0) (List.replicate 1664 0) (.slice none 0 0) false = C at Hz HlC
  clear h hpv1
  go_enter Tryd.func53, Tryd.ntmps53
  go_wp2_with (first
    | (refine wpList_load_mid rfl 78 _ (by rfl) b 0 (by rfl) (dcells D.S D.now pv D.f) _ Hrange.out Tryd.underlying78 rfl (by rw [Hl.out]; exact size_dsk) ?_)
    | (refine wp_alloc_dsk Hz.out rfl (by rfl) ?_)
    | (refine wpList_store_blk rfl 78 _ _ (by rfl) w.heap.size 0 (.agg (dcells D.S D.now pv D.f).toArray) (by rfl) (by rfl) C 78 (heap_alloc_new _ _) (dcells D.S D.now pv D.f) (by rfl) 3330 Hl.out size_dsk (by rw [HlC.out]; omega) H1.out (dcells D.S D.now pv D.f) (spl_all (by rw [Hl.out, HlC.out])) ?_
       intro w1 h1 hg1
       have hB1 : Below w.heap.size w w1 := (below1 w _).grown hg1 (by simp) (fun j hj => by injection hj with hj; omega)
       have HD := Lib.hid (Hh.out.below hB1)
       have hcp := cell_dpv HD.out.blk HS.out HN.out
       have H1b := Lib.hid h1
       have HB1 := Lib.hid hB1
       have CC := Lib.hid (clonew_any pv B D.ps w1 HD.out.own HD.out.ok.ps hps)
       clear h1 hg1 hB1))
  refine CC.out.mono ?_
  rintro e w2 ⟨v2, rfl, hown2, hb2⟩
  have hlt1 : w.heap.size < w1.heap.size := (Array.getElem?_eq_some_iff.1 H1b.out).1
  have Hb := Lib.hid ((hb2.block w.heap.size hlt1).trans H1b.out)
  have hv1 : v2.oneCell' = true := by rcases hown2.2 with ⟨rfl, _⟩ | ⟨g, cap, cur, rfl, _⟩ <;> rfl
  have hvc : v2.cells = #[v2] := by rcases hown2.2 with ⟨rfl, _⟩ | ⟨g, cap, cur, rfl, _⟩ <;> rfl
  have Hown2 := Lib.hid hown2
  have HB2 := Lib.hid hb2
  have Hv1 := Lib.hid hv1
  have Hvc := Lib.hid hvc
  clear hown2 hb2 hv1 hvc hcp
  go_wp2_with (refine wpList_store_blk rfl 76 _ _ (by rfl) w.heap.size 3328 v2 (by rfl) (by rfl) (dcells D.S D.now pv D.f) 78 Hb.out [v2] Hvc.out 1 (by rfl) size_pend (by rw [Hl.out]; omega) (by intro u hu; simp at hu; subst hu; exact Hv1.out) (dcells D.S D.now v2 D.f) (spl_pv HS.out HN.out) ?_; intro w3 h3 hg3)
  go_ret
  have hne : ∀ k, v2.ownBlock = some k → k ≠ w.heap.size := fun k hk e => by have := (Hown2.out.lt k hk).1; omega
  refine ⟨w.heap.size, v2, rfl, ⟨h3, ?_, Nat.le_refl _, fun e => hne _ e rfl, Hh.out.ok⟩, (HB1.out.trans (HB2.out.mono (by omega))).grown hg3 (by have := HB2.out.size; omega) (fun j hj => by injection hj with hj; omega)⟩
  have h5 := own_chg Hown2.out (chg_grown hg3) fun k hk e => hne k hk (by injection e with e; exact e.symm)
  refine ⟨h5.1, ?_⟩
  rcases h5.2 with h6 | ⟨g, cap, cur, h6, h7, r⟩
  · exact .inl h6
  · exact .inr ⟨g, cap, cur, h6, by omega, r⟩
end Go.Proofs.YtjnemopocmhfkaaDoor
end
section
namespace Go.Proofs.YtjnemopocmhfkaaDoor
open Go.RowKit

/-- An own row of rows: its value, what it holds, all from base on. -/
def OwR (w : World) (base g n cap : Nat) (rs : List (List UInt8)) : Prop :=
  rs.length = n ∧ n ≤ cap ∧ base ≤ g ∧ ∃ xs, w.ownsRow base 48 1 (.slice (some ⟨g, 0, none⟩) n cap) n xs ∧ RowsY w base (some g) xs rs
section
variable {w w' : World} {base g n cap : Nat} {rs : List (List UInt8)}
theorem OwR.rdf (h : OwR w base g n cap rs) (hl : n ≤ 140737488355328) : RdF base w (some ⟨g, 0, none⟩) rs := by
  obtain ⟨h0, _, _, xs, h1, h2⟩ := h
  subst h0
  obtain ⟨A, c, hv, _, hr⟩ := rdf_own h1 hl h2
  injection hv with h3 _ _
  rw [h3]
  exact hr
theorem OwR.rdr (h : OwR w base g n cap rs) (hl : n ≤ 140737488355328) : RdR w w.heap.size (some ⟨g, 0, none⟩) rs := (h.rdf hl).rdr
end
end Go.Proofs.YtjnemopocmhfkaaDoor
end
