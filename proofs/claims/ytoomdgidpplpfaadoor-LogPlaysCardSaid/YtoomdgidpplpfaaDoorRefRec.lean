/- The document's Items of Items, and its CheckRecord. -/
import Derived.Test.YtoomdgidpplpfaaDoorLbai
import Derived.Test.YtoomdgidpplpfaaDoorLbak
set_option maxRecDepth 8000
set_option linter.unusedVariables false
set_option linter.unusedSimpArgs false
namespace Go.Proofs.YtoomdgidpplpfaaDoor
open Go.RowKit

/-- Items that are read, with their rooms. -/
def RdIc (w : World) (B : Nat) (A : Option Addr) (l : List It) : Prop :=
  l.length ≤ 140737488355328 ∧ (0 < l.length → ∃ b, A = some ⟨b, 0, none⟩ ∧ b < B ∧ ∀ k, k < l.length → ∃ D c, w.rangeAt b (k * 3) [.int .i64 (itN l k).d, .int .i64 (itN l k).a, .slice D (itN l k).b.length c] ∧ RdB w B D (itN l k).b ∧ (itN l k).b.length ≤ c)
theorem RdIc.rdi {w : World} {B : Nat} {A : Option Addr} {l : List It} (h : RdIc w B A l) : RdI w B A l := ⟨h.1, fun hn => by
  obtain ⟨b, e, hb, hc⟩ := h.2 hn
  refine ⟨b, e, hb, fun k hk => ?_⟩
  obtain ⟨D, c, h1, h2, _⟩ := hc k hk
  exact ⟨D, c, h1, h2⟩⟩
theorem RdIc.keep {w w' : World} {B B' : Nat} {A : Option Addr} {l : List It} (h : RdIc w B A l) (hB : B ≤ B') (hk : ∀ p : Addr, p.block < B → w'.cell? p = w.cell? p) : RdIc w' B' A l :=
  ⟨h.1, fun hn => by
    obtain ⟨b, e, hb, hc⟩ := h.2 hn
    refine ⟨b, e, by omega, fun k hk' => ?_⟩
    obtain ⟨D, c, h1, h2, h3⟩ := hc k hk'
    exact ⟨D, c, rangeAt_keep h1 fun j => hk ⟨b, j, none⟩ hb, h2.keep hB hk, h3⟩⟩
theorem RdIc.below {w w' : World} {B B' : Nat} {A : Option Addr} {l : List It} (h : RdIc w B A l) (hb : Below B' w w') (hB : B ≤ B') : RdIc w' B A l := h.keep (Nat.le_refl _) fun p hp => hb.cell (by omega)
theorem RdIc.more {w : World} {B B' : Nat} {A : Option Addr} {l : List It} (h : RdIc w B A l) (hB : B ≤ B') : RdIc w B' A l := h.keep hB fun _ _ => rfl
theorem RdIc.later {w w' : World} {A : Option Addr} {l : List It} (h : RdIc w w.heap.size A l) (hb : Below w.heap.size w w') : RdIc w' w'.heap.size A l := (h.below hb (Nat.le_refl _)).more hb.size
theorem OwIt.rdc {e : TypeId} {w : World} {B lo n c : Nat} {A : Option Addr} {l : List It} (h : OwIt e w B lo (.slice A n c) l) : n = l.length ∧ l.length ≤ c ∧ RdIc w w.heap.size A l := by
  obtain ⟨A', c', e, h1', h2'⟩ := h.rd
  injection e with e1 e2 e3
  subst e1 e2 e3
  refine ⟨rfl, h1', h2'.1, fun hn => ?_⟩
  obtain ⟨xs, h1, h2, h3⟩ := h
  obtain ⟨A', c', e, hc, hg⟩ := rx_form h1
  injection e with e1 e2 e3
  subst e1 e3
  obtain ⟨g, rfl, hB⟩ := hg hn
  refine ⟨g, rfl, (h1.lt g rfl).2, fun k hk => ?_⟩
  obtain ⟨D, c', hx, hcap, hr, _⟩ := h2.2 k (by simpa using hk)
  rw [itB_get hk] at hx hr hcap
  have hxl : xs.length = l.length := by have := h2.1; simpa using this
  refine ⟨D, c', fun j u hj => ?_, hr, hcap⟩
  have hj3 : j < 3 := (List.getElem?_eq_some_iff.1 hj).1
  rw [rx_cell_at h1 _ (by rw [itcs_len _ _ hxl]; omega), itcs_get l xs k _ hxl hx j hj3]
  exact hj
theorem infoRI : (Tryd.prog.info? 60).map (fun i => (i.zero, i.size, i.bytes)) = some (some (.agg #[.int .i64 0, .int .i64 0, .slice none 0 0]), 3, 40) := by kernel_rfl
/-- What stays while a row of Items grows that shares its Data. -/
theorem OwIt.step {e : TypeId} {w W : World} {B lo : Nat} {v : Value} {l : List It} (h : OwIt e w B lo v l) (hb : Below w.heap.size w W) : OwIt e W B lo v l := h.below hb
set_option maxHeartbeats 4000000 in
theorem refRecs_any (A : Option Addr) (n c : Nat) (l : List It) (w : World) (hn : l.length = n) (hl : n ≤ 1000) (h : RdIc w w.heap.size A l) :
    Calls Tryd.prog 24 #[.slice A n c] w fun e w' => ∃ v, e = .returned v ∧ OwIt 60 w' w.heap.size 0 v l ∧ Below w.heap.size w w' := by
  subst hn
  have H := Lib.hid h
  clear h
  go_enter Tryd.func24, Tryd.ntmps24
  go_wp2
  go_loopw [3, 8] (fun v i wr => ∃ j : Nat, j ≤ l.length ∧ i = .int .i64 j ∧ OwIt 60 wr w.heap.size 0 v (l.take j) ∧ Below w.heap.size w wr) (fun _ i _ => l.length - (intOf i).toNat)
  case atStart => exact ⟨0, Nat.zero_le _, rfl, OwIt.nil _ _ _ _, Below.refl _ _⟩
  case round =>
    obtain ⟨j, hj, rfl, ho, hbr⟩ := hrel
    by_cases hlt : j < l.length
    · obtain ⟨g, rfl, hg, hc⟩ := H.out.2 (by omega)
      obtain ⟨D, cd, hrp, hrd, hcap⟩ := hc j hlt
      have Hts := Lib.hid (its_take hlt)
      generalize itN l j = y at hrp hrd hcap Hts
      have Hrp := Lib.hid (rangeAt_keep (w' := wr) hrp fun k => hbr.cell hg)
      have BX := below1 wr (.cells #[.int .i64 y.d, .int .i64 y.a, .slice D y.b.length cd] 43)
      have c' := fun i => cell_of_row _ _ i _ _ _ (heap_alloc_new wr (.cells #[.int .i64 y.d, .int .i64 y.a, .slice D y.b.length cd] 43))
      have BB := hbr.alloc hbr.size (.cells #[.int .i64 y.d, .int .i64 y.a, .slice D y.b.length cd] 43)
      have hbz := hbr.size
      generalize hW1 : wr.alloc (.cells #[.int .i64 y.d, .int .i64 y.a, .slice D y.b.length cd] 43) = W1 at BX c' BB
      have B2 := below1 W1 (.cells #[.int .i64 y.d, .int .i64 y.a, .slice D y.b.length cd] 60)
      have ho2 := Lib.hid ((ho.below BX).below B2)
      have hrd2 : RdB (W1.alloc (.cells #[.int .i64 y.d, .int .i64 y.a, .slice D y.b.length cd] 60)) (W1.alloc (.cells #[.int .i64 y.d, .int .i64 y.a, .slice D y.b.length cd] 60)).heap.size D y.b := ((hrd.below BB (Nat.le_refl _)).more BB.size |>.below B2 (Nat.le_refl _)).more B2.size
      have HS := Lib.hid (fun (ob : Option Nat) (hob : ob = u3.ownBlock) => src_one (lo := 0) (ob := ob) (x := y) (c := cd) (heap_alloc_new W1 (.cells #[.int .i64 y.d, .int .i64 y.a, .slice D y.b.length cd] 60)) hrd2 hcap (fun h0 a ha => by
        refine ⟨fun e => ?_, Nat.zero_le _⟩
        rw [hob] at e
        obtain ⟨b', off', e2, hb', _⟩ := hrd.2 h0
        rw [ha] at e2
        injection e2 with e2
        subst e2
        have := (ho.lt b' e.symm).1
        omega))
      have BB2 := Lib.hid (BB.alloc BB.size (.cells #[.int .i64 y.d, .int .i64 y.a, .slice D y.b.length cd] 60))
      have hzz := Lib.hid (BB2.out.size)
      have hjl : (l.take j).length = j := by simp; omega
      have k0 : (0 : Int) ≤ (j : Int) := by omega
      have k1 : (j : Int) < (l.length : Int) := by omega
      obtain ⟨b0, b1, b2⟩ := And.intro (c' 0) (And.intro (c' 1) (c' 2))
      have Hlt := Lib.hid (ho.lt)
      clear hrp hrd hcap hc ho BX BB B2 hrd2 c'
      go_wp2_with (first
        | ((with_reducible refine (id ?_ : wpList _ _ _ (⟨some 11, _, _, _, _, _⟩ :: _) _ _)); refine wpList_load_mid rfl 43 _ (by rfl) g (j * 3) (by rfl) [.int .i64 y.d, .int .i64 y.a, .slice D y.b.length cd] _ Hrp.out Tryd.underlying43 rfl (by kernel_rfl) ?_)
        | ((with_reducible refine (id ?_ : wpList _ _ _ (⟨some 15, _, _, _, _, _⟩ :: _) _ _)); refine wpList_append_I _ (by rfl) _ _ _ (by rfl) w.heap.size 0 60 Tryd.underlying54 infoRI u3 _ (by rfl) ho2.out (some ⟨W1.heap.size, 0, none⟩) 1 1 _ (by rfl) (by rfl) (HS.out _ rfl) (by rw [hjl]; show j + 1 ≤ _; omega) hzz.out ?_
           intro v4 w4 O4 g4 _))
      go_roundw
      case rel =>
        refine ⟨j + 1, by omega, by go_num, ?_, ?_⟩
        · rw [Hts.out]; exact O4
        · exact BB2.out.grown g4 BB2.out.size (fun k e => (Hlt.out k e).1)
      case measure => simp [intOf]; omega
    · obtain rfl : j = l.length := by omega
      rw [List.take_length] at ho
      have Ho := Lib.hid ho
      clear ho
      go_wp2
      go_ret
      exact ⟨_, rfl, Ho.out, hbr⟩
end Go.Proofs.YtoomdgidpplpfaaDoor
