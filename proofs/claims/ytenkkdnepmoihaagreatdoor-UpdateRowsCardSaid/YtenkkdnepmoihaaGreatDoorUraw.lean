/- Texts put together: LogPut, LogOn, LogGet, LogKeep, LogKr, UpdSpec, UpdPlanS. -/
import Derived.Test.YtenkkdnepmoihaaGreatDoorUrau
import Derived.Test.YtenkkdnepmoihaaGreatDoorUrav
import Derived.Test.YtenkkdnepmoihaaGreatDoorUrat
import Derived.Test.YtenkkdnepmoihaaGreatDoorUrao
import Derived.Test.YtenkkdnepmoihaaGreatDoorUram
section
set_option maxRecDepth 8000
set_option linter.unusedVariables false
set_option linter.unusedSimpArgs false
namespace Go.Proofs.YtenkkdnepmoihaaGreatDoor
open Go.RowKit

theorem put_64 (n : Nat) (lv : List Bool) (rs : List (List UInt8)) (d : Nat) (hd : d ≤ 100) (hr : rs.length ≤ 100) : Its64 (putTo n lv rs d) := fun k hk => by
  obtain ⟨j, i, hj, hi, _, e⟩ := mem_put.1 (itN_mem hk)
  rw [e]
  exact ⟨by show _ ≤ (j : Int) ∧ (j : Int) ≤ _; omega, by show _ ≤ ((2 + i : Nat) : Int) ∧ ((2 + i : Nat) : Int) ≤ _; omega⟩
set_option maxHeartbeats 4000000 in
theorem put_any (W w : World) (b : Nat) (H : BH) (N : Bch) (h : BP W w b H N) (ht : TabOk W) (lv : List Bool) (LA : Option Addr) (ln lc : Nat) (hln : ln = lv.length) (hlv : RdO w w.heap.size LA lv)
    (s : Int) (l : List It) (A : Option Addr) (n c : Nat) (hn : n = l.length) (hnc : n ≤ c) (hrd : RdI w w.heap.size A l) (h64 : Its64 l) (hs : (-9223372036854775808 ≤ s ∧ s ≤ 9223372036854775807))
    (hps : ∀ i, i < N.n → (N.D i).ps.length ≤ 1000000) (hdn : N.done ≤ 1000000) :
    Calls Tryz.prog 30 #[.pointer (some ⟨b, 0, none⟩), .slice LA ln lc, .agg #[.int .i64 s, .slice A n c]] w fun e w' => e = .returned (.int .i64 (putS N lv s l).1) ∧ BC W w w' b H N.n (putS N lv s l).2 := by
  subst hn hln
  have htw : TabOk w := ht.below h.bel ht.pos
  have Hh := Lib.hid h
  have B1 := below1 w (.cells #[.int .i64 s, .slice A l.length c] 43)
  have ht1 := htw.below B1 htw.pos
  have Hb1 := Lib.hid B1
  have hn8 := h.at'.ok.n
  cases hk : recOk s l with
  | false =>
    have CK := Lib.hid (encode_no A l.length c s l _ rfl hnc hs (hrd.later B1) h64 (Lib.hid hk))
    have HE := Lib.hid (show putS N lv s l = (1, N) by unfold putS; rw [hk]; rfl)
    clear hk h64 hps hdn hrd hlv h B1 ht htw ht1
    go_enter Tryz.func30, Tryz.ntmps30
    go_wp2_with fail
    refine CK.out.mono ?_
    rintro e w1 ⟨rfl, hb⟩
    have B2 := Lib.hid (Hb1.out.trans (hb.mono Hb1.out.size))
    clear hb
    go_wp2
    go_ret
    exact ⟨by rw [HE.out]; rfl, by rw [HE.out]; exact BC.below B2.out (Hh.out.grow B2.out).self⟩
  | true =>
    have CK := Lib.hid (encode_yes A l.length c s l _ rfl hnc hs (hrd.later B1) h64 (Lib.hid hk) ht1)
    have HE := Lib.hid (show putS N lv s l = settleS N (putTo N.n lv (recB s l) N.n) by unfold putS; rw [hk]; rfl)
    have h4 := recB_len (s := s) ((recOk_iff s l).1 hk).1.2.2
    generalize recB s l = rs at CK HE h4
    have H4 := Lib.hid h4
    have Hlv := Lib.hid hlv
    have Hoff := Lib.hid (show ∀ k, w.heap.size ≤ k → ¬ BF b H N.n k from fun k hk e => by have := (h.at'.flt e).2; omega)
    have CS := Lib.hid (fun V (hV : Below w.heap.size w V) (m : List It) (A2 : Option Addr) (c2 : Nat) (hm : RdIF V (BF b H N.n) A2 m) (h6 : Its64 m) => settle_any W V b H N (h.grow hV) m A2 m.length c2 rfl hm h6 hps hdn)
    have CN := Lib.hid (fun V (hV : Below w.heap.size w V) => bch_len_any _ b H N V (h.grow hV).at')
    have CL := Lib.hid (fun V (hV : Below w.heap.size w V) (d : Nat) (hd : d < N.n) => isLive_any _ b H N V (h.grow hV).at' lv LA lv.length lc rfl (hlv.keep hV.size fun p hp => hV.cell hp) (d : Int) (by omega) (by omega))
    clear hk h64 hps hdn hrd hlv h B1 ht htw ht1 h4
    unfold ptr at CN CL
    go_enter Tryz.func30, Tryz.ntmps30
    go_wp2_with fail
    refine CK.out.mono ?_
    rintro e w2 ⟨g, bk, rfl, hp, hb⟩
    have B2 := Lib.hid (Hb1.out.trans (hb.mono Hb1.out.size))
    have HP := Lib.hid (fun V (hV : Below w2.heap.size w2 V) => hp.below hV)
    have HPb := Lib.hid (fun k hk => hp.blt k hk)
    have hz1 : w.heap.size < (w.alloc (.cells #[.int .i64 s, .slice A l.length c] 43)).heap.size := by simp
    have Hz1 := Lib.hid hz1
    clear hb CK hp hz1
    go_wp2_with (go_at_call 45; refine (CN.out _ B2.out).mono ?_; rintro e w3 ⟨rfl, h3⟩; obtain rfl : w2 = w3 := h3.symm)
    go_loopw [9, 23] (fun v i wr => ∃ d : Nat, d ≤ N.n ∧ i = .int .i64 d ∧ OwIP 92 wr w2.heap.size (fun k => ¬ BF b H N.n k) v (putTo N.n lv rs d) ∧ Below w2.heap.size w2 wr) (fun _ i _ => N.n - (intOf i).toNat)
    case atStart => exact ⟨0, Nat.zero_le _, rfl, OwIP.nil _ _ _ _, Below.refl _ _⟩
    case round =>
      obtain ⟨d, hd, rfl, ho, hbr⟩ := hrel
      have Ho := Lib.hid ho
      have Hbr := Lib.hid hbr
      have Hbw := Lib.hid (B2.out.trans (hbr.mono B2.out.size))
      clear ho hbr
      by_cases hlt : d < N.n
      · have k0 : (0 : Int) ≤ (d : Int) := by omega
        have k1 : (d : Int) < (N.n : Int) := by omega
        have CLd := Lib.hid (CL.out wr Hbw.out d hlt)
        cases hx : liveD N.n lv (d : Int) with
        | false =>
          rw [hx] at CLd
          have Hn := Lib.hid (putTo_no (rs := rs) hx)
          clear hx
          go_wp2_with (go_at_call 46; refine CLd.out.mono ?_; rintro e w5 ⟨rfl, rfl⟩)
          go_roundw
          case rel => exact ⟨d + 1, by omega, by go_num, by rw [Hn.out]; exact Ho.out, Hbr.out⟩
          case measure => simp [intOf]; omega
        | true =>
          rw [hx] at CLd
          have Hy := Lib.hid (putTo_yes (rs := rs) hx)
          have Hpl := Lib.hid (putTo_len N.n lv rs d)
          have hpl8 : (putTo N.n lv rs d).length ≤ 100 := by
            have h1 := Hpl.out
            have h2 : d * rs.length ≤ 8 * rs.length := Nat.mul_le_mul_right _ (by omega)
            rw [H4.out] at h1 h2
            omega
          clear hx Hpl
          go_wp2_with (go_at_call 46; refine CLd.out.mono ?_; rintro e w5 ⟨rfl, rfl⟩)
          go_loopw [9, 33] (fun v i wi => ∃ k : Nat, k ≤ 4 ∧ i = .int .i64 k ∧ OwIP 92 wi w2.heap.size (fun k => ¬ BF b H N.n k) v (putTo N.n lv rs d ++ secIts d rs k) ∧ Below w2.heap.size w2 wi) (fun _ i _ => 4 - (intOf i).toNat)
          case atStart => exact ⟨0, Nat.zero_le _, rfl, by rw [show secIts d rs 0 = [] from rfl, List.append_nil]; exact Ho.out, Hbr.out⟩
          case round =>
            rename World => wi
            obtain ⟨k, hk4, rfl, ho, hbi⟩ := hrel
            by_cases hlk : k < 4
            · have i0 : (0 : Int) ≤ (k : Int) := by omega
              have i1 : (k : Int) < 4 := by omega
              have q2 : IntKind.i64.wrap (2 + (k : Int)) = ((2 + k : Nat) : Int) := by rw [IntKind.wrap_i64]; omega
              have hP := HP.out wi hbi
              have hkr : k < rs.length := by rw [H4.out]; exact hlk
              have hcl := hP.cell k hkr
              have hl32 := hP.len k hkr
              have hbb := HPb.out k hkr
              have hrd := hP.rd k hkr
              have B2' := below1 wi (.cells #[.int .i64 (d : Int), .int .i64 ((2 + k : Nat) : Int), .slice (some ⟨bk k, 0, none⟩) 32 32] 92)
              have ho2 := Lib.hid (ho.below B2')
              have hb2' : bk k < w2.heap.size := hbb.2
              have HSr := Lib.hid (fun (ob : Option Nat) (hob : ob = u9.ownBlock) => src_oneP (w := wi.alloc (.cells #[.int .i64 (d : Int), .int .i64 ((2 + k : Nat) : Int), .slice (some ⟨bk k, 0, none⟩) 32 32] 92)) (P := fun k => ¬ BF b H N.n k) (g := wi.heap.size) (ob := ob) (x := secIt d rs k) (D := some ⟨bk k, 0, none⟩) (c := 32) (by
                show _ = some (Obj.cells (List.toArray [.int .i64 (d : Int), .int .i64 ((2 + k : Nat) : Int), .slice (some ⟨bk k, 0, none⟩) (rs.getD k []).length 32]) _ _)
                rw [hl32]; exact heap_alloc_new wi _) ((hrd.below B2' (Nat.le_refl _)).more B2'.size) (by show (rs.getD k []).length ≤ 32; rw [hl32]; exact Nat.le_refl _) (fun h0 a ha => by
                injection ha with ha
                subst ha
                refine ⟨fun e => ?_, Hoff.out _ (by show w.heap.size ≤ bk k; have := Hz1.out; omega)⟩
                rw [hob] at e
                have h3 : w2.heap.size ≤ bk k := (ho.lt (bk k) e.symm).1
                omega))
              have BB2 := Lib.hid (hbi.alloc hbi.size (.cells #[.int .i64 (d : Int), .int .i64 ((2 + k : Nat) : Int), .slice (some ⟨bk k, 0, none⟩) 32 32] 92))
              have hzz := Lib.hid BB2.out.size
              have Hss := Lib.hid (show putTo N.n lv rs d ++ secIts d rs (k + 1) = putTo N.n lv rs d ++ secIts d rs k ++ [secIt d rs k] by rw [secIts_succ, List.append_assoc])
              have Hsl := Lib.hid (show (putTo N.n lv rs d ++ secIts d rs k).length + 1 ≤ 1000000 by rw [List.length_append, secIts_len]; omega)
              have Hlt := Lib.hid ho.lt
              clear ho hP hl32 hbb hrd B2' hbi hkr hb2'
              go_wp2_with (
                (with_reducible refine (id ?_ : wpList _ _ _ (⟨some 45, _, _, _, _, _⟩ :: _) _ _)); refine wpList_append_P _ _ (by rfl) _ _ _ (by rfl) w2.heap.size 92 Tryz.underlying41 infoI u9 _ (by rfl) ho2.out (some ⟨wi.heap.size, 0, none⟩) 1 1 _ (by rfl) (by rfl) (HSr.out _ rfl) Hsl.out hzz.out ?_
                intro v4 w4 O4 g4 _)
              go_roundw
              case rel =>
                refine ⟨k + 1, by omega, by go_num, ?_, ?_⟩
                · rw [Hss.out]; exact O4
                · exact BB2.out.grown g4 BB2.out.size (fun k e => (Hlt.out k e).1)
              case measure => simp [intOf]; omega
            · obtain rfl : k = 4 := by omega
              have Ho2 := Lib.hid (show OwIP 92 wi w2.heap.size (fun k => ¬ BF b H N.n k) u9 (putTo N.n lv rs (d + 1)) by rw [Hy.out, H4.out]; exact ho)
              have Hbi := Lib.hid hbi
              clear ho hbi
              go_wp2
              go_roundw
              case rel => exact ⟨d + 1, by omega, by go_num, Ho2.out, Hbi.out⟩
              case measure => simp [intOf]; omega
      · obtain rfl : d = N.n := by omega
        obtain ⟨A2, c2, rfl, _, hm⟩ := Ho.out.rd (F := BF b H N.n) (fun k hk => Hoff.out k (by have := B2.out.size; omega)) (fun _ h => h)
        have CS := Lib.hid (CS.out wr Hbw.out _ A2 c2 hm (put_64 _ _ _ _ (by omega) (by rw [H4.out]; omega)))
        clear hm Ho
        go_wp2_with fail
        refine CS.out.mono ?_
        rintro e w5 ⟨rfl, ht⟩
        have Ht := Lib.hid (BC.below Hbw.out ht)
        clear ht
        go_wp2
        go_ret
        exact ⟨by rw [HE.out]; rfl, by rw [HE.out]; exact Ht.out⟩
end Go.Proofs.YtenkkdnepmoihaaGreatDoor
end
section
set_option maxRecDepth 8000
set_option linter.unusedVariables false
set_option linter.unusedSimpArgs false
namespace Go.Proofs.YtenkkdnepmoihaaGreatDoor
open Go.RowKit

section
variable {w V V' : World} {g j : Nat} {rs : List (List UInt8)}
end
end Go.Proofs.YtenkkdnepmoihaaGreatDoor
end
section
set_option maxRecDepth 8000
set_option linter.unusedVariables false
set_option linter.unusedSimpArgs false
namespace Go.Proofs.YtenkkdnepmoihaaGreatDoor
open Go.RowKit

section
variable {w V V' : World} {s : Int} {A : Option Addr} {c : Nat} {l : List It}
end
end Go.Proofs.YtenkkdnepmoihaaGreatDoor
end
section
set_option maxRecDepth 8000
set_option linter.unusedVariables false
set_option linter.unusedSimpArgs false
namespace Go.Proofs.YtenkkdnepmoihaaGreatDoor
open Go.RowKit

section
variable {W w : World} {b : Nat} {H : BH} {N : Bch} {K : List (Nat × Obj)} (h : KX W w b H N K)
include h
end
end Go.Proofs.YtenkkdnepmoihaaGreatDoor
end
section
set_option maxRecDepth 8000
set_option linter.unusedVariables false
set_option linter.unusedSimpArgs false
namespace Go.Proofs.YtenkkdnepmoihaaGreatDoor
open Go.RowKit

/-- A bench, blocks and Items that no call on it touches; the Items lie not where X says. -/
structure KR (W w : World) (b : Nat) (H : BH) (N : Bch) (K : List (Nat × Obj)) (R : List (Option Addr × List It)) (X : Nat → Prop) : Prop where
  kx : KX W w b H N K
  it : ∀ p ∈ R, RdIF w (fun k => BF b H N.n k ∨ X k) p.1 p.2
section
variable {W w w' : World} {b : Nat} {H : BH} {N : Bch} {K : List (Nat × Obj)} {R : List (Option Addr × List It)} {X : Nat → Prop}
section
variable (h : KR W w b H N K R X)
include h
end
end
end Go.Proofs.YtenkkdnepmoihaaGreatDoor
end
section
set_option maxRecDepth 20000
set_option linter.unusedVariables false
set_option linter.unusedSimpArgs false
namespace Go.Proofs.YtenkkdnepmoihaaGreatDoor
open Go.RowKit

/-- The contract of Plan; of Do and Empty. -/
structure UpdP : Prop where
  plan : ∀ (W w : World) (b : Nat) (H : BH) (N : Bch), BP W w b H N → ∀ (lv : List Bool) (LA : Option Addr) (ln lc : Nat), ln = lv.length → RdOX (BF b H N.n) w LA lv →
    ∀ l d c n : Int, i64B l → i64B d → i64B c → i64B n → ∀ (XA : Option Addr) (xn xc : Nat) (x : List UInt8), x.length = xn → xn ≤ xc → RdB w w.heap.size XA x → ∀ s : Int, i64B s →
    (upE N lv l d c n x = 0 → fillOk l d c (plOfR l d c n) (upX N lv l d c n x) = true) →
    Calls Tryz.prog 23 #[.pointer (some ⟨b, 0, none⟩), .slice LA ln lc, .agg #[.int .i64 l, .int .i64 d, .int .i64 c], .int .i64 n, .slice XA xn xc, .int .i64 s] w fun e w' => ∃ A c', e = .returned (.tuple #[.agg #[.int .i64 (upS N lv l d c n x s), .slice A (upL N lv l d c n x).length c'], .int .i64 (upE N lv l d c n x)]) ∧ (upL N lv l d c n x).length ≤ c' ∧ OwIt 92 w' w.heap.size w.heap.size (.slice A (upL N lv l d c n x).length c') (upL N lv l d c n x) ∧ Below w.heap.size w w'
structure UpdC : Prop where
  do_ : ∀ (W w : World) (b : Nat) (H : BH) (N : Bch), BP W w b H N → TabOk W → ∀ (lv : List Bool) (LA : Option Addr) (ln lc : Nat), ln = lv.length → RdOX (BF b H N.n) w LA lv →
    ∀ l d c n : Int, i64B l → i64B d → i64B c → i64B n → ∀ (XA : Option Addr) (xn xc : Nat) (x : List UInt8), x.length = xn → xn ≤ xc → RdB w w.heap.size XA x → ∀ s : Int, i64B s →
    (upE N lv l d c n x = 0 → fillOk l d c (plOfR l d c n) (upX N lv l d c n x) = true) → (∀ i, i < N.n → (N.D i).ps.length ≤ 900000) → N.done ≤ 900000 →
    Calls Tryz.prog 15 #[.pointer (some ⟨b, 0, none⟩), .slice LA ln lc, .agg #[.int .i64 l, .int .i64 d, .int .i64 c], .int .i64 n, .slice XA xn xc, .int .i64 s] w fun e w' => e = .returned (.int .i64 (doS N lv l d c n x s).1) ∧ BC W w w' b H N.n (doS N lv l d c n x s).2
  empty : ∀ (W w : World) (b : Nat) (H : BH) (N : Bch), BP W w b H N → TabOk W → ∀ (lv : List Bool) (LA : Option Addr) (ln lc : Nat), ln = lv.length → RdOX (BF b H N.n) w LA lv → ∀ s : Int, i64B s →
    (∀ i, i < N.n → (N.D i).ps.length ≤ 900000) → N.done ≤ 900000 →
    Calls Tryz.prog 20 #[.pointer (some ⟨b, 0, none⟩), .slice LA ln lc, .int .i64 s] w fun e w' => e = .returned (.int .i64 (putS N lv s []).1) ∧ BC W w w' b H N.n (putS N lv s []).2
structure KU (W w : World) (b : Nat) (H : BH) (N : Bch) (K : List (Nat × Obj)) (R : List (Option Addr × List (List UInt8))) (S : List (Option Addr × List UInt8)) (I : List (Option Addr × List It)) : Prop where
  ks : KS W w b H N K R S
  it : ∀ p ∈ I, RdIF w (BF b H N.n) p.1 p.2
section
variable {W w w' : World} {b : Nat} {H : BH} {N : Bch} {K : List (Nat × Obj)} {R : List (Option Addr × List (List UInt8))} {S : List (Option Addr × List UInt8)} {I : List (Option Addr × List It)}
theorem bnewI {w : World} {b : Nat} {H H' : BH} {n : Nat} (m : BNew w b H H' n) : ∀ k, k < w.heap.size → BF b H' n k → BF b H n k := fun k hk e => (m k e).elim id fun q => absurd q (by omega)
theorem KU.own (h : KU W w b H N K R S I) (hb : Below w.heap.size w w') {e : TypeId} {A : Option Addr} {l : List It} {c : Nat} (ho : OwIt e w' w.heap.size w.heap.size (.slice A l.length c) l) : KU W w' b H N K R S ((A, l) :: I) := by
  refine ⟨h.ks.below hb, fun p hp => ?_⟩
  rcases List.mem_cons.1 hp with rfl | hp
  · have hF : ∀ k, w.heap.size ≤ k → ¬ BF b H N.n k := fun k hk e => by have := h.ks.flt k e; omega
    obtain ⟨A', c', e', _, hr⟩ := ho.rdF hF hF
    injection e' with e1 _ _
    rw [e1]; exact hr
  · exact (h.it p hp).below hb
section
variable (h : KS W w b H N K R S)
include h
theorem ks_do (hu : UpdC) (ht : TabOk W) (lv : List Bool) (A : Option Addr) (m cp : Nat) (hm : m = lv.length) (hv : RdOX (BF b H N.n) w A lv) (l d c n : Int)
    (hl : -9223372036854775808 ≤ l ∧ l ≤ 9223372036854775807) (hd : -9223372036854775808 ≤ d ∧ d ≤ 9223372036854775807) (hc : -9223372036854775808 ≤ c ∧ c ≤ 9223372036854775807) (hn : -9223372036854775808 ≤ n ∧ n ≤ 9223372036854775807)
    (XA : Option Addr) (xn xc : Nat) (x : List UInt8) (hx : x.length = xn) (hxc : xn ≤ xc) (hr : RdB w w.heap.size XA x) (s : Int) (hs : -9223372036854775808 ≤ s ∧ s ≤ 9223372036854775807)
    (hf : upE N lv l d c n x = 0 → fillOk l d c (plOfR l d c n) (upX N lv l d c n x) = true) (hps : ∀ i, i < N.n → (N.D i).ps.length ≤ 900000) (hdn : N.done ≤ 900000) :
    Calls Tryz.prog 15 #[.pointer (some ⟨b, 0, none⟩), .slice A m cp, .agg #[.int .i64 l, .int .i64 d, .int .i64 c], .int .i64 n, .slice XA xn xc, .int .i64 s] w fun e w' => e = .returned (.int .i64 (doS N lv l d c n x s).1) ∧ ∃ H', KS W w' b H' (doS N lv l d c n x s).2 K R S := by
  refine (hu.do_ W w b H N h.bp ht lv A m cp hm hv l d c n hl hd hc hn XA xn xc x hx hxc hr s hs hf hps hdn).mono ?_
  rintro e w' ⟨rfl, hc⟩
  obtain ⟨H', k⟩ := h.bc hc (doS_n _ _ _ _ _ _ _ _)
  exact ⟨rfl, H', k⟩
end
end
end Go.Proofs.YtenkkdnepmoihaaGreatDoor
end
section
set_option maxRecDepth 20000
set_option linter.unusedVariables false
set_option linter.unusedSimpArgs false
namespace Go.Proofs.YtenkkdnepmoihaaGreatDoor
open Go.RowKit

/-- The Items of those disks that serve, by whole numbers. -/
def plIts (N : Bch) (lv : List Bool) (a : Int) (F : List (List UInt8)) (ds : List Int) : List It := (ds.filter (alvS N lv)).map fun k : Int => ⟨k, a, F.getD k.toNat []⟩
theorem plIts_snoc (N : Bch) (lv : List Bool) (a : Int) (F : List (List UInt8)) (ds : List Int) (k : Int) : plIts N lv a F (ds ++ [k]) = if alvS N lv k = true then plIts N lv a F ds ++ [⟨k, a, F.getD k.toNat []⟩] else plIts N lv a F ds := by
  unfold plIts
  rw [List.filter_append, List.map_append]
  by_cases h : alvS N lv k = true
  · rw [if_pos h, List.filter_cons_of_pos h]; rfl
  · rw [if_neg h, List.filter_cons_of_neg h]; simp
theorem plIts_len (N : Bch) (lv : List Bool) (a : Int) (F : List (List UInt8)) (ds : List Int) : (plIts N lv a F ds).length ≤ ds.length := by
  unfold plIts; rw [List.length_map]; exact List.length_filter_le _ _
theorem alvS_neg (N : Bch) (lv : List Bool) {k : Int} (h : k < 0) : alvS N lv k = false := by
  unfold alvS alvD; rw [decide_eq_false (by omega)]; rfl
theorem alvS_yes {N : Bch} {lv : List Bool} {k : Int} (h : alvS N lv k = true) : 0 ≤ k ∧ k < (N.n : Int) := by
  unfold alvS alvD at h
  simp only [Bool.and_eq_true, decide_eq_true_eq] at h
  exact ⟨h.1.1, h.1.2.1⟩
theorem plIts_nat (N : Bch) (lv : List Bool) (a : Nat) (F : List (List UInt8)) (ks : List Nat) : plIts N lv (a : Int) F (ks.map fun k : Nat => (k : Int)) = upIts N lv a F ks := by
  unfold plIts upIts
  induction ks with
  | nil => rfl
  | cons k ks ih =>
    rw [List.map_cons]
    by_cases h : srvD N lv k = true
    · rw [List.filter_cons_of_pos (by rw [alvS_nat]; exact h), List.filter_cons_of_pos h, List.map_cons, List.map_cons, ih, Int.toNat_natCast]
    · rw [List.filter_cons_of_neg (by rw [alvS_nat]; exact h), List.filter_cons_of_neg h, ih]
/-- The three disks of a change: what is written on those that serve. -/
theorem plIts_end (N : Bch) (lv : List Bool) {l d c n : Int} (F : List (List UInt8)) (h : plOfOk l d c n = true) : plIts N lv (36 + plOfR l d c n) F [plOfD l d c n, plP l d c (plOfR l d c n), plQ l d c (plOfR l d c n)] = upIts N lv (36 + (plOfR l d c n).toNat) F (upK l d c n) := by
  obtain ⟨hT, _, _, _, _, _⟩ := nums_at h
  have hg := plOfOk_ok h
  obtain ⟨_, ⟨d0, _⟩, ⟨r0, _⟩, _⟩ := of_back hg (plOfOk_yes h).1 (plOfOk_yes h).2
  obtain ⟨p0, _, q5, q6⟩ := parity_in hT
  have ha : (36 + plOfR l d c n : Int) = ((36 + (plOfR l d c n).toNat : Nat) : Int) := by omega
  rw [ha, ← plIts_nat]
  have hl := (gOk_yes hg).1
  have hl56 : l = 5 ∨ l = 6 := by omega
  unfold upK
  rcases hl56 with rfl | rfl
  · rw [if_neg (by decide), q5 rfl]
    have e : ([plOfD 5 d c n, plP 5 d c (plOfR 5 d c n), -1] : List Int) = [plOfD 5 d c n, plP 5 d c (plOfR 5 d c n)] ++ [-1] := rfl
    rw [e, plIts_snoc, if_neg (by rw [alvS_neg N lv (by decide)]; decide)]
    rw [List.map_cons, List.map_cons, List.map_nil, Int.toNat_of_nonneg d0, Int.toNat_of_nonneg p0]
  · rw [if_pos rfl]
    rw [List.map_cons, List.map_cons, List.map_cons, List.map_nil, Int.toNat_of_nonneg d0, Int.toNat_of_nonneg p0, Int.toNat_of_nonneg (q6 rfl).1]
/-- Other blocks may be written. -/
theorem OwIP.far {e : TypeId} {w w' : World} {B : Nat} {P : Nat → Prop} {v : Value} {l : List It} {q : Nat} (h : OwIP e w B P v l) (hg : w.grownBy w' (some q)) (hB : q < B) (hP : ¬ P q) : OwIP e w' B P v l := by
  obtain ⟨xs, h1, h2, h3⟩ := h
  refine ⟨xs, h1.kept hg (.inr fun e => ?_), ⟨h2.1, fun k hk => ?_⟩, h3⟩
  · have := (h1.lt q e).1; omega
  · obtain ⟨A, c, k1, hcap, k2, k3⟩ := h2.2 k hk
    refine ⟨A, c, k1, hcap, ⟨k2.1, fun h0 => ?_⟩, k3⟩
    obtain ⟨b, off, e, hb, hc⟩ := k2.2 h0
    have hne := (k3 h0 _ e).2
    refine ⟨b, off, e, by have := hg.size; omega, fun j hj => ?_⟩
    rw [← hc j hj]
    exact World.cell?_of_block (w := w) (hg.block b hb fun q' => by injection q' with q'; rw [q'] at hne; exact hP hne)
theorem OwIP.it {e : TypeId} {w : World} {B lo : Nat} {P : Nat → Prop} {v : Value} {l : List It} (h : OwIP e w B P v l) (hB : lo ≤ B) (hP : ∀ k, P k → lo ≤ k) : OwIt e w lo lo v l := by
  obtain ⟨xs, h1, h2, h3⟩ := h
  refine ⟨xs, ⟨h1.1, ?_⟩, ⟨h2.1, fun k hk => ?_⟩, h3⟩
  · rcases h1.2 with h1 | ⟨g, cap, cur, h1, h2, r⟩
    · exact .inl h1
    · exact .inr ⟨g, cap, cur, h1, by omega, r⟩
  · obtain ⟨A, c, k1, hcap, k2, k3⟩ := h2.2 k hk
    exact ⟨A, c, k1, hcap, k2, fun h0 a ha => ⟨(k3 h0 a ha).1, hP _ (k3 h0 a ha).2⟩⟩
/-- The geometry's box, and the answer's own. -/
structure PlB (w W1 : World) (l d c : Int) (V : World) : Prop where
  z : W1.heap.size = w.heap.size + 1
  b1 : Below w.heap.size w W1
  box : DcS W1 V
  g : GAt V w.heap.size l d c
section
variable {w W1 V V' : World} {l d c : Int}
theorem PlB.bel (h : PlB w W1 l d c V) : Below w.heap.size w V := h.b1.trans (h.box.1.mono (by have := h.z; omega))
theorem PlB.lt (h : PlB w W1 l d c V) : w.heap.size + 1 < V.heap.size := by have := h.box.plt; have := h.z; omega
theorem PlB.below (h : PlB w W1 l d c V) (hb : Below V.heap.size V V') : PlB w W1 l d c V' := ⟨h.z, h.b1, h.box.below hb, h.g.below hb (by have := h.lt; omega)⟩
theorem PlB.start (w : World) (l d c : Int) (t : TypeId) : PlB w (w.alloc (.cells #[.int .i64 l, .int .i64 d, .int .i64 c] t)) l d c ((w.alloc (.cells #[.int .i64 l, .int .i64 d, .int .i64 c] t)).alloc (.cells #[.int .i64 0, .slice none 0 0] 43)) :=
  ⟨by simp, below1 _ _, DcS.start _ _, (gat_new w l d c t (0, 0)).below (below1 _ _) (by simp)⟩
/-- Another block is written. -/
theorem PlB.far {q : Nat} (h : PlB w W1 l d c V) (hg : V.grownBy V' (some q)) (hq : w.heap.size + 1 < q) : PlB w W1 l d c V' := by
  have hlt := h.lt
  have hz := h.z
  have ne : ∀ i k, k ≤ w.heap.size + 1 → some (⟨k, i, none⟩ : Addr).block ≠ some q := fun i k hk e => by injection e with e; have h1 : k = q := e; omega
  obtain ⟨g1, g2, g3⟩ := h.g
  refine ⟨h.z, h.b1, ⟨h.box.1.grown hg h.box.1.size (fun k e => by injection e with e; omega), (hg.cell_far _ h.box.plt (ne 0 _ (by omega))).trans h.box.2.1, (hg.cell_far _ h.box.plt (ne 1 _ (by omega))).trans h.box.2.2.1, fun i => (hg.frozen_far _ h.box.plt (ne i _ (by omega))).trans (h.box.2.2.2 i)⟩, ?_, ?_, ?_⟩
  · exact (hg.cell_far ⟨w.heap.size, 0, none⟩ (by show w.heap.size < _; omega) (ne 0 _ (by omega))).trans g1
  · exact (hg.cell_far ⟨w.heap.size, 1, none⟩ (by show w.heap.size < _; omega) (ne 1 _ (by omega))).trans g2
  · exact (hg.cell_far ⟨w.heap.size, 2, none⟩ (by show w.heap.size < _; omega) (ne 2 _ (by omega))).trans g3
theorem PlB.cells (h : PlB w W1 l d c V) : V.cell? ⟨w.heap.size + 1, 0, none⟩ = some (.int .i64 0) ∧ V.cell? ⟨w.heap.size + 1, 1, none⟩ = some (.slice none 0 0) ∧ V.frozen? ⟨w.heap.size + 1, 0, none⟩ = false ∧ V.frozen? ⟨w.heap.size + 1, 1, none⟩ = false := by
  have := h.box
  rw [← h.z]
  exact ⟨this.2.1, this.2.2.1, this.2.2.2 0, this.2.2.2 1⟩
theorem PlB.put (h : PlB w W1 l d c V) (y : Int) (v : Value) : ((V.setCell ⟨w.heap.size + 1, 0, none⟩ (.int .i64 y)).setCell ⟨w.heap.size + 1, 1, none⟩ v).cell? ⟨w.heap.size + 1, 0, none⟩ = some (.int .i64 y) ∧ ((V.setCell ⟨w.heap.size + 1, 0, none⟩ (.int .i64 y)).setCell ⟨w.heap.size + 1, 1, none⟩ v).cell? ⟨w.heap.size + 1, 1, none⟩ = some v
    ∧ Below w.heap.size w ((V.setCell ⟨w.heap.size + 1, 0, none⟩ (.int .i64 y)).setCell ⟨w.heap.size + 1, 1, none⟩ v)
    ∧ ∀ l, OwIt 92 V (w.heap.size + 2) (w.heap.size + 2) v l → OwIt 92 ((V.setCell ⟨w.heap.size + 1, 0, none⟩ (.int .i64 y)).setCell ⟨w.heap.size + 1, 1, none⟩ v) w.heap.size w.heap.size v l := by
  obtain ⟨a1, a2, a3, a4⟩ := h.box.put y v
  have hb := h.b1.trans (a3.mono (by have := h.z; omega))
  rw [h.z] at a1 a2 a4 hb
  exact ⟨a1, a2, hb, fun l ho => (a4 l ho).le (by omega) (by omega)⟩
end
/-- The Record's box in block p, made last; Items that grow: all but that block stays. -/
structure PlL (W9 : World) (lo p : Nat) (s : Int) (v : Value) (l : List It) (V : World) : Prop where
  chg : Chg (fun k => k = p) W9 V
  c0 : V.cell? ⟨p, 0, none⟩ = some (.int .i64 s)
  c1 : V.cell? ⟨p, 1, none⟩ = some v
  fz : ∀ i, V.frozen? ⟨p, i, none⟩ = false
  own : OwIP 92 V W9.heap.size (fun k => lo ≤ k ∧ k < p) v l
section
variable {W8 W9 V V' V2 : World} {lo p : Nat} {s : Int} {v v' : Value} {l : List It}
theorem PlL.start (W8 : World) (lo : Nat) (s : Int) : PlL (W8.alloc (.cells #[.int .i64 s, .slice none 0 0] 43)) lo W8.heap.size s (.slice none 0 0) [] (W8.alloc (.cells #[.int .i64 s, .slice none 0 0] 43)) :=
  ⟨Chg.refl _ _, cell_of_row _ _ 0 _ _ _ (heap_alloc_new W8 (.cells #[.int .i64 s, .slice none 0 0] 43)), cell_of_row _ _ 1 _ _ _ (heap_alloc_new W8 (.cells #[.int .i64 s, .slice none 0 0] 43)), fun i => World.frozen?_alloc_new W8 #[.int .i64 s, .slice none 0 0] 43 i, OwIP.nil _ _ _ _⟩
theorem PlL.lt (h : PlL W9 lo p s v l V) : p < V.heap.size := World.block_lt_of_cell? _ _ h.c0
theorem PlL.below (h : PlL W9 lo p s v l V) (hb : Below V.heap.size V V') : PlL W9 lo p s v l V' :=
  ⟨h.chg.trans (chg_below (fun k => k = p) hb) (fun _ _ q => q), (hb.cell (p := ⟨p, 0, none⟩) h.lt).trans h.c0, (hb.cell (p := ⟨p, 1, none⟩) h.lt).trans h.c1, fun i => (hb.frozen (p := ⟨p, i, none⟩) h.lt).trans (h.fz i), h.own.below hb⟩
theorem PlL.drew (h : PlL W9 lo p s v l V) : PlL W9 lo p s v l V.drew := h.below (Below.refl _ _).drew
/-- Items were appended; then the box says so. -/
theorem PlL.app (h : PlL W9 lo p s v l V) (hp : p < W9.heap.size) {l' : List It} (hg : V.grownBy V2 v.ownBlock) (ho : OwIP 92 V2 W9.heap.size (fun k => lo ≤ k ∧ k < p) v' l') :
    V2.cell? ⟨p, 1, none⟩ = some v ∧ V2.frozen? ⟨p, 1, none⟩ = false ∧ PlL W9 lo p s v' l' (V2.setCell ⟨p, 1, none⟩ v') := by
  have hB := fun k e => (h.own.lt k e).1
  have ne : ∀ i, some (⟨p, i, none⟩ : Addr).block ≠ v.ownBlock := fun i e => by have := hB p e.symm; omega
  have k0 := (hg.cell_far ⟨p, 0, none⟩ h.lt (ne 0)).trans h.c0
  have k1 := (hg.cell_far ⟨p, 1, none⟩ h.lt (ne 1)).trans h.c1
  have f := fun i => (hg.frozen_far ⟨p, i, none⟩ h.lt (ne i)).trans (h.fz i)
  have g2 := grown_cell V2 p 1 v'
  refine ⟨k1, f 1, ?_, (World.cell?_setCell_other _ _ _ _ (by intro e; injection e with _ e; cases e)).trans k0, World.cell?_setCell_same _ _ _ k1, fun i => by rw [World.frozen?_setCell]; exact f i, ho.far g2 hp (fun q => by omega)⟩
  refine (h.chg.trans (chg_grown hg) (fun k hk e => ?_)).trans (chg_grown g2) (fun k hk e => by injection e with e; exact e.symm)
  have := hB k e; omega
end
end Go.Proofs.YtenkkdnepmoihaaGreatDoor
end
