/- Texts put together: BchP, StripeErrorsLoop, UpdKit, UpdCrash, UpdFound, UpdLog, UpdDo. -/
import Derived.Test.YtenkkdnepmoihaaGreatDoorUram
import Derived.Test.YtenkkdnepmoihaaGreatDoorUrax
import Derived.Test.YtenkkdnepmoihaaGreatDoorUrar
import Derived.Test.YtenkkdnepmoihaaGreatDoorUraw
section
namespace Go.Proofs.YtenkkdnepmoihaaGreatDoor
open Go.RowKit

section
variable (W w : World) (b : Nat) (H : BH) (N : Bch) (h : BP W w b H N)
include h
end
end Go.Proofs.YtenkkdnepmoihaaGreatDoor
end
section
set_option linter.unusedVariables false
set_option linter.unusedSimpArgs false
namespace Go.Proofs.YtenkkdnepmoihaaGreatDoor
open Go.RowKit

section
variable {W w : World} {b : Nat} {H : BH} {N : Bch} {K : List (Nat × Obj)} {R : List (Option Addr × List (List UInt8))} {S : List (Option Addr × List UInt8)} (h : KS W w b H N K R S)
include h
end
end Go.Proofs.YtenkkdnepmoihaaGreatDoor
end
section
set_option maxRecDepth 20000
set_option linter.unusedVariables false
set_option linter.unusedSimpArgs false
namespace Go.Proofs.YtenkkdnepmoihaaGreatDoor
open Go.RowKit

/-- A bench lies in just these blocks. -/
theorem bat_blocks {w : World} {B b : Nat} {H : BH} {N : Bch} (h : BAt w B b H N) : ∃ L : List (Nat × Obj), (∀ p ∈ L, w.heap[p.1]? = some p.2 ∧ BF b H N.n p.1) ∧ ∀ V : World, (∀ p ∈ L, V.heap[p.1]? = some p.2) → BAt V B b H N := by
  let keys := b :: H.g :: (List.range N.n).flatMap fun i => H.bk i :: (H.pv i).ownBlock.toList
  have hk : ∀ k, k ∈ keys ↔ BF b H N.n k := fun k => by
    show k ∈ b :: H.g :: _ ↔ _
    unfold BF DF
    simp only [List.mem_cons, List.mem_flatMap, List.mem_range, Option.mem_toList, Option.mem_def]
  refine ⟨keys.filterMap fun k => (w.heap[k]?).map fun o => (k, o), fun p hp => ?_, fun V hV => h.heap fun k hk' => ?_⟩
  · obtain ⟨k, h1, h2⟩ := List.mem_filterMap.1 hp
    obtain ⟨o, h3, rfl⟩ := Option.map_eq_some_iff.1 h2
    exact ⟨h3, (hk k).1 h1⟩
  · have hl := (h.flt hk').2
    obtain ⟨o, ho⟩ : ∃ o, w.heap[k]? = some o := ⟨w.heap[k], by simp [hl]⟩
    rw [ho]
    exact hV (k, o) (List.mem_filterMap.2 ⟨k, (hk k).2 hk', by rw [ho]; rfl⟩)
section
variable {W w w' : World} {b : Nat} {H : BH} {N : Bch} {K : List (Nat × Obj)} {R : List (Option Addr × List (List UInt8))} {S : List (Option Addr × List UInt8)}
/-- A clone, kept as blocks. -/
theorem ks_clone (h : KS W w b H N K R S) (hps : ∀ i, i < N.n → (N.D i).ps.length ≤ 2000000) :
    Calls Tryz.prog 24 #[.pointer (some ⟨b, 0, none⟩)] w fun e w' => ∃ b2 H2 L, e = .returned (.pointer (some ⟨b2, 0, none⟩)) ∧ KS W w' b H N (L ++ K) R S ∧ Below w.heap.size w w' ∧ ∀ V : World, (∀ p ∈ L, V.heap[p.1]? = some p.2) → BAt V W.heap.size b2 H2 N := by
  refine (bch_clone_any _ _ _ _ _ h.bp.at' hps).mono ?_
  rintro e w' ⟨b2, H2, rfl, ha, hb⟩
  obtain ⟨L, hL, hV⟩ := bat_blocks (ha.mono (B' := W.heap.size) h.bp.bel.size)
  refine ⟨b2, H2, L, rfl, ?_, hb, hV⟩
  have h' := h.below hb
  refine ⟨⟨h'.bp, fun p hp => ?_⟩, h'.rx, h'.sx⟩
  rcases List.mem_append.1 hp with h1 | h1
  · obtain ⟨h2, h3⟩ := hL p h1
    have h4 := (ha.flt h3).1
    exact ⟨h2, fun e => by have := h.flt _ e; omega, by have := h.bp.bel.size; omega⟩
  · exact h'.kx.kp p h1
/-- A block of one's own is written, that is none of the bench's, nor kept. -/
theorem KS.far (h : KS W w b H N K [] []) {ob : Option Nat} (hg : w.grownBy w' ob) (ho : ∀ p, ob = some p → W.heap.size ≤ p ∧ ¬ BF b H N.n p ∧ ∀ q ∈ K, q.1 ≠ p) : KS W w' b H N K [] [] := by
  have hch := chg_grown hg
  refine ⟨⟨h.bp.chg hch (fun k e => (ho k e).1) (fun k hk e => (ho k e).2.1 hk), fun p hp => ?_⟩, fun _ hp => absurd hp (by simp), fun _ hp => absurd hp (by simp)⟩
  obtain ⟨h1, h2, h3⟩ := h.kx.kp p hp
  exact ⟨(hg.block _ (Array.getElem?_eq_some_iff.1 h1).1 (fun e => (ho _ e.symm).2.2 p hp rfl)).trans h1, h2, h3⟩
end
/-- A row of slices grows by one. -/
theorem wpList_append_row {w : World} {ops : Array Oper} {rest : List Oper} {o : Oper} {a : Act} {Q : Exit → Act → World → Prop} (hw : Region.wanted o (yielded ops a.tmps) = true) (s x : Operand) (t : TypeId)
    (ho : o.op = .call { callee := .builtin .append, args := #[s, x], argTypes := #[t, t] }) (ht : Tryz.prog.underlying t = some (.slice 35)) (lo : Nat) (v : Value) (rs : List (List UInt8)) (hs : a.eval s = v) (hown : OwV lo w v rs) (g : Nat) (t' : TypeId) (f' : Nat × Nat) (A : Option Addr) (c : Nat) (y : List UInt8)
    (hx : a.eval x = .slice (some ⟨g, 0, none⟩) 1 1) (hg : w.heap[g]? = some (.cells #[.slice A y.length c] t' f')) (hy : RdBF lo w A y) (hne : 0 < y.length → ∀ a, A = some a → some a.block ≠ v.ownBlock) (hn : rs.length ≤ 1000000) (hlo : lo ≤ w.heap.size)
    (h : ∀ v' w', OwV lo w' v' (rs ++ [y]) → w.grownBy w' v.ownBlock → wpList Tryz.prog ops Q rest (a.put o.dst v') w') : wpList Tryz.prog ops Q (o :: rest) a w := by
  obtain ⟨xs, h1, h2⟩ := hown
  have hgl := (Array.getElem?_eq_some_iff.1 hg).1
  refine wpList_append_V hw s x t ho lo 35 (.slice none 0 0) 24 ht info_row2 rfl v rs.length xs hs h1 w.heap.size (some ⟨g, 0, none⟩) 1 1 [.slice A y.length c] hx rfl (fun _ => ⟨g, 0, rfl, by omega, fun j hj => by obtain rfl : j = 0 := (by simp at hj; omega); exact cell_of_row _ _ _ _ _ _ hg⟩) (fun u hu => by simp at hu; subst hu; rfl) (by unfold maxLen; omega) (by omega) hlo fun v' w' o' g' at' => ?_
  exact h v' w' ⟨_, by rw [List.length_append]; exact o', (h2.snoc (c := c) hy hne).grown g' at'⟩ g'
theorem OwV.lt {lo : Nat} {w : World} {v : Value} {rs : List (List UInt8)} (h : OwV lo w v rs) : ∀ k, v.ownBlock = some k → lo ≤ k ∧ k < w.heap.size := by
  obtain ⟨xs, h1, _⟩ := h
  exact World.ownsRow.lt h1
/-- A bench with power, no disk of which has failed. -/
structure Up (M : Bch) (D : Nat) : Prop where
  n : M.n = D
  dn : M.down = false
  f : ∀ i, i < D → (M.D i).f = false
theorem Up.read {M : Bch} {D : Nat} (h : Up M D) {i s : Nat} (hi : i < D) (hs : s < 16) : M.readE (i : Int) (36 + (s : Int)) = 0 ∧ M.read (i : Int) (36 + (s : Int)) = secAt (M.D i).now (36 + s) := by
  have := Bch.read_ok (N := M) (d := i) (k := 36 + s) (by rw [h.n]; exact hi) (by omega) (h.f i hi) h.dn
  rwa [show ((36 + s : Nat) : Int) = 36 + (s : Int) by omega] at this
end Go.Proofs.YtenkkdnepmoihaaGreatDoor
end
section
set_option linter.unusedVariables false
set_option linter.unusedSimpArgs false
namespace Go.Proofs.YtenkkdnepmoihaaGreatDoor

section
variable {N : Bch} {D : Nat} {lv : List Bool} {nn l c r : Int} {F W ρ k : Nat} {ds : Nat → List (List UInt8)} {x : List UInt8}
end
end Go.Proofs.YtenkkdnepmoihaaGreatDoor
end
section
set_option linter.unusedVariables false
set_option linter.unusedSimpArgs false
namespace Go.Proofs.YtenkkdnepmoihaaGreatDoor

end Go.Proofs.YtenkkdnepmoihaaGreatDoor
end
section
set_option maxRecDepth 20000
set_option linter.unusedVariables false
set_option linter.unusedSimpArgs false
namespace Go.Proofs.YtenkkdnepmoihaaGreatDoor
open Go.RowKit

section
variable {W w : World} {b : Nat} {H : BH} {N : Bch} {K : List (Nat × Obj)} {R : List (Option Addr × List (List UInt8))} {S : List (Option Addr × List UInt8)} {I : List (Option Addr × List It)} (h : KU W w b H N K R S I)
include h
end
end Go.Proofs.YtenkkdnepmoihaaGreatDoor
end
section
set_option maxRecDepth 20000
set_option linter.unusedVariables false
set_option linter.unusedSimpArgs false
namespace Go.Proofs.YtenkkdnepmoihaaGreatDoor
open Go.RowKit

theorem its64_nil : Its64 [] := fun k hk => absurd hk (by simp)
section
variable {W w w' : World} {b : Nat} {H H' : BH} {N N' : Bch} {K : List (Nat × Obj)} {R : List (Option Addr × List (List UInt8))} {S : List (Option Addr × List UInt8)} {I : List (Option Addr × List It)}
theorem KU.bc3 (h : KU W w b H N K R S I) (a : BP W w' b H' N') (c : Chg (BF b H N.n) w w') (m : BNew w b H H' N.n) (hn : N'.n = N.n) : KU W w' b H' N' K R S I := by
  have hx : KX W w' b H' N' K := by
    refine ⟨a, fun p hp => ?_⟩
    obtain ⟨h1, h2, h3⟩ := h.ks.kx.kp p hp
    have hl := (Array.getElem?_eq_some_iff.1 h1).1
    exact ⟨(c.block _ hl h2).trans h1, by rw [hn]; exact BC.off m hl h2, h3⟩
  refine ⟨⟨hx, fun p hp => by rw [hn]; exact (h.ks.rx p hp).chg c (bnew_weak m), fun p hp => by rw [hn]; exact (h.ks.sx p hp).chg c (bnew_weak m)⟩, fun p hp => ?_⟩
  rw [hn]
  have h0 : RdIF w (fun k => BF b H' N.n k ∨ BF b H N.n k) p.1 p.2 := (h.it p hp).off fun k hk e => e.elim (bnewI m k hk) id
  exact (h0.chg c fun k hk e => .inr e).off fun k hk e => .inl e
theorem bx_below {lv : List Bool} {A : Option Addr} {F : Nat → Prop} (h : RdOX F w A lv) (hb : Below w.heap.size w w') : RdOX F w' A lv :=
  ⟨h.1, fun hn => by
    obtain ⟨b, off, e, hl, hf, hc⟩ := h.2 hn
    exact ⟨b, off, e, by have := hb.size; omega, hf, fun k hk => (hb.cell (p := ⟨b, off + k, none⟩) hl).trans (hc k hk)⟩⟩
theorem bx_chg {lv : List Bool} {A : Option Addr} {F F' : Nat → Prop} (h : RdOX F w A lv) (hc : Chg F w w') (hF : ∀ k, k < w.heap.size → F' k → F k) : RdOX F' w' A lv :=
  ⟨h.1, fun hn => by
    obtain ⟨b, off, e, hl, hf, hcl⟩ := h.2 hn
    exact ⟨b, off, e, Nat.lt_of_lt_of_le hl hc.size, fun q => hf (hF b hl q), fun k hk => cell_chg (hcl k hk) hc hf⟩⟩
end
set_option maxRecDepth 100000 in
set_option maxHeartbeats 1600000 in
theorem emptyC (W w : World) (b : Nat) (H : BH) (N : Bch) (h : BP W w b H N) (ht : TabOk W) (lv : List Bool) (LA : Option Addr) (ln lc : Nat) (hln : ln = lv.length) (hlv : RdOX (BF b H N.n) w LA lv) (s : Int) (hs : i64B s) (hps : ∀ i, i < N.n → (N.D i).ps.length ≤ 900000) (hdn : N.done ≤ 900000) :
    Calls Tryz.prog 20 #[.pointer (some ⟨b, 0, none⟩), .slice LA ln lc, .int .i64 s] w fun e w' => e = .returned (.int .i64 (putS N lv s []).1) ∧ BC W w w' b H N.n (putS N lv s []).2 := by
  have CP := Lib.hid (put_any W w b H N h ht lv LA ln lc hln hlv.rdo s [] none 0 0 rfl (Nat.le_refl _) (RdI.nil _ _ _) its64_nil hs (fun i hi => by have := hps i hi; omega) (by omega))
  clear hlv h hps hln
  go_enter Tryz.func20, Tryz.ntmps20
  go_wp2_with fail
  (with_reducible refine CP.out.mono ?_); rintro e w1 ⟨rfl, hc⟩
  have Hc := Lib.hid hc
  clear hc CP
  go_wp2
  go_ret
  exact ⟨rfl, Hc.out⟩
set_option maxRecDepth 100000 in
set_option maxHeartbeats 3200000 in
theorem doC (hp : UpdP) (W w : World) (b : Nat) (H : BH) (N : Bch) (h : BP W w b H N) (ht : TabOk W) (lv : List Bool) (LA : Option Addr) (ln lc : Nat) (hln : ln = lv.length) (hlv : RdOX (BF b H N.n) w LA lv)
    (l d c n : Int) (hl : i64B l) (hd : i64B d) (hc : i64B c) (hn : i64B n) (XA : Option Addr) (xn xc : Nat) (x : List UInt8) (hx : x.length = xn) (hxc : xn ≤ xc) (hr : RdB w w.heap.size XA x) (s : Int) (hs : i64B s)
    (hf : upE N lv l d c n x = 0 → fillOk l d c (plOfR l d c n) (upX N lv l d c n x) = true) (hps : ∀ i, i < N.n → (N.D i).ps.length ≤ 900000) (hdn : N.done ≤ 900000) (h64 : Its64 (upL N lv l d c n x)) :
    Calls Tryz.prog 15 #[.pointer (some ⟨b, 0, none⟩), .slice LA ln lc, .agg #[.int .i64 l, .int .i64 d, .int .i64 c], .int .i64 n, .slice XA xn xc, .int .i64 s] w fun e w' => e = .returned (.int .i64 (doS N lv l d c n x s).1) ∧ BC W w w' b H N.n (doS N lv l d c n x s).2 := by
  have hn8 : N.n ≤ 8 := h.at'.ok.n.2
  have hb0 := below1 w (.cells #[.int .i64 l, .int .i64 d, .int .i64 c] 24)
  have k0 : KU W (w.alloc (.cells #[.int .i64 l, .int .i64 d, .int .i64 c] 24)) b H N [] [] [] [] := ⟨⟨⟨h.grow hb0, fun _ hp => absurd hp (by simp)⟩, fun _ hp => absurd hp (by simp), fun _ hp => absurd hp (by simp)⟩, fun _ hp => absurd hp (by simp)⟩
  have CP := Lib.hid (hp.plan W _ b H N (h.grow hb0) lv LA ln lc hln (bx_below hlv hb0) l d c n hl hd hc hn XA xn xc x hx hxc ((hr.below hb0 (Nat.le_refl _)).more hb0.size) s hs hf)
  have G := gat_new w l d c 24 (0, 0)
  obtain ⟨g1, g2, g3⟩ := G
  have Hself := Lib.hid (fun (w' : World) (hb : Below w.heap.size w w') => (BP.self h).then hb)
  have Hlv := Lib.hid hlv
  have K0 := Lib.hid k0
  have Hh := Lib.hid h
  have Hps := Lib.hid hps
  have Hln := Lib.hid hln
  have hdo := Lib.hid (show doS N lv l d c n x s = if upE N lv l d c n x ≠ 0 then (upE N lv l d c n x, N) else if (putS N lv s (upL N lv l d c n x)).1 ≠ 0 then putS N lv s (upL N lv l d c n x) else appS (putS N lv s (upL N lv l d c n x)).2 lv s (upL N lv l d c n x) from rfl)
  have hS : upE N lv l d c n x = 0 → upS N lv l d c n x s = s := fun e => if_neg (fun q => q e)
  have hP := put_len N lv s (upL N lv l d c n x) hn8
  have hPn := put_n N lv s (upL N lv l d c n x)
  generalize doS N lv l d c n x s = q at hdo ⊢
  generalize upE N lv l d c n x = E at CP hdo hS
  generalize upS N lv l d c n x s = s1 at CP hS
  generalize upL N lv l d c n x = its at CP hdo h64 hP hPn
  clear h hlv hps k0 hr hf hp hl hd hc hn hx hxc hln
  go_enter Tryz.func15, Tryz.ntmps15
  go_wp2_with fail
  (with_reducible refine CP.out.mono ?_); rintro e w1 ⟨A, c', rfl, hcc, ho, hb1⟩
  have k1 := (K0.out.own hb1 ho)
  have k2 : KU W (w1.alloc (.cells #[.int .i64 s1, .slice A its.length c'] 43)) b H N [(w1.heap.size, Obj.cells #[.int .i64 s1, .slice A its.length c'] 43 (0, 0))] [] [] [(A, its)] := ⟨k1.ks.add _, fun p hp => (k1.it p hp).below (below1 w1 _)⟩
  have hb2 : Below w.heap.size w (w1.alloc (.cells #[.int .i64 s1, .slice A its.length c'] 43)) := (hb0.trans (hb1.mono hb0.size)).alloc (by have := hb0.size; have := hb1.size; omega) _
  have Hb2 := Lib.hid hb2
  have K2 := Lib.hid k2
  have L2 := Lib.hid (bx_below Hlv.out Hb2.out)
  clear k1 k2 hb2 ho hb1 hb0 K0 Hlv CP
  by_cases h0 : E = 0
  · have e0 : (E != 0) = false := by rw [h0]; rfl
    rw [if_neg (fun q => q h0)] at hdo
    obtain rfl : s1 = s := hS h0
    subst h0
    have CPu := Lib.hid (put_any W _ b H N K2.out.ks.bp ht lv LA ln lc Hln.out L2.out.rdo s1 its A its.length c' rfl hcc (K2.out.it (A, its) (by simp)).rdI h64 hs (fun i hi => by have := Hps.out i hi; omega) (by omega))
    generalize putS N lv s1 its = p at hdo CPu hP hPn
    obtain ⟨E1, N1⟩ := p
    dsimp only at hdo CPu hP hPn
    go_wp2_with fail
    (with_reducible refine CPu.out.mono ?_); rintro e w3 ⟨rfl, hc3⟩
    obtain ⟨H3, a3, c3, m3⟩ := hc3
    have K3 := Lib.hid (K2.out.bc3 a3 c3 m3 hPn)
    have L3 := Lib.hid (show RdOX (BF b H3 N1.n) w3 LA lv from by rw [hPn]; exact bx_chg L2.out c3 (bnewI m3))
    have z := Lib.hid ((K3.out.ks.kx.kp _ (List.mem_cons_self ..)).1)
    have Hc3 := Lib.hid c3
    have Hm3 := Lib.hid m3
    have Ha3 := Lib.hid a3
    clear c3 m3 a3 CPu
    by_cases h1 : E1 = 0
    · rw [if_neg (fun q => q h1)] at hdo
      subst h1
      have CAp := Lib.hid (app_any W w3 b H3 N1 K3.out.ks.bp lv LA ln lc Hln.out L3.out.rdo s1 its A its.length c' rfl hcc (K3.out.it (A, its) (by simp)) h64 hs (fun i hi => by have := hP.1 i; have := Hps.out i (by rw [← hPn]; exact hi); omega) (by have := hP.2; omega))
      have z0 := cell_of_row w3 _ 0 _ _ _ z.out
      have z1 := cell_of_row w3 _ 1 _ _ _ z.out
      go_wp2_with fail
      (with_reducible refine CAp.out.mono ?_); rintro e w4 ⟨rfl, hc4⟩
      rw [hPn] at hc4
      have Hfin := Lib.hid (BC.below (H := H) Hb2.out (BC.seq Hc3.out Hm3.out hc4))
      clear hc4 CAp z0 z1
      go_wp2
      go_ret
      rw [hdo.out]
      exact ⟨rfl, Hfin.out⟩
    · have e1 : (E1 != 0) = true := by rw [bne_iff_ne]; exact h1
      rw [if_pos h1] at hdo
      have Hfin := Lib.hid (BC.below (H := H) Hb2.out ⟨H3, Ha3.out, Hc3.out, Hm3.out⟩)
      clear h1
      go_wp2
      go_ret
      rw [hdo.out]
      exact ⟨rfl, Hfin.out⟩
  · have e0 : (E != 0) = true := by rw [bne_iff_ne]; exact h0
    rw [if_pos h0] at hdo
    have Hfin := Lib.hid (Hself.out _ Hb2.out)
    clear h0
    go_wp2
    go_ret
    rw [hdo.out]
    exact ⟨rfl, Hfin.out⟩
theorem up_64 {N : Bch} {lv : List Bool} {l d c n : Int} {x : List UInt8} (hn : N.n ≤ 8) : Its64 (upL N lv l d c n x) := by
  by_cases h0 : upE N lv l d c n x = 0
  · have hp : plOfOk l d c n = true := by
      rw [← Bool.not_eq_false]; intro e
      unfold upE at h0
      rw [e] at h0
      split at h0 <;> cases h0
    have hr := (plOk_yes (nums_at hp).1).2
    have e : upL N lv l d c n x = upIts N lv (36 + (plOfR l d c n).toNat) (fillL (roD d) (roF l d c (plOfR l d c n)) (upX N lv l d c n x)) (upK l d c n) := if_neg (fun q => q h0)
    intro k hk
    rw [e] at hk ⊢
    obtain ⟨i, _, hs, hi⟩ := mem_upIts.1 (itN_mem hk)
    have h1 := (srvD_yes hs).1
    rw [hi]
    exact ⟨⟨by show _ ≤ ((i : Nat) : Int); omega, by show ((i : Nat) : Int) ≤ _; omega⟩, ⟨by show _ ≤ (((36 + (plOfR l d c n).toNat : Nat)) : Int); omega, by show (((36 + (plOfR l d c n).toNat : Nat)) : Int) ≤ _; omega⟩⟩
  · rw [upL_no h0]; exact its64_nil
theorem updC_of (hp : UpdP) : UpdC :=
  ⟨fun W w b H N h ht lv LA ln lc hln hlv l d c n hl hd hc hn XA xn xc x hx hxc hr s hs hf hps hdn => doC hp W w b H N h ht lv LA ln lc hln hlv l d c n hl hd hc hn XA xn xc x hx hxc hr s hs hf hps hdn (up_64 h.at'.ok.n.2),
   fun W w b H N h ht lv LA ln lc hln hlv s hs hps hdn => emptyC W w b H N h ht lv LA ln lc hln hlv s hs hps hdn⟩
end Go.Proofs.YtenkkdnepmoihaaGreatDoor
end
