/- Texts put together: UpdMath, UpdSpec, UpdArr. -/
import Derived.Test.YtenkkdnepmoihaaUpbf
import Derived.Test.YtenkkdnepmoihaaUpbb
import Derived.Test.YtenkkdnepmoihaaUpbe
section
set_option linter.unusedVariables false
set_option linter.unusedSimpArgs false
namespace Go.Proofs.Ytenkkdnepmoihaa

/-- The Items of those disks that serve. -/
def upIts (N : Bch) (lv : List Bool) (a : Nat) (xs : List (List UInt8)) (ks : List Nat) : List It := (ks.filter (srvD N lv)).map fun k : Nat => ⟨(k : Int), (a : Int), xs.getD k []⟩
def upE (N : Bch) (lv : List Bool) (l d c n : Int) (x : List UInt8) : Int := if x.length ≠ 32 then 1 else if plOfOk l d c n = false then 4 else srdE N lv l d c (plOfR l d c n)
def upX (N : Bch) (lv : List Bool) (l d c n : Int) (x : List UInt8) : List (List UInt8) := (srdL N lv l d c (plOfR l d c n)).set (kOf l d c n) x
def upK (l d c n : Int) : List Nat := (plOfD l d c n).toNat :: (plP l d c (plOfR l d c n)).toNat :: if l = 6 then [(plQ l d c (plOfR l d c n)).toNat] else []
def upL (N : Bch) (lv : List Bool) (l d c n : Int) (x : List UInt8) : List It :=
  if upE N lv l d c n x ≠ 0 then [] else upIts N lv (36 + (plOfR l d c n).toNat) (fillL (roD d) (roF l d c (plOfR l d c n)) (upX N lv l d c n x)) (upK l d c n)
def upS (N : Bch) (lv : List Bool) (l d c n : Int) (x : List UInt8) (s : Int) : Int := if upE N lv l d c n x ≠ 0 then 0 else s
theorem upL_no {N : Bch} {lv : List Bool} {l d c n : Int} {x : List UInt8} (h : upE N lv l d c n x ≠ 0) : upL N lv l d c n x = [] := if_pos h
theorem upS_no {N : Bch} {lv : List Bool} {l d c n : Int} {x : List UInt8} {s : Int} (h : upE N lv l d c n x ≠ 0) : upS N lv l d c n x s = 0 := if_pos h
section
variable {N : Bch} {lv : List Bool} {nn l c : Int} {ρ D F W k : Nat} {x : List UInt8}
/-- The disks of a change. -/
def ksL (l : Int) (D F W k : Nat) : List Nat := roS D F k :: roS D F W :: if l = 6 then [roS D F (W + 1)] else []
theorem ksL_facts (gr : Gr nn l c (ρ : Int) D F W) (hk : k < W) : (ksL l D F W k).Nodup ∧ (ksL l D F W k).length ≤ 3 ∧ (∀ i ∈ ksL l D F W k, i < D) ∧ (∀ i, i < D → i ∉ ksL l D F W k → roI D F i < W ∧ roI D F i ≠ k) := by
  have hF := gr.hF; have hW := gr.hW; have hlv := gr.lv
  have a1 := roS_lt (D := D) (F := F) (k := k) hF (by omega)
  have a2 := roS_lt (D := D) (F := F) (k := W) hF (by omega)
  have n1 : roS D F k ≠ roS D F W := fun e => by have := roS_inj hF (by omega) (by omega) e; omega
  have back : ∀ i, i < D → ∀ j, j < D → i ≠ roS D F j → roI D F i ≠ j := fun i hi j hj h e => h (by rw [← e, roS_roI hF hi])
  rcases hlv with ⟨rfl, hD⟩ | ⟨rfl, hD⟩
  · refine ⟨?_, ?_, ?_, ?_⟩ <;> unfold ksL <;> rw [if_neg (by decide)]
    · simp [n1]
    · simp
    · intro i hi; simp at hi; rcases hi with rfl | rfl <;> assumption
    · intro i hi h
      simp only [List.mem_cons, List.not_mem_nil, or_false, not_or] at h
      have b1 := back i hi k (by omega) h.1
      have b2 := back i hi W (by omega) h.2
      have b3 := roI_lt hF hi
      omega
  · have a3 := roS_lt (D := D) (F := F) (k := W + 1) hF (by omega)
    have n2 : roS D F k ≠ roS D F (W + 1) := fun e => by have := roS_inj hF (by omega) (by omega) e; omega
    have n3 : roS D F W ≠ roS D F (W + 1) := fun e => by have := roS_inj hF (by omega) (by omega) e; omega
    refine ⟨?_, ?_, ?_, ?_⟩ <;> unfold ksL <;> rw [if_pos rfl]
    · simp [n1, n2, n3]
    · simp
    · intro i hi; simp at hi; rcases hi with rfl | rfl | rfl <;> assumption
    · intro i hi h
      simp only [List.mem_cons, List.not_mem_nil, or_false, not_or] at h
      have b1 := back i hi k (by omega) h.1
      have b2 := back i hi W (by omega) h.2.1
      have b4 := back i hi (W + 1) (by omega) h.2.2
      have b3 := roI_lt hF hi
      omega
theorem set_32 {rs : List (List UInt8)} (ha : ∀ y ∈ rs, y.length = 32) (hx : x.length = 32) : ∀ y ∈ rs.set k x, y.length = 32 := fun y hy => by
  rcases List.mem_or_eq_of_mem_set hy with h | h
  · exact ha y h
  · rw [h]; exact hx
/-- The record of a sector of a row that is told. -/
theorem up_at (gr : Gr nn l c (ρ : Int) D F W) (hk : k < W) (hx : x.length = 32) {rs : List (List UInt8)} (hE : srdE N lv l (D : Int) c (ρ : Int) = 0 ∧ srdL N lv l (D : Int) c (ρ : Int) = rs) :
    upE N lv l (D : Int) c (plN l (D : Int) c (ρ : Int) (k : Int)) x = 0 ∧ upL N lv l (D : Int) c (plN l (D : Int) c (ρ : Int) (k : Int)) x = upIts N lv (36 + ρ) (fillL D F (rs.set k x)) (ksL l D F W k) ∧ upX N lv l (D : Int) c (plN l (D : Int) c (ρ : Int) (k : Int)) x = rs.set k x := by
  obtain ⟨h1, h2, h3, h4⟩ := num_place gr hk
  have e0 : upE N lv l (D : Int) c (plN l (D : Int) c (ρ : Int) (k : Int)) x = 0 := by
    unfold upE; rw [if_neg (by omega), if_neg (by rw [h1]; decide), h3]; exact hE.1
  have eX : upX N lv l (D : Int) c (plN l (D : Int) c (ρ : Int) (k : Int)) x = rs.set k x := by unfold upX; rw [h3, h4, hE.2]
  refine ⟨e0, ?_, eX⟩
  unfold upL
  rw [if_neg (by rw [e0]; decide), eX, h3, gr.eD, gr.eF]
  have hp := gr.R.pP
  have hq := gr.R.pQ
  rw [gr.eD, gr.eF, gr.eW] at hp hq
  have eK : upK l (D : Int) c (plN l (D : Int) c (ρ : Int) (k : Int)) = ksL l D F W k := by
    unfold upK ksL
    rw [h2, h3, hp, hq]
    by_cases h6 : l = 6
    · rw [if_pos h6, if_pos h6, if_pos h6]; rfl
    · rw [if_neg h6, if_neg h6]; rfl
  rw [eK]; rfl
theorem up_lost (gr : Gr nn l c (ρ : Int) D F W) (hk : k < W) (hx : x.length = 32) : upE N lv l (D : Int) c (plN l (D : Int) c (ρ : Int) (k : Int)) x = srdE N lv l (D : Int) c (ρ : Int) := by
  obtain ⟨h1, h2, h3, h4⟩ := num_place gr hk
  unfold upE; rw [if_neg (by omega), if_neg (by rw [h1]; decide), h3]
end
/-! A bench on which, where it serves, a geometry's rows stand. -/
def only (N : Bch) (lv : List Bool) : Bch := { N with D := fun i => if srvD N lv i = true then N.D i else Dsk.failed }
theorem only_srv (N : Bch) (lv : List Bool) (i : Nat) : srvD (only N lv) lv i = srvD N lv i := by
  cases h : srvD N lv i with
  | true =>
    obtain ⟨h1, h2, h3⟩ := srvD_yes h
    exact srvD_mk h1 h2 (by show Dsk.f (if srvD N lv i = true then N.D i else Dsk.failed) = false; rw [if_pos h]; exact h3)
  | false =>
    refine srvD_no fun ⟨_, _, h3⟩ => ?_
    have : Dsk.f (if srvD N lv i = true then N.D i else Dsk.failed) = false := h3
    rw [if_neg (by rw [h]; decide)] at this
    cases this
theorem only_D {N : Bch} {lv : List Bool} {i : Nat} (h : srvD N lv i = true) : (only N lv).D i = N.D i := if_pos h
theorem only_ss (N : Bch) (lv : List Bool) (a D : Nat) : ssL (only N lv) lv a D = ssL N lv a D := ext_getD (by rw [ssL_len, ssL_len]) fun i hi => by
  rw [ssL_len] at hi
  rw [ssL_get hi, ssL_get hi, only_srv]
  split
  · next h => rw [only_D h]
  · rfl
theorem only_any (N : Bch) (lv : List Bool) (k : Nat) : anyS (only N lv) lv k = anyS N lv k := by
  unfold anyS; congr 1; funext i; exact only_srv N lv i
theorem only_srd (N : Bch) (lv : List Bool) (l d c r : Int) : srdE (only N lv) lv l d c r = srdE N lv l d c r ∧ srdL (only N lv) lv l d c r = srdL N lv l d c r := by
  have e : srdE (only N lv) lv l d c r = srdE N lv l d c r := by
    unfold srdE; rw [only_ss, only_any]; rfl
  refine ⟨e, ?_⟩
  unfold srdL; rw [e, only_ss]
structure Stl (N : Bch) (D : Nat) (lv : List Bool) (fl : Nat → List (List UInt8)) : Prop where
  n : N.n = D
  good : GoodB N
  at' : ∀ i, i < D → ∀ t, t < 16 → srvD N lv i = true → secAt (N.D i).now (36 + t) = (fl t).getD i []
theorem Stl.std {N : Bch} {D : Nat} {lv : List Bool} {fl : Nat → List (List UInt8)} (h : Stl N D lv fl) : Std (only N lv) D D fl := by
  refine ⟨h.n, h.good.dn, fun i hi t ht hf => ?_⟩
  have hs : srvD N lv i = true := by
    rw [← Bool.not_eq_false]
    intro e
    have : Dsk.f (if srvD N lv i = true then N.D i else Dsk.failed) = false := hf
    rw [if_neg (by rw [e]; decide)] at this
    cases this
  rw [only_D hs]
  exact h.at' i hi t ht hs
theorem Fld.stl {N : Bch} {D : Nat} {fl : Nat → List (List UInt8)} (h : Fld N D D fl 16 0) (lv : List Bool) : Stl N D lv fl :=
  ⟨h.gd.n, ⟨h.gd.dn, h.gd.lf, fun j hj => h.gd.ok j (by rw [h.gd.n] at hj; exact hj), fun j hj => h.gd.ps j (by rw [h.gd.n] at hj; exact hj)⟩, fun i hi t ht _ => h.all hi ht⟩
section
variable {N : Bch} {lv : List Bool} {nn l c : Int} {ρ D F W k : Nat} {fl : Nat → List (List UInt8)} {rs : List (List UInt8)}
theorem Stl.told (h : Stl N D lv fl) (gr : Gr nn l c (ρ : Int) D F W) (hrs : rs.length = W) (ha : ∀ x ∈ rs, x.length = 32) (hfl : fl ρ = fillL D F rs) :
    if (roTake l (D : Int) c (ρ : Int) (ssL N lv (36 + ρ) D)).isSome = true then srdE N lv l (D : Int) c (ρ : Int) = 0 ∧ srdL N lv l (D : Int) c (ρ : Int) = rs else srdE N lv l (D : Int) c (ρ : Int) = 7 ∧ srdL N lv l (D : Int) c (ρ : Int) = [] := by
  have := h.std.told gr hrs ha hfl lv
  rwa [only_ss, (only_srd N lv _ _ _ _).1, (only_srd N lv _ _ _ _).2] at this
theorem Stl.ok (h : Stl N D lv fl) (gr : Gr nn l c (ρ : Int) D F W) (hrs : rs.length = W) (ha : ∀ x ∈ rs, x.length = 32) (hfl : fl ρ = fillL D F rs) (hc : ((cntB D (fun i => !srvD N lv i) : Nat) : Int) ≤ l - 4) :
    srdE N lv l (D : Int) c (ρ : Int) = 0 ∧ srdL N lv l (D : Int) c (ρ : Int) = rs := by
  have := h.std.ok (lv := lv) gr hrs ha hfl (by rw [cntB_congr (b' := fun i => !srvD N lv i) fun i _ => by rw [only_srv]]; exact hc)
  rwa [(only_srd N lv _ _ _ _).1, (only_srd N lv _ _ _ _).2] at this
end
end Go.Proofs.Ytenkkdnepmoihaa
end
section
set_option maxRecDepth 20000
set_option linter.unusedVariables false
set_option linter.unusedSimpArgs false
namespace Go.Proofs.Ytenkkdnepmoihaa
open Go.RowKit

/-- The contract of Plan; of Do and Empty. -/
structure UpdP : Prop where
  plan : ∀ (W w : World) (b : Nat) (H : BH) (N : Bch), BP W w b H N → ∀ (lv : List Bool) (LA : Option Addr) (ln lc : Nat), ln = lv.length → RdOX (BF b H N.n) w LA lv →
    ∀ l d c n : Int, i64B l → i64B d → i64B c → i64B n → ∀ (XA : Option Addr) (xn xc : Nat) (x : List UInt8), x.length = xn → xn ≤ xc → RdB w w.heap.size XA x → ∀ s : Int, i64B s →
    (upE N lv l d c n x = 0 → fillOk l d c (plOfR l d c n) (upX N lv l d c n x) = true) →
    Calls Try.prog 10 #[.pointer (some ⟨b, 0, none⟩), .slice LA ln lc, .agg #[.int .i64 l, .int .i64 d, .int .i64 c], .int .i64 n, .slice XA xn xc, .int .i64 s] w fun e w' => ∃ A c', e = .returned (.tuple #[.agg #[.int .i64 (upS N lv l d c n x s), .slice A (upL N lv l d c n x).length c'], .int .i64 (upE N lv l d c n x)]) ∧ (upL N lv l d c n x).length ≤ c' ∧ OwIt 51 w' w.heap.size w.heap.size (.slice A (upL N lv l d c n x).length c') (upL N lv l d c n x) ∧ Below w.heap.size w w'
structure KU (W w : World) (b : Nat) (H : BH) (N : Bch) (K : List (Nat × Obj)) (R : List (Option Addr × List (List UInt8))) (S : List (Option Addr × List UInt8)) (I : List (Option Addr × List It)) : Prop where
  ks : KS W w b H N K R S
  it : ∀ p ∈ I, RdIF w (BF b H N.n) p.1 p.2
section
variable {W w w' : World} {b : Nat} {H : BH} {N : Bch} {K : List (Nat × Obj)} {R : List (Option Addr × List (List UInt8))} {S : List (Option Addr × List UInt8)} {I : List (Option Addr × List It)}
theorem KS.ku (h : KS W w b H N K R S) : KU W w b H N K R S [] := ⟨h, fun _ hp => absurd hp (by simp)⟩
theorem KU.own (h : KU W w b H N K R S I) (hb : Below w.heap.size w w') {e : TypeId} {A : Option Addr} {l : List It} {c : Nat} (ho : OwIt e w' w.heap.size w.heap.size (.slice A l.length c) l) : KU W w' b H N K R S ((A, l) :: I) := by
  refine ⟨h.ks.below hb, fun p hp => ?_⟩
  rcases List.mem_cons.1 hp with rfl | hp
  · have hF : ∀ k, w.heap.size ≤ k → ¬ BF b H N.n k := fun k hk e => by have := h.ks.flt k e; omega
    obtain ⟨A', c', e', _, hr⟩ := ho.rdF hF hF
    injection e' with e1 _ _
    rw [e1]; exact hr
  · exact (h.it p hp).below hb
section
variable (h : KS W w b H N K R S)
include h
theorem ks_plan (hu : UpdP) (lv : List Bool) (A : Option Addr) (m cp : Nat) (hm : m = lv.length) (hv : RdOX (BF b H N.n) w A lv) (l d c n : Int)
    (hl : -9223372036854775808 ≤ l ∧ l ≤ 9223372036854775807) (hd : -9223372036854775808 ≤ d ∧ d ≤ 9223372036854775807) (hc : -9223372036854775808 ≤ c ∧ c ≤ 9223372036854775807) (hn : -9223372036854775808 ≤ n ∧ n ≤ 9223372036854775807)
    (XA : Option Addr) (xn xc : Nat) (x : List UInt8) (hx : x.length = xn) (hxc : xn ≤ xc) (hr : RdB w w.heap.size XA x) (s : Int) (hs : -9223372036854775808 ≤ s ∧ s ≤ 9223372036854775807)
    (hf : upE N lv l d c n x = 0 → fillOk l d c (plOfR l d c n) (upX N lv l d c n x) = true) :
    Calls Try.prog 10 #[.pointer (some ⟨b, 0, none⟩), .slice A m cp, .agg #[.int .i64 l, .int .i64 d, .int .i64 c], .int .i64 n, .slice XA xn xc, .int .i64 s] w fun e w' => ∃ A' c', e = .returned (.tuple #[.agg #[.int .i64 (upS N lv l d c n x s), .slice A' (upL N lv l d c n x).length c'], .int .i64 (upE N lv l d c n x)]) ∧ (upL N lv l d c n x).length ≤ c' ∧ KU W w' b H N K R S [(A', upL N lv l d c n x)] ∧ Below w.heap.size w w' := by
  refine (hu.plan W w b H N h.bp lv A m cp hm hv l d c n hl hd hc hn XA xn xc x hx hxc hr s hs hf).mono ?_
  rintro e w' ⟨A', c', rfl, hcc, ho, hb⟩
  exact ⟨A', c', rfl, hcc, h.ku.own hb ho, hb⟩
end
end
end Go.Proofs.Ytenkkdnepmoihaa
end
section
set_option linter.unusedVariables false
set_option linter.unusedSimpArgs false
namespace Go.Proofs.Ytenkkdnepmoihaa

/-- The rows of these data. -/
def flG (l c : Int) (D : Nat) (ds : Nat → List (List UInt8)) : Nat → List (List UInt8) := fun t => fillL D (roF l (D : Int) c (t : Int)) (ds t)
structure Dat (W : Nat) (ds : Nat → List (List UInt8)) : Prop where
  len : ∀ t, (ds t).length = W
  m : ∀ t, ∀ x ∈ ds t, x.length = 32
theorem dat_rows (zs : List Int) (W : Nat) : Dat W (fun t => datL zs t W) := ⟨fun t => datL_len zs t W, fun t => datL_mem⟩
/-- Each sector's number is one of a row's. -/
theorem num_of {nn l c : Int} {r : Int} {D F W : Nat} (gr : Gr nn l c r D F W) {n : Int} (h0 : 0 ≤ n) (h1 : n < gCap l (D : Int) c) : ∃ ρ k : Nat, ρ < 16 ∧ k < W ∧ n = plN l (D : Int) c (ρ : Int) (k : Int) ∧ plOfR l (D : Int) c n = (ρ : Int) ∧ plOfD l (D : Int) c n = ((roS D (roF l (D : Int) c (ρ : Int)) k : Nat) : Int) := by
  have hg := (plOk_yes gr.ok).1
  have hwd := gr.wd
  have hw : gWid l (D : Int) c = (D : Int) - (l - 4) := gWid_yes hg
  obtain ⟨r0, r1, k0, k1, _, hN⟩ := of_row hg h0 h1
  obtain ⟨ρ, hρ⟩ := Int.eq_ofNat_of_zero_le r0
  obtain ⟨k, hk⟩ := Int.eq_ofNat_of_zero_le k0
  rw [hρ, hk] at hN
  have hk' : k < W := by omega
  have hρ' : ρ < 16 := by omega
  obtain ⟨_, p2, p3, _⟩ := num_place (gr.at hρ') hk'
  rw [hN] at p2 p3
  exact ⟨ρ, k, hρ', hk', hN.symm, p3, p2⟩
structure Arr (N : Bch) (D : Nat) (lv : List Bool) (l c : Int) (W : Nat) (ds : Nat → List (List UInt8)) : Prop where
  st : Stl N D lv (flG l c D ds)
  da : Dat W ds
theorem Fld.arr {N : Bch} {D : Nat} {l c : Int} {W : Nat} {zs : List Int} (h : Fld N D D (rowL l c D W zs) 16 0) (lv : List Bool) : Arr N D lv l c W (fun t => datL zs t W) := ⟨h.stl lv, dat_rows zs W⟩
section
variable {N : Bch} {D : Nat} {lv : List Bool} {nn l c r : Int} {F W ρ k : Nat} {ds : Nat → List (List UInt8)} {x : List UInt8} {s : Int}
theorem Arr.ok (h : Arr N D lv l c W ds) (gr : Gr nn l c r D F W) (hρ : ρ < 16) (hc : ((cntB D (fun i => !srvD N lv i) : Nat) : Int) ≤ l - 4) : srdE N lv l (D : Int) c (ρ : Int) = 0 ∧ srdL N lv l (D : Int) c (ρ : Int) = ds ρ :=
  h.st.ok (gr.at hρ) (h.da.len ρ) (h.da.m ρ) rfl hc
theorem Arr.told (h : Arr N D lv l c W ds) (gr : Gr nn l c r D F W) (hρ : ρ < 16) : (srdE N lv l (D : Int) c (ρ : Int) = 0 ∧ srdL N lv l (D : Int) c (ρ : Int) = ds ρ) ∨ (srdE N lv l (D : Int) c (ρ : Int) = 7 ∧ srdL N lv l (D : Int) c (ρ : Int) = []) := by
  have := h.st.told (gr.at hρ) (h.da.len ρ) (h.da.m ρ) rfl
  split at this
  · exact .inl this
  · exact .inr this
/-- What Plan wants of Fill. -/
theorem Arr.fok (h : Arr N D lv l c W ds) (gr : Gr nn l c r D F W) (hx : x.length = 32) {n : Int} (he : upE N lv l (D : Int) c n x = 0) : fillOk l (D : Int) c (plOfR l (D : Int) c n) (upX N lv l (D : Int) c n x) = true := by
  have hn : plOfOk l (D : Int) c n = true := by
    rw [← Bool.not_eq_false]; intro e
    unfold upE at he; rw [if_neg (by omega), if_pos e] at he; cases he
  obtain ⟨h0, h1⟩ := plOfOk_yes hn
  obtain ⟨ρ, k, hρ, hk, rfl, hR, _⟩ := num_of gr h0 h1
  have hE : srdE N lv l (D : Int) c (ρ : Int) = 0 := by rw [← up_lost (gr.at hρ) hk hx]; exact he
  rcases h.told gr hρ with q | q
  · rw [(up_at (gr.at hρ) hk hx q).2.2, hR]
    exact (gr.at hρ).fok (by rw [List.length_set]; exact h.da.len ρ) (set_32 (h.da.m ρ) hx)
  · rw [hE] at q; cases q.1
end
end Go.Proofs.Ytenkkdnepmoihaa
end
