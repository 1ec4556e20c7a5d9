/- Texts put together: RbdRun, RbdStd. -/
import Derived.Test.YtadmofpipfdedaaRqbf
import Derived.Test.YtadmofpipfdedaaRqay
import Derived.Test.YtadmofpipfdedaaRqbe
import Derived.Test.YtadmofpipfdedaaRqai
section
set_option linter.unusedVariables false
set_option linter.unusedSimpArgs false
namespace Go.Proofs.Ytadmofpipfdedaa

/-- A sector of a row that the disk is in. -/
def inK (G : RG) (k j : Nat) : Prop := ∃ t, t < 16 ∧ (k : Int) < G.D t ∧ j = 36 + t
/-- A disk on which nothing but such sectors is not zeros. -/
structure OutK (G : RG) (k : Nat) (D : Dsk) : Prop where
  ok : D.Ok
  z : ∀ j, j < 52 → ¬ inK G k j → secAt D.S j = zeroL 32
  p : ∀ q ∈ D.ps, inK G k q.1
theorem lastOf_off {ps : List (Nat × List UInt8)} {j : Nat} (h : ∀ q ∈ ps, q.1 ≠ j) : lastOf ps j = none := by
  induction ps with
  | nil => rfl
  | cons p ps ih =>
    rw [lastOf_cons, ih (fun q hq => h q (List.mem_cons_of_mem _ hq))]
    simp only [if_neg (h p (List.mem_cons_self ..))]
theorem nowOf_off {S : List UInt8} {ps : List (Nat × List UInt8)} (hS : S.length = 1664) (hw : WOk ps) {j : Nat} (hj : j < 52) (h : ∀ q ∈ ps, q.1 ≠ j) : secAt (nowOf S ps) j = secAt S j := by
  rw [nowOf_sec hS hw j hj, lastOf_off h]; rfl
theorem keptOf_sub : ∀ {ps : List (Nat × List UInt8)} {ks : List Bool} {q : Nat × List UInt8}, q ∈ keptOf ps ks → q ∈ ps
  | [], _, _, h => by rw [keptOf_zero] at h; cases h
  | _ :: _, [], _, h => by rw [keptOf_nil] at h; cases h
  | p :: ps, k :: ks, q, h => by
    unfold keptOf at h
    split at h
    · rcases List.mem_cons.1 h with rfl | h
      · exact List.mem_cons_self ..
      · exact List.mem_cons_of_mem _ (keptOf_sub h)
    · exact List.mem_cons_of_mem _ (keptOf_sub h)
section
variable {G : RG} {k : Nat} {D : Dsk}
theorem OutK.now (h : OutK G k D) {j : Nat} (hj : j < 52) (hn : ¬ inK G k j) : secAt D.now j = zeroL 32 := by
  unfold Dsk.now
  rw [nowOf_off h.ok.S h.ok.ps hj (fun q hq e => hn (by rw [← e]; exact h.p q hq))]
  exact h.z j hj hn
theorem OutK.write (h : OutK G k D) {a : Nat} {x : List UInt8} (ha : a < 52) (hx : x.length = 32) (hi : inK G k a) : OutK G k (D.write a x) := ⟨h.ok.write ha hx, h.z, fun q hq => by
  rcases List.mem_append.1 hq with hq | hq
  · exact h.p q hq
  · rw [List.mem_singleton.1 hq]; exact hi⟩
theorem OutK.flush (h : OutK G k D) : OutK G k D.flush := ⟨h.ok.flush, fun j hj hn => h.now hj hn, fun q hq => by cases hq⟩
theorem OutK.crash (h : OutK G k D) (ks : List Bool) : OutK G k (D.crash ks) := ⟨h.ok.crash ks, fun j hj hn => by
  show secAt (nowOf D.S (keptOf D.ps ks)) j = _
  rw [nowOf_off h.ok.S h.ok.ps.kept hj (fun q hq e => hn (by rw [← e]; exact h.p q (keptOf_sub hq)))]
  exact h.z j hj hn, fun q hq => by cases hq⟩
theorem OutK.new : OutK G k Dsk.new := ⟨Dsk.new_ok, fun j hj _ => sec_zeroS hj, fun q hq => by cases hq⟩
end
theorem srd_congr {N M : Bch} {lv : List Bool} (hd : M.down = N.down) (hs : ∀ i, srvD M lv i = srvD N lv i) (hD : ∀ i, srvD N lv i = true → M.D i = N.D i) (l d c r : Int) : srdE M lv l d c r = srdE N lv l d c r ∧ srdL M lv l d c r = srdL N lv l d c r := by
  have e1 : ∀ a D, ssL M lv a D = ssL N lv a D := fun a D => ext_getD (by rw [ssL_len, ssL_len]) fun i hi => by
    rw [ssL_len] at hi
    rw [ssL_get hi, ssL_get hi, hs i]
    split
    · next h => rw [hD i h]
    · rfl
  have e2 : ∀ k, anyS M lv k = anyS N lv k := fun k => by
    unfold anyS; congr 1; funext i; exact hs i
  have e : srdE M lv l d c r = srdE N lv l d c r := by
    unfold srdE; rw [hd, e1, e2]
  refine ⟨e, ?_⟩
  unfold srdL; rw [e, e1]
/-- A row as it stands. -/
def flR (G : RG) (rs : Nat → List (List UInt8)) (t : Nat) : List (List UInt8) := fillL (roD (G.D t)) (roF (G.L t) (G.D t) (G.C t) (t : Int)) (rs t)
structure RbH (N : Bch) (lv : List Bool) (G : RG) (k : Nat) (rs : Nat → List (List UInt8)) : Prop where
  n : k < N.n
  dn : N.down = false
  f : (N.D k).f = false
  lk : lv.getD k false = false
  fok : ∀ t, t < 16 → fillOk (G.L t) (G.D t) (G.C t) (t : Int) (rs t) = true
  rd : ∀ t, t < 16 → (k : Int) < G.D t → (srdE N lv (G.L t) (G.D t) (G.C t) (t : Int) = 0 ∧ srdL N lv (G.L t) (G.D t) (G.C t) (t : Int) = rs t) ∨ srdE N lv (G.L t) (G.D t) (G.C t) (t : Int) = 7
  out : OutK G k (N.D k)
structure RbI (N M : Bch) (G : RG) (k : Nat) : Prop where
  n : M.n = N.n
  o : ∀ i, i ≠ k → M.D i = N.D i
  f : (M.D k).f = false
  out : OutK G k (M.D k)
  lf : N.left = -1 → M.left = -1
def RbZ (M : Bch) (G : RG) (k : Nat) (rs : Nat → List (List UInt8)) (r : Nat) : Prop := M.down = false ∧ ∀ t, t < r → (k : Int) < G.D t → secAt (M.D k).now (36 + t) = (flR G rs t).getD k []
section
variable {N : Bch} {lv : List Bool} {G : RG} {k : Nat} {rs : Nat → List (List UInt8)}
theorem srv_k {M : Bch} (hl : lv.getD k false = false) : srvD M lv k = false := srvD_no fun e => by rw [hl] at e; cases e.2.1
theorem RbI.srv {M : Bch} (h : RbI N M G k) (hl : lv.getD k false = false) (i : Nat) : srvD M lv i = srvD N lv i := by
  by_cases e : i = k
  · subst e; rw [srv_k hl, srv_k hl]
  · exact srvD_congr h.n (by rw [h.o i e])
theorem RbI.srd {M : Bch} (h : RbI N M G k) (hl : lv.getD k false = false) (hd : M.down = N.down) (l d c r : Int) : srdE M lv l d c r = srdE N lv l d c r ∧ srdL M lv l d c r = srdL N lv l d c r :=
  srd_congr hd (h.srv hl) (fun i hi => h.o i (fun e => by subst e; rw [srv_k hl] at hi; cases hi)) l d c r
/-- A write with power, as far as it is there. -/
theorem write_or {M : Bch} {d a : Nat} {x : List UInt8} (hd : d < M.n) (ha : a < 52) (hx : x.length = 32) (hf : (M.D d).f = false) (hdn : M.down = false) :
    (M.writeE (d : Int) (a : Int) x.length = 0 ∧ (M.write (d : Int) (a : Int) x).n = M.n ∧ (M.write (d : Int) (a : Int) x).D = upd M.D d ((M.D d).write a x) ∧ (M.write (d : Int) (a : Int) x).down = false ∧ (M.left = -1 → (M.write (d : Int) (a : Int) x).left = -1)) ∨
    (M.writeE (d : Int) (a : Int) x.length = 6 ∧ (M.write (d : Int) (a : Int) x).n = M.n ∧ (M.write (d : Int) (a : Int) x).D = M.D ∧ (M.write (d : Int) (a : Int) x).down = true ∧ M.left = 0) := by
  by_cases h0 : M.left = 0
  · right
    have hp : M.powE (d : Int) = 0 := Bch.powE_ok (Bch.pickE_ok (by omega) (by omega)) hdn
    have ht : takeE (M.at_ (d : Int)).f (a : Int) x.length = 0 := by
      rw [hx, show (M.at_ (d : Int)).f = false from hf]; exact takeE_ok (by omega) (by omega)
    have hw : M.write (d : Int) (a : Int) x = M.count := by
      unfold Bch.write
      rw [if_neg (show ¬ M.powE (d : Int) ≠ 0 by simp [hp]), if_neg (fun e => e ht), if_pos h0]
    have hc : M.count = { M with down := true } := if_pos h0
    refine ⟨?_, ?_, ?_, ?_, h0⟩
    · unfold Bch.writeE Bch.countE
      rw [if_neg (show ¬ M.powE (d : Int) ≠ 0 by simp [hp]), if_neg (fun e => e ht), if_pos h0]
    · rw [hw, hc]
    · rw [hw, hc]
    · rw [hw, hc]
  · left
    obtain ⟨h1, h2⟩ := Bch.write_ok hd ha hx hf hdn h0
    have hc : ((M.set d ((M.D d).write a x)).count) = { M.set d ((M.D d).write a x) with done := (M.set d ((M.D d).write a x)).done + 1, left := if (M.set d ((M.D d).write a x)).left = -1 then -1 else (M.set d ((M.D d).write a x)).left - 1 } := if_neg (show ¬ (M.set d ((M.D d).write a x)).left = 0 from h0)
    refine ⟨h1, ?_, ?_, ?_, fun hl => ?_⟩
    · rw [h2, hc]; rfl
    · rw [h2, hc]; rfl
    · rw [h2, hc]; exact hdn
    · rw [h2, hc]; exact if_pos hl
theorem rb_run (h : RbH N lv G k rs) : ∀ r, r ≤ 16 → RbI N (rbTo lv G k N r).2 G k ∧ (((rbTo lv G k N r).1 = 0 ∧ RbZ (rbTo lv G k N r).2 G k rs r) ∨ ((rbTo lv G k N r).1 = 6 ∧ (rbTo lv G k N r).2.down = true ∧ N.left ≠ -1) ∨
    ((rbTo lv G k N r).1 = 7 ∧ (rbTo lv G k N r).2.down = false ∧ ∃ t, t < 16 ∧ (k : Int) < G.D t ∧ srdE N lv (G.L t) (G.D t) (G.C t) (t : Int) = 7))
  | 0, _ => ⟨⟨rfl, fun _ _ => rfl, h.f, h.out, fun e => e⟩, .inl ⟨rfl, h.dn, fun t ht => by omega⟩⟩
  | r + 1, hr => by
    obtain ⟨I, hc⟩ := rb_run h r (by omega)
    rcases hc with ⟨h0, hz⟩ | hc | hc
    · by_cases hd : G.D r ≤ (k : Int)
      · rw [rbTo_skip h0 hd]
        exact ⟨I, .inl ⟨h0, hz.1, fun t ht hk => hz.2 t (by
          by_cases e : t = r
          · subst e; omega
          · omega) hk⟩⟩
      · rw [rbTo_goes h0 hd]
        have hkd : (k : Int) < G.D r := by omega
        have hs := I.srd h.lk (hz.1.trans h.dn.symm) (G.L r) (G.D r) (G.C r) (r : Int)
        generalize (rbTo lv G k N r).2 = M at I hz hs
        rcases h.rd r (by omega) hkd with ⟨e1, e2⟩ | e7
        · have hfok := h.fok r (by omega)
          have hx : rbRow M lv (G.L r) (G.D r) (G.C r) r k = (flR G rs r).getD k [] := by
            unfold rbRow flR; rw [hs.2, e2]
          have h32 : ((flR G rs r).getD k []).length = 32 := fill_32 hfok (by unfold roD; omega)
          have hre : renS M lv (G.L r) (G.D r) (G.C r) r k = (M.writeE (k : Int) ((36 + r : Nat) : Int) ((flR G rs r).getD k []).length, M.write (k : Int) ((36 + r : Nat) : Int) ((flR G rs r).getD k [])) := by
            unfold renS
            rw [if_neg (by rw [hs.1, e1]; simp), hx]
          rw [hre]
          generalize hxx : (flR G rs r).getD k [] = x at h32
          have hin : inK G k (36 + r) := ⟨r, by omega, hkd, rfl⟩
          rcases write_or (d := k) (a := 36 + r) (by rw [I.n]; exact h.n) (by omega) h32 I.f hz.1 with ⟨w1, w2, w3, w4, w5⟩ | ⟨w1, w2, w3, w4, w5⟩
          · refine ⟨⟨w2.trans I.n, fun i hi => ?_, ?_, ?_, fun e => w5 (I.lf e)⟩, .inl ⟨w1, w4, fun t ht hk => ?_⟩⟩
            · show (M.write _ _ _).D i = _
              rw [w3, upd_other _ _ hi]; exact I.o i hi
            · show ((M.write _ _ _).D k).f = _
              rw [w3, upd_same]; exact I.f
            · show OutK G k ((M.write _ _ _).D k)
              rw [w3, upd_same]; exact I.out.write (by omega) h32 hin
            · show secAt ((M.write _ _ _).D k).now _ = _
              rw [w3, upd_same, Dsk.write_now]
              by_cases e : t = r
              · subst e; rw [sec_put_same I.out.ok.now (by omega) h32]; exact hxx.symm
              · rw [sec_put_other I.out.ok.now (by omega) h32 (by omega)]; exact hz.2 t (by omega) hk
          · refine ⟨⟨w2.trans I.n, fun i hi => ?_, ?_, ?_, fun e => ?_⟩, .inr (.inl ⟨w1, w4, fun e => ?_⟩)⟩
            · show (M.write _ _ _).D i = _
              rw [w3]; exact I.o i hi
            · show ((M.write _ _ _).D k).f = _
              rw [w3]; exact I.f
            · show OutK G k ((M.write _ _ _).D k)
              rw [w3]; exact I.out
            · have := I.lf e; omega
            · have := I.lf e; omega
        · have hre : renS M lv (G.L r) (G.D r) (G.C r) r k = (7, M) := by
            unfold renS
            rw [hs.1, e7]; rfl
          rw [hre]
          exact ⟨I, .inr (.inr ⟨rfl, hz.1, r, by omega, hkd, e7⟩)⟩
    · have hst := rbTo_stop (lv := lv) (G := G) (dd := k) (N := N) (r := r) (by rw [hc.1]; decide) (r + 1) (by omega)
      rw [hst]
      exact ⟨I, .inr (.inl hc)⟩
    · have hst := rbTo_stop (lv := lv) (G := G) (dd := k) (N := N) (r := r) (by rw [hc.1]; decide) (r + 1) (by omega)
      rw [hst]
      exact ⟨I, .inr (.inr hc)⟩
theorem rb_fok (h : RbH N lv G k rs) : RbF N lv G k := fun r hr hk h0 hE => by
  obtain ⟨I, hc⟩ := rb_run h r (by omega)
  rcases hc with ⟨_, hz⟩ | hc | hc
  · have hs := I.srd h.lk (hz.1.trans h.dn.symm) (G.L r) (G.D r) (G.C r) (r : Int)
    rw [hs.1] at hE
    rw [hs.2]
    rcases h.rd r hr hk with ⟨_, e2⟩ | e7
    · rw [e2]; exact h.fok r hr
    · omega
  · rw [h0] at hc; cases hc.1
  · rw [h0] at hc; cases hc.1
/-- What Disk leaves. -/
theorem rb_all (h : RbH N lv G k rs) (hG : G.ok = true) : RbI N (rbS N lv (k : Int) G).2 G k ∧ (((rbS N lv (k : Int) G).1 = 0 ∧ RbZ (rbS N lv (k : Int) G).2 G k rs 16 ∧ ((rbS N lv (k : Int) G).2.D k).ps = []) ∨ ((rbS N lv (k : Int) G).1 = 6 ∧ (rbS N lv (k : Int) G).2.down = true ∧ N.left ≠ -1) ∨
    ((rbS N lv (k : Int) G).1 = 7 ∧ (rbS N lv (k : Int) G).2.down = false ∧ ∃ t, t < 16 ∧ (k : Int) < G.D t ∧ srdE N lv (G.L t) (G.D t) (G.C t) (t : Int) = 7)) := by
  have hn := h.n
  have hpk : N.pickE (k : Int) = 0 := Bch.pickE_ok (by omega) (by omega)
  have ha : alvD N.n lv (k : Int) = false := by rw [alvD_nat, h.lk, Bool.and_false]
  have e : rbS N lv (k : Int) G = if (rbTo lv G k N 16).1 ≠ 0 then rbTo lv G k N 16 else ((rbTo lv G k N 16).2.flushE (k : Int), (rbTo lv G k N 16).2.flush (k : Int)) := by
    unfold rbS
    rw [if_neg (by rw [hpk, ha, hG]; simp), Int.toNat_natCast, if_neg (by rw [h.f]; simp)]
  rw [e]
  obtain ⟨I, hc⟩ := rb_run h 16 (Nat.le_refl _)
  rcases hc with ⟨h0, hz⟩ | hc | hc
  · rw [if_neg (by rw [h0]; simp)]
    generalize (rbTo lv G k N 16).2 = M at I hz
    have hpw : M.powE (k : Int) = 0 := Bch.powE_ok (Bch.pickE_ok (by omega) (by rw [I.n]; omega)) hz.1
    have hfE : M.flushE (k : Int) = 0 := by
      unfold Bch.flushE
      rw [if_neg (by rw [hpw]; simp), if_neg (by rw [show (M.at_ (k : Int)).f = false from I.f]; decide)]
    have hfl : M.flush (k : Int) = M.set k (M.D k).flush := by
      unfold Bch.flush
      rw [if_neg (by rw [hpw]; simp)]
      show M.set k (M.D k).flushE = _
      unfold Dsk.flushE
      rw [I.f]; rfl
    rw [hfE, hfl]
    refine ⟨⟨I.n, fun i hi => ?_, ?_, ?_, I.lf⟩, .inl ⟨rfl, ⟨hz.1, fun t ht hk => ?_⟩, ?_⟩⟩
    · show upd M.D k _ i = _
      rw [upd_other _ _ hi]; exact I.o i hi
    · show (upd M.D k _ k).f = _
      rw [upd_same]; exact I.f
    · show OutK G k (upd M.D k _ k)
      rw [upd_same]; exact I.out.flush
    · show secAt (upd M.D k _ k).now _ = _
      rw [upd_same, Dsk.flush_now]; exact hz.2 t ht hk
    · show (upd M.D k _ k).ps = []
      rw [upd_same]; rfl
  · rw [if_pos (by rw [hc.1]; decide)]
    exact ⟨I, .inr (.inl hc)⟩
  · rw [if_pos (by rw [hc.1]; decide)]
    exact ⟨I, .inr (.inr hc)⟩
end
end Go.Proofs.Ytadmofpipfdedaa
end
section
set_option linter.unusedVariables false
set_option linter.unusedSimpArgs false
namespace Go.Proofs.Ytadmofpipfdedaa

section
variable {N : Bch} {lv : List Bool} {nn l c : Int} {t D F W : Nat} {rs : List (List UInt8)}
/-- One row of a bench, seen as if all stood. -/
def oneL (N : Bch) (lv : List Bool) (D t : Nat) (x : List (List UInt8)) (t' : Nat) : List (List UInt8) := if t' = t then x else (List.range D).map fun i => secAt ((only N lv).D i).now (36 + t')
theorem row_std (hd : N.down = false) (hst : ∀ i, i < D → srvD N lv i = true → secAt (N.D i).now (36 + t) = (fillL D F rs).getD i []) : Std (only N lv) N.n D (oneL N lv D t (fillL D F rs)) :=
  ⟨rfl, hd, fun i hi t' ht' hf => by
    have hs : srvD N lv i = true := by
      rw [← Bool.not_eq_false]
      intro e
      have : Dsk.f (if srvD N lv i = true then N.D i else Dsk.failed) = false := hf
      rw [if_neg (by rw [e]; decide)] at this
      cases this
    unfold oneL
    by_cases e : t' = t
    · subst e; rw [if_pos rfl, only_D hs]; exact hst i hi hs
    · rw [if_neg e]; simp [List.getD_eq_getElem?_getD, hi]⟩
theorem row_or (hd : N.down = false) (gr : Gr nn l c (t : Int) D F W) (hrs : rs.length = W) (ha : ∀ x ∈ rs, x.length = 32) (hst : ∀ i, i < D → srvD N lv i = true → secAt (N.D i).now (36 + t) = (fillL D F rs).getD i []) :
    (srdE N lv l (D : Int) c (t : Int) = 0 ∧ srdL N lv l (D : Int) c (t : Int) = rs) ∨ srdE N lv l (D : Int) c (t : Int) = 7 := by
  have h := (row_std (F := F) (rs := rs) hd hst).told gr hrs ha (if_pos rfl) lv
  rw [only_ss, (only_srd N lv _ _ _ _).1, (only_srd N lv _ _ _ _).2] at h
  split at h
  · exact .inl h
  · exact .inr h.1
theorem row_ok (hd : N.down = false) (gr : Gr nn l c (t : Int) D F W) (hrs : rs.length = W) (ha : ∀ x ∈ rs, x.length = 32) (hst : ∀ i, i < D → srvD N lv i = true → secAt (N.D i).now (36 + t) = (fillL D F rs).getD i [])
    (hc : ((cntB D (fun i => !srvD N lv i) : Nat) : Int) ≤ l - 4) : srdE N lv l (D : Int) c (t : Int) = 0 ∧ srdL N lv l (D : Int) c (t : Int) = rs := by
  have h := (row_std (F := F) (rs := rs) hd hst).ok (lv := lv) gr hrs ha (if_pos rfl) (by rw [cntB_congr (b' := fun i => !srvD N lv i) fun i _ => by rw [only_srv]]; exact hc)
  rwa [(only_srd N lv _ _ _ _).1, (only_srd N lv _ _ _ _).2] at h
end
/-- Rows that may be, of each geometry. -/
def RowsOk (G : RG) (rs : Nat → List (List UInt8)) : Prop := ∀ t, t < 16 → (rs t).length = roW (G.L t) (G.D t) ∧ ∀ x ∈ rs t, x.length = 32
theorem rows_dat (G : RG) (zs : List Int) : RowsOk G (fun t => datL zs t (roW (G.L t) (G.D t))) := fun t _ => ⟨datL_len _ _ _, datL_mem⟩
def StR (N : Bch) (lv : List Bool) (G : RG) (rs : Nat → List (List UInt8)) : Prop := ∀ t, t < 16 → ∀ i : Nat, (i : Int) < G.D t → srvD N lv i = true → secAt (N.D i).now (36 + t) = (flR G rs t).getD i []
section
variable {N : Bch} {lv : List Bool} {G : RG} {k : Nat} {rs : Nat → List (List UInt8)}
theorem flR_at {t D : Nat} (hD : G.D t = (D : Int)) : flR G rs t = fillL D (roF (G.L t) (D : Int) (G.C t) (t : Int)) (rs t) := by
  unfold flR
  rw [hD]
  unfold roD
  rw [Int.toNat_natCast]
theorem rbh_of (hG : G.ok = true) (hn : k < N.n) (hd : N.down = false) (hf : (N.D k).f = false) (hl : lv.getD k false = false) (hr : RowsOk G rs) (hs : StR N lv G rs) (ho : OutK G k (N.D k)) : RbH N lv G k rs := by
  refine ⟨hn, hd, hf, hl, fun t ht => ?_, fun t ht hk => ?_, ho⟩
  · obtain ⟨D, hD, gr⟩ := RG.gr hG ht
    obtain ⟨h1, h2⟩ := hr t ht
    rw [hD] at h1 gr ⊢
    exact gr.fok h1 h2
  · obtain ⟨D, hD, gr⟩ := RG.gr hG ht
    obtain ⟨h1, h2⟩ := hr t ht
    have hst := hs t ht
    rw [flR_at hD] at hst
    rw [hD] at h1 gr hst ⊢
    exact row_or hd gr h1 h2 (fun i hi hs => hst i (by omega) hs)
theorem rb_told (hG : G.ok = true) (hd : N.down = false) (hr : RowsOk G rs) (hs : StR N lv G rs) {t : Nat} (ht : t < 16) (hc : ((cntB (G.D t).toNat (fun i => !srvD N lv i) : Nat) : Int) ≤ G.L t - 4) : srdE N lv (G.L t) (G.D t) (G.C t) (t : Int) = 0 := by
  obtain ⟨D, hD, gr⟩ := RG.gr hG ht
  obtain ⟨h1, h2⟩ := hr t ht
  have hst := hs t ht
  rw [flR_at hD] at hst
  rw [hD] at h1 gr hst hc ⊢
  rw [Int.toNat_natCast] at hc
  exact (row_ok hd gr h1 h2 (fun i hi hs => hst i (by omega) hs) hc).1
theorem cnt_two {D d e : Nat} (hn : D ≤ N.n) (hf : ∀ i, i < D → (N.D i).f = false) (hl : ∀ i, i < D → i ≠ d → i ≠ e → lv.getD i false = true) : cntB D (fun i => !srvD N lv i) ≤ 2 := by
  have h : cntB D (fun i => !srvD N lv i) ≤ cntB D (fun i => decide (i = d) || decide (i = e)) := by
    unfold cntB
    refine len_le_map (f := id) (List.nodup_range.filter _) (fun a _ b _ e => e) fun i hi => ?_
    obtain ⟨h1, h2⟩ := List.mem_filter.1 hi
    have h1' := List.mem_range.1 h1
    refine List.mem_filter.2 ⟨h1, ?_⟩
    show (decide (i = d) || decide (i = e)) = true
    by_cases e1 : i = d
    · rw [decide_eq_true e1]; rfl
    · by_cases e2 : i = e
      · rw [decide_eq_true e2]; simp
      · rw [srvD_mk (by omega) (hl i h1' e1 e2) (hf i h1')] at h2; cases h2
  have h2 := cntB_or D (fun i => decide (i = d)) (fun i => decide (i = e))
  have h3 := cntB_one_le D d
  have h4 := cntB_one_le D e
  omega
/-- Zeros stand on a new bench. -/
def zerR (G : RG) (t : Nat) : List (List UInt8) := List.replicate (roW (G.L t) (G.D t)) (zeroL 32)
theorem rows_zer (G : RG) : RowsOk G (zerR G) := fun t _ => ⟨List.length_replicate .., rep_mem⟩
theorem zerR_fl (hG : G.ok = true) {t i : Nat} (ht : t < 16) (hi : (i : Int) < G.D t) : (flR G (zerR G) t).getD i [] = zeroL 32 := by
  obtain ⟨D, hD, gr⟩ := RG.gr hG ht
  rw [flR_at hD]
  unfold zerR
  rw [hD] at hi gr ⊢
  have e : roW (G.L t) (D : Int) = roW (G.L t) (D : Int) := rfl
  exact zeros_fill gr.hF gr.w1 (by rcases gr.lv with h | h <;> omega) (by omega)
theorem zer_st (hG : G.ok = true) (h : ∀ i, srvD N lv i = true → ∀ j, 36 ≤ j → j < 52 → secAt (N.D i).now j = zeroL 32) : StR N lv G (zerR G) := fun t ht i hi hs => by
  rw [zerR_fl hG ht hi]; exact h i hs _ (by omega) (by omega)
end
end Go.Proofs.Ytadmofpipfdedaa
end
