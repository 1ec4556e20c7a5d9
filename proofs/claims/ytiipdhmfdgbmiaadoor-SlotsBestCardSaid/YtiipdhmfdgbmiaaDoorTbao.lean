/- Texts put together: DskLeft, Off, SupDec. -/
import Derived.Test.YtiipdhmfdgbmiaaDoorTbal
import Derived.Test.YtiipdhmfdgbmiaaDoorTbab
import Derived.Test.YtiipdhmfdgbmiaaDoorTbai
import Derived.Test.YtiipdhmfdgbmiaaDoorTbam
import Derived.Test.YtiipdhmfdgbmiaaDoorTbaf
section
namespace Go.Proofs.YtiipdhmfdgbmiaaDoor
open Go.RowKit

theorem wrap_bd (x : Int) : -9223372036854775808 ≤ wrap64 x ∧ wrap64 x ≤ 9223372036854775807 := by
  have := IntKind.wrap_i64 x
  unfold wrap64
  omega
theorem keptOf_snoc : ∀ (ps : List (Nat × List UInt8)) (p : Nat × List UInt8) (ks : List Bool), keptOf (ps ++ [p]) ks = keptOf ps ks ++ (if ks.getD ps.length false = true then [p] else [])
  | [], p, [] => by simp [keptOf]
  | [], p, k :: ks => by cases k <;> simp [keptOf]
  | q :: ps, p, [] => by simp [keptOf]
  | q :: ps, p, k :: ks => by
    have ih := keptOf_snoc ps p ks
    show (if k then q :: keptOf (ps ++ [p]) ks else keptOf (ps ++ [p]) ks) = (if k then q :: keptOf ps ks else keptOf ps ks) ++ _
    rw [ih]
    cases k <;> simp
/-- Sector k behind a crash that keeps ks. -/
def Dsk.left (D : Dsk) (ks : List Bool) (k : Nat) : List UInt8 := secAt (D.crash ks).S k
theorem left_write {D : Dsk} (h : D.Ok) {k : Nat} {x : List UInt8} (hk : k < 52) (hx : x.length = 32) (ks : List Bool) : (D.write k x).left ks k = if ks.getD D.ps.length false = true then x else D.left ks k := by
  unfold Dsk.left Dsk.crash Dsk.write
  simp only []
  rw [keptOf_snoc]
  split
  · rw [nowOf_append]
    show secAt (putAt (nowOf D.S (keptOf D.ps ks)) k x) k = x
    exact sec_put_same (nowOf_len h.S h.ps.kept) hk hx
  · rw [List.append_nil]
theorem left_first (k : Nat) (x : List UInt8) (hk : k < 52) (hx : x.length = 32) (ks : List Bool) : ((Dsk.new.write k x).flush).left ks k = x := by
  show secAt (putAt zeroS k x) k = x
  exact sec_put_same zeroS_len hk hx
end Go.Proofs.YtiipdhmfdgbmiaaDoor
end
section
namespace Go.Proofs.YtiipdhmfdgbmiaaDoor
open Go.RowKit

theorem write_sec {D : Dsk} (h : D.Ok) {k : Nat} {x : List UInt8} (hk : k < 52) (hx : x.length = 32) : secAt (D.write k x).now k = x := by
  rw [Dsk.write_now]; exact sec_put_same h.now hk hx
theorem wrE {D : Dsk} {k : Nat} {x : List UInt8} (hf : D.f = false) (hk : k < 52) (hx : x.length = 32) : takeE D.f (k : Int) 32 = 0 ∧ D.writeE (k : Int) x = D.write k x := by
  have h := takeE_ok (k := (k : Int)) (by omega) (by omega)
  rw [← hf] at h
  refine ⟨h, ?_⟩
  unfold Dsk.writeE
  rw [hx, if_pos h]
  rfl
theorem rdE {D : Dsk} {k : Nat} (hf : D.f = false) (hk : k < 52) : reachE D.f (k : Int) = 0 ∧ D.readE (k : Int) = secAt D.now k := by
  have h := reachE_ok (k := (k : Int)) (by omega) (by omega)
  rw [← hf] at h
  refine ⟨h, ?_⟩
  unfold Dsk.readE
  rw [if_pos h]
  rfl
theorem flE {D : Dsk} (hf : D.f = false) : (if D.f = true then (5 : Int) else 0) = 0 ∧ D.flushE = D.flush := by
  unfold Dsk.flushE
  rw [hf]
  exact ⟨rfl, rfl⟩
def Off (v : Value) (b : Nat) (pv : Value) : Prop := ∀ k, v.ownBlock = some k → ¬ DF b pv k
theorem off_new {w w' : World} {B B0 b : Nat} {pv v : Value} {D : Dsk} {e : TypeId} {xs : List UInt8} (hd : DskAt w B b pv D) (ho : OwB e w' B0 v xs) (hB : w.heap.size ≤ B0) : Off v b pv := fun k hk hF => by
  have h1 := (ho.lt k hk).1
  have h2 := hd.lt
  rcases hF with e | e
  · omega
  · have := (hd.plt k e).2; omega
theorem Off.step {w : World} {B0 b : Nat} {pv pv' v : Value} {e : TypeId} {xs : List UInt8} (h : Off v b pv) (ho : OwB e w B0 v xs) (hn : NewOr w pv pv') : Off v b pv' := fun k hk hF => by
  rcases hF with e | e
  · exact h k hk (.inl e)
  · rcases hn k e with e1 | e1
    · exact h k hk (.inr e1)
    · have := (ho.lt k hk).2; omega
theorem OwB.off {w w' : World} {B0 b : Nat} {pv v : Value} {e : TypeId} {xs : List UInt8} (ho : OwB e w B0 v xs) (h : Off v b pv) (hc : Chg (DF b pv) w w') : OwB e w' B0 v xs := ho.chg hc h
theorem DskAt.stay {w w' : World} {B b g : Nat} {pv v : Value} {D : Dsk} (hd : DskAt w B b pv D) (h : Off v b pv) (hg : v.ownBlock = some g) (hc : w.grownBy w' (some g)) : DskAt w' B b pv D :=
  hd.chg (chg_grown hc) (fun e => h g hg (.inl (Option.some.inj e))) fun k hk e => h g hg (.inr (by rw [hk, e]))
/-- Two disks beside one another. -/
def Apart (b : Nat) (pv : Value) (b2 : Nat) (pv2 : Value) : Prop := ∀ k, DF b pv k → ¬ DF b2 pv2 k
theorem Apart.symm {b b2 : Nat} {pv pv2 : Value} (h : Apart b pv b2 pv2) : Apart b2 pv2 b pv := fun k h2 h1 => h k h1 h2
theorem apart_new {w w' : World} {B b b2 : Nat} {pv pv2 : Value} {D D2 : Dsk} (hd : DskAt w B b pv D) (hd2 : DskAt w' w.heap.size b2 pv2 D2) : Apart b pv b2 pv2 := fun k h1 h2 => by
  have := DF.le hd2 h2
  rcases h1 with e | e
  · have := hd.lt; omega
  · have := (hd.plt k e).2; omega
theorem Apart.step {w : World} {B b b2 : Nat} {pv pv2 pv2' : Value} {D : Dsk} (h : Apart b pv b2 pv2) (hd : DskAt w B b pv D) (hn : NewOr w pv2 pv2') : Apart b pv b2 pv2' := fun k h1 h2 => by
  rcases h2 with e | e
  · exact h k h1 (.inl e)
  · rcases hn k e with e1 | e1
    · exact h k h1 (.inr e1)
    · rcases h1 with e2 | e2
      · have := hd.lt; omega
      · have := (hd.plt k e2).2; omega
theorem DskAt.apart {w w' : World} {B b b2 : Nat} {pv pv2 : Value} {D : Dsk} (hd : DskAt w B b pv D) (h : Apart b pv b2 pv2) (hc : Chg (DF b2 pv2) w w') : DskAt w' B b pv D :=
  hd.chg hc (fun e => h b (.inl rfl) e) fun k hk e => h k (.inr hk) e
end Go.Proofs.YtiipdhmfdgbmiaaDoor
end
section
set_option linter.unusedVariables false
set_option linter.unusedSimpArgs false
namespace Go.Proofs.YtiipdhmfdgbmiaaDoor
open Go.RowKit

theorem bytesEqual_any (A A' : Option Addr) (n n' c c' B B' : Nat) (bs bs' : List UInt8) (w : World) (hn : n = bs.length) (hn' : n' = bs'.length) (hr : RdB w B A bs) (hr' : RdB w B' A' bs') :
    Calls Tryd.prog 82 #[.slice A n c, .slice A' n' c'] w fun e w' => e = .returned (.bool (bs == bs')) ∧ w' = w := by
  have h1 := conv_str A bs n c B w hn hr
  have h2 := conv_str A' bs' n' c' B' w hn' hr'
  clear hn hn' hr hr'
  have h3 := str_eql 9 bs bs' w
  have h4 : ∀ x y, (eqGuard .eql 9 x y (str bs) (str bs')) = pure () := fun _ _ => by unfold str; rw [eqGuard_at_string]
  generalize str bs = s1 at h1 h3 h4
  generalize str bs' = s2 at h2 h3 h4
  go_enter Tryd.func82, Tryd.ntmps82
  go_wp2
  go_ret
  exact ⟨rfl, rfl⟩
theorem numB_bd (xs : List UInt8) (h : xs.length ≤ 4) : (-9223372036854775808 ≤ ((numB xs : Nat) : Int) ∧ ((numB xs : Nat) : Int) ≤ 9223372036854775807) := by
  have := (numB_lt xs xs.length (Nat.le_refl _) h).1
  rw [List.take_length] at this
  omega
theorem flds64 (bs : List UInt8) : Su64 (flds bs) :=
  ⟨numB_bd _ (by simp), numB_bd _ (by simp), numB_bd _ (by simp), numB_bd _ (by simp), numB_bd _ (by simp), numB_bd _ (by simp), numB_bd _ (by simp), numB_bd _ (by simp), numB_bd _ (by simp), numB_bd _ (by simp)⟩
theorem suDecode_short (A : Option Addr) (n c : Nat) (bs : List UInt8) (w : World) (hn : n = bs.length) (h32 : n ≠ 32) :
    Calls Tryd.prog 66 #[.slice A n c] w fun e w' => ∃ s, s = decS bs ∧ e = .returned (.tuple #[.agg #[.int .i64 s.g, .int .i64 s.al, .int .i64 s.ad, .int .i64 s.ac, .int .i64 s.bl, .int .i64 s.bd, .int .i64 s.bc, .bool s.r, .int .i64 s.wi, .int .i64 s.ep, .int .i64 s.ou], .int .i64 (decE bs)]) ∧ Below w.heap.size w w' := by
  have hd : decO bs = false := decO_not fun h => h32 (hn.trans h.1)
  have h1 : ((n : Int) != 32) = true := by rw [bne_iff_ne]; omega
  have H : Calls Tryd.prog 66 #[.slice A n c] w fun e w' => e = .returned (.tuple #[.agg #[.int .i64 suZ.g, .int .i64 suZ.al, .int .i64 suZ.ad, .int .i64 suZ.ac, .int .i64 suZ.bl, .int .i64 suZ.bd, .int .i64 suZ.bc, .bool suZ.r, .int .i64 suZ.wi, .int .i64 suZ.ep, .int .i64 suZ.ou], .int .i64 2]) ∧ Below w.heap.size w w' := by
    clear hd hn
    go_enter Tryd.func66, Tryd.ntmps66
    go_wp2
    refine bodyPost_ret (v := .tuple #[.agg #[.int .i64 suZ.g, .int .i64 suZ.al, .int .i64 suZ.ad, .int .i64 suZ.ac, .int .i64 suZ.bl, .int .i64 suZ.bd, .int .i64 suZ.bc, .bool suZ.r, .int .i64 suZ.wi, .int .i64 suZ.ep, .int .i64 suZ.ou], .int .i64 2]) (by simp [results, Tryd.results66, go_sem, suZ]) rfl ⟨rfl, ?_⟩
    exact below1 _ _
  refine H.mono ?_
  rintro e w' ⟨h2, h3⟩
  exact ⟨suZ, (decS_no hd).symm, by rw [decE_no hd]; exact h2, h3⟩
set_option maxHeartbeats 2000000 in
theorem suDecode_32 (b off c : Nat) (bs : List UInt8) (w : World) (hbs : bs.length = 32) (hc : 32 ≤ c) (hb : b < w.heap.size) (hk : ∀ k, k < 32 → w.cell? ⟨b, off + k, none⟩ = some (.int .u8 ((bs.getD k 0).toNat : Int))) (ht : TabOk w) :
    Calls Tryd.prog 66 #[.slice (some ⟨b, off, none⟩) 32 c] w fun e w' => ∃ s, s = decS bs ∧ e = .returned (.tuple #[.agg #[.int .i64 s.g, .int .i64 s.al, .int .i64 s.ad, .int .i64 s.ac, .int .i64 s.bl, .int .i64 s.bd, .int .i64 s.bc, .bool s.r, .int .i64 s.wi, .int .i64 s.ep, .int .i64 s.ou], .int .i64 (decE bs)]) ∧ Below w.heap.size w w' := by
  have CF := Lib.hid fun W (hW : Below w.heap.size w W) => suFields_any b off c bs W hbs (Nat.lt_of_lt_of_le hb hW.size) hc fun k h => (hW.cell (p := ⟨b, off + k, none⟩) hb).trans (hk k h)
  have s64 := flds64 bs
  have CN := Lib.hid fun W (q : suOk (flds bs) = false) => suEncode_no (flds bs) W s64 (Lib.hid q)
  have CY := Lib.hid fun W (q : suOk (flds bs) = true) (hW : Below w.heap.size w W) => suEncode_yes (flds bs) W s64 (Lib.hid q) (ht.below hW ht.pos)
  have HQ := Lib.hid fun (g : Nat) (W : World) (B : Nat) (ho : OwB 5 W B (.slice (some ⟨g, 0, none⟩) 32 32) (suB (flds bs))) (hW : Below w.heap.size w W) =>
    bytesEqual_any (some ⟨g, 0, none⟩) (some ⟨b, off, none⟩) 32 32 32 c W.heap.size w.heap.size (suB (flds bs)) bs W rfl hbs.symm ho.rdS.1 ⟨by omega, fun _ => ⟨b, off, rfl, hb, fun k h => (hW.cell (p := ⟨b, off + k, none⟩) hb).trans (hk k (by omega))⟩⟩
  have Hno := Lib.hid (show suOk (flds bs) = false → decO bs = false from fun q => decO_not fun h => by have h2 := h.2.1; rw [q] at h2; cases h2)
  have Hyes := Lib.hid (show suOk (flds bs) = true → decO bs = (suB (flds bs) == bs) from fun q => by rw [Bool.eq_iff_iff]; simp [decO, hbs, q])
  have R := Lib.hid (show decO bs = true → decS bs = flds bs ∧ decE bs = 0 from fun q => ⟨decS_yes q, decE_yes q⟩)
  have R' := Lib.hid (show decO bs = false → decS bs = suZ ∧ decE bs = 2 from fun q => ⟨decS_no q, decE_no q⟩)
  generalize decO bs = dec at Hno Hyes R R'
  generalize decS bs = ds at R R'
  generalize decE bs = de at R R'
  generalize (suB (flds bs) == bs) = eqb at HQ Hyes
  generalize suB (flds bs) = fb at CY HQ
  generalize suOk (flds bs) = ok at CN CY Hno Hyes
  generalize flds bs = s at CF CN CY R s64
  have F0 : Below w.heap.size w (w.alloc (.cells #[.int .i64 suZ.g, .int .i64 suZ.al, .int .i64 suZ.ad, .int .i64 suZ.ac, .int .i64 suZ.bl, .int .i64 suZ.bd, .int .i64 suZ.bc, .bool suZ.r, .int .i64 suZ.wi, .int .i64 suZ.ep, .int .i64 suZ.ou] 32)) := below1 w _
  have h0 : (w.alloc (.cells #[.int .i64 suZ.g, .int .i64 suZ.al, .int .i64 suZ.ad, .int .i64 suZ.ac, .int .i64 suZ.bl, .int .i64 suZ.bd, .int .i64 suZ.bc, .bool suZ.r, .int .i64 suZ.wi, .int .i64 suZ.ep, .int .i64 suZ.ou] 32)).heap[w.heap.size]? = some (.cells #[.int .i64 suZ.g, .int .i64 suZ.al, .int .i64 suZ.ad, .int .i64 suZ.ac, .int .i64 suZ.bl, .int .i64 suZ.bd, .int .i64 suZ.bc, .bool suZ.r, .int .i64 suZ.wi, .int .i64 suZ.ep, .int .i64 suZ.ou] 32 (0, 0)) := hp_new _ _ _ rfl
  generalize hW0 : w.alloc (.cells #[.int .i64 suZ.g, .int .i64 suZ.al, .int .i64 suZ.ad, .int .i64 suZ.ac, .int .i64 suZ.bl, .int .i64 suZ.bd, .int .i64 suZ.bc, .bool suZ.r, .int .i64 suZ.wi, .int .i64 suZ.ep, .int .i64 suZ.ou] 32) = W0 at F0 h0
  have hW0' : w.alloc (.cells #[.int .i64 0, .int .i64 0, .int .i64 0, .int .i64 0, .int .i64 0, .int .i64 0, .int .i64 0, .bool false, .int .i64 0, .int .i64 0, .int .i64 0] 32) = W0 := hW0
  have hz : w.heap.size < W0.heap.size := by rw [← hW0']; simp
  have Hb : ∀ W, Below W0.heap.size W0 W → W.heap[w.heap.size]? = some (.cells #[.int .i64 suZ.g, .int .i64 suZ.al, .int .i64 suZ.ad, .int .i64 suZ.ac, .int .i64 suZ.bl, .int .i64 suZ.bd, .int .i64 suZ.bc, .bool suZ.r, .int .i64 suZ.wi, .int .i64 suZ.ep, .int .i64 suZ.ou] 32 (0, 0)) := fun W hW => (hW.block _ hz).trans h0
  have HB := Lib.hid Hb
  clear hW0 h0 Hb ht hk hbs
  go_enter Tryd.func66, Tryd.ntmps66
  go_wp2_with fail
  (with_reducible refine (CF.out _ F0).mono ?_); rintro e w1 ⟨s1, hs1, rfl, hb1⟩
  subst hs1
  have F1 : Below W0.heap.size W0 w1 := hb1
  have T1 := sat_new w1 s1 32 (0, 0)
  have F2 : Below W0.heap.size W0 (w1.alloc (.cells #[.int .i64 s1.g, .int .i64 s1.al, .int .i64 s1.ad, .int .i64 s1.ac, .int .i64 s1.bl, .int .i64 s1.bd, .int .i64 s1.bc, .bool s1.r, .int .i64 s1.wi, .int .i64 s1.ep, .int .i64 s1.ou] 32)) := F1.trans ((below1 w1 _).mono F1.size)
  have h1z : w1.heap.size < (w1.alloc (.cells #[.int .i64 s1.g, .int .i64 s1.al, .int .i64 s1.ad, .int .i64 s1.ac, .int .i64 s1.bl, .int .i64 s1.bd, .int .i64 s1.bc, .bool s1.r, .int .i64 s1.wi, .int .i64 s1.ep, .int .i64 s1.ou] 32)).heap.size := by simp
  generalize hW1 : w1.alloc (.cells #[.int .i64 s1.g, .int .i64 s1.al, .int .i64 s1.ad, .int .i64 s1.ac, .int .i64 s1.bl, .int .i64 s1.bd, .int .i64 s1.bc, .bool s1.r, .int .i64 s1.wi, .int .i64 s1.ep, .int .i64 s1.ou] 32) = W1 at T1 F2 h1z
  clear hb1
  go_wp2_with fail
  have Z := Lib.hid (fun W w' (hW : Below W0.heap.size W0 W) (v : Su) (h3 : w'.heap[w.heap.size]? = some (.cells #[.int .i64 v.g, .int .i64 v.al, .int .i64 v.ad, .int .i64 v.ac, .int .i64 v.bl, .int .i64 v.bd, .int .i64 v.bc, .bool v.r, .int .i64 v.wi, .int .i64 v.ep, .int .i64 v.ou] 32 (0, 0))) (g3 : W.grownBy w' (some w.heap.size)) =>
    (show SAt w' w.heap.size v ∧ Below w.heap.size w w' from ⟨sat_block h3, (F0.trans (hW.mono (Nat.le_of_lt hz))).grown g3 (F0.trans (hW.mono (Nat.le_of_lt hz))).size (fun j e => by injection e with e; omega)⟩))
  cases ok
  · obtain ⟨rfl, rfl⟩ := R'.out (Hno.out rfl)
    (with_reducible refine (CN.out _ rfl).mono ?_); rintro e w2 ⟨rfl, hb2⟩
    have F3 := F2.trans (hb2.mono F2.size)
    have B3 := HB.out _ F3
    clear CN CY HQ Hno Hyes R R' CF HB F0 F1
    go_wp2_with (refine wpList_store_blk rfl 32 _ _ (by rfl) w.heap.size 0 (.agg (suL suZ).toArray) (by rfl) (by rfl) (suL suZ) 32 B3 (suL suZ) rfl 11 rfl (by kernel_rfl) (by decide) (suL_one suZ) (suL suZ) (by rfl) ?_; intro w3 h3 g3; obtain ⟨⟨z0, z1, z2, z3, z4, z5, z6, z7, z8, z9, z10⟩, F4⟩ := Z.out _ _ F3 suZ h3 g3)
    refine bodyPost_ret (v := .tuple #[.agg #[.int .i64 suZ.g, .int .i64 suZ.al, .int .i64 suZ.ad, .int .i64 suZ.ac, .int .i64 suZ.bl, .int .i64 suZ.bd, .int .i64 suZ.bc, .bool suZ.r, .int .i64 suZ.wi, .int .i64 suZ.ep, .int .i64 suZ.ou], .int .i64 2]) (by simp [results, Tryd.results66, go_sem, z0, z1, z2, z3, z4, z5, z6, z7, z8, z9, z10]) rfl ⟨_, rfl, rfl, F4⟩
  · have hdec := Hyes.out rfl
    (with_reducible refine (CY.out _ rfl (F0.trans (F2.mono (Nat.le_of_lt hz)))).mono ?_); rintro e w2 ⟨g, rfl, ho, hb2⟩
    have F3 := F2.trans (hb2.mono F2.size)
    have T3 := T1.below hb2 h1z
    have CQ := Lib.hid (HQ.out g w2 _ ho (F0.trans (F3.mono (Nat.le_of_lt hz))))
    have B3 := HB.out _ F3
    clear CN CY HQ Hno Hyes CF HB F0 F1 ho hb2
    cases eqb
    · obtain ⟨rfl, rfl⟩ := R'.out hdec
      clear R R' hdec
      go_wp2_with (first
        | (go_at_call 82; refine CQ.out.mono ?_; rintro e wx ⟨rfl, rfl⟩)
        | (refine wpList_store_blk rfl 32 _ _ (by rfl) w.heap.size 0 (.agg (suL suZ).toArray) (by rfl) (by rfl) (suL suZ) 32 B3 (suL suZ) rfl 11 rfl (by kernel_rfl) (by decide) (suL_one suZ) (suL suZ) (by rfl) ?_; intro w3 h3 g3; obtain ⟨⟨z0, z1, z2, z3, z4, z5, z6, z7, z8, z9, z10⟩, F4⟩ := Z.out _ _ F3 suZ h3 g3))
      refine bodyPost_ret (v := .tuple #[.agg #[.int .i64 suZ.g, .int .i64 suZ.al, .int .i64 suZ.ad, .int .i64 suZ.ac, .int .i64 suZ.bl, .int .i64 suZ.bd, .int .i64 suZ.bc, .bool suZ.r, .int .i64 suZ.wi, .int .i64 suZ.ep, .int .i64 suZ.ou], .int .i64 2]) (by simp [results, Tryd.results66, go_sem, z0, z1, z2, z3, z4, z5, z6, z7, z8, z9, z10]) rfl ⟨_, rfl, rfl, F4⟩
    · obtain ⟨rfl, rfl⟩ := R.out hdec
      clear R R' hdec
      obtain ⟨t0, t1, t2, t3, t4, t5, t6, t7, t8, t9, t10⟩ := T3
      go_wp2_with (first
        | (go_at_call 82; refine CQ.out.mono ?_; rintro e wx ⟨rfl, rfl⟩)
        | (refine wpList_store_blk rfl 32 _ _ (by rfl) w.heap.size 0 (.agg (suL ds).toArray) (by rfl) (by rfl) (suL suZ) 32 B3 (suL ds) rfl 11 rfl (by kernel_rfl) (by decide) (suL_one ds) (suL ds) (by rfl) ?_; intro w3 h3 g3; obtain ⟨⟨z0, z1, z2, z3, z4, z5, z6, z7, z8, z9, z10⟩, F4⟩ := Z.out _ _ F3 ds h3 g3))
      refine bodyPost_ret (v := .tuple #[.agg #[.int .i64 ds.g, .int .i64 ds.al, .int .i64 ds.ad, .int .i64 ds.ac, .int .i64 ds.bl, .int .i64 ds.bd, .int .i64 ds.bc, .bool ds.r, .int .i64 ds.wi, .int .i64 ds.ep, .int .i64 ds.ou], .int .i64 0]) (by simp [results, Tryd.results66, go_sem, z0, z1, z2, z3, z4, z5, z6, z7, z8, z9, z10]) rfl ⟨_, rfl, rfl, F4⟩
theorem suDecode_any (A : Option Addr) (n c : Nat) (bs : List UInt8) (w : World) (hn : n = bs.length) (hc : n ≤ c) (hr : RdB w w.heap.size A bs) (ht : TabOk w) :
    Calls Tryd.prog 66 #[.slice A n c] w fun e w' => ∃ s, s = decS bs ∧ e = .returned (.tuple #[.agg #[.int .i64 s.g, .int .i64 s.al, .int .i64 s.ad, .int .i64 s.ac, .int .i64 s.bl, .int .i64 s.bd, .int .i64 s.bc, .bool s.r, .int .i64 s.wi, .int .i64 s.ep, .int .i64 s.ou], .int .i64 (decE bs)]) ∧ Below w.heap.size w w' := by
  by_cases h32 : n = 32
  · subst h32
    obtain ⟨b, off, rfl, hb, hk⟩ := hr.2 (by omega)
    exact suDecode_32 b off c bs w hn.symm hc hb (fun k h => hk k (by omega)) ht
  · exact suDecode_short A n c bs w hn h32
end Go.Proofs.YtiipdhmfdgbmiaaDoor
end
