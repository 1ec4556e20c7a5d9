/- Texts put together: OwnZ, CloneB, GfInv, Str, EqualR, GfAid, RefGf, OwnInt, GeoCap, LawArgs. -/
import Derived.Test.YtpaegibaikpikaaSbaa
import Derived.Lib.AppendZerosOnto
import Derived.Laws.BytesArg
import Derived.Laws.BytesString
import Derived.Lib.ConvBytes
import Derived.Test.YtpaegibaikpikaaProg
import Derived.Deep.Grids
section
namespace Go.Proofs.Ytpaegibaikpikaa
open Go.RowKit

theorem zeroCells_u8 (n : Nat) : (Builtin.zeroCells (Value.int .u8 0).cells n).toList = List.replicate n (.int .u8 0) := by
  rw [← toList_madeCells_one]
  rw [show Builtin.zeroCells (Value.int .u8 0).cells n = madeCells #[.int .u8 0] (n * 1) from rfl, Nat.mul_one]
theorem zeroCells_size (n : Nat) : (Builtin.zeroCells (Value.int .u8 0).cells n).size = n := by
  rw [← Array.length_toList, zeroCells_u8, List.length_replicate]
section
variable {P : Program} (w : World)
theorem run_append_Z (base : Nat) (t tn ty e : TypeId) (kn : IntKind) (ht : P.underlying t = some (.slice e)) (htn : P.underlying tn = some (.int kn)) (hinfo : (P.info? e).map (fun i => (i.zero, i.size, i.bytes)) = some (some (.int .u8 0), 1, 1))
    (v : Value) (xs : List UInt8) (hown : OwB e w base v xs) (kq : IntKind) (n : Nat) (h0 : 0 < n) (hn : xs.length + n ≤ 1048576) (hbase : base ≤ w.heap.size) :
    ∃ v' w', (Builtin.append_ #[t, tn] ty #[v, .int kq (n : Int)]).run P w = .ok v' w' ∧ OwB e w' base v' (xs ++ List.replicate n 0) ∧ w.grownBy w' v.ownBlock ∧ (v'.ownBlock = v.ownBlock ∨ v'.ownBlock = some w.heap.size) := by
  obtain ⟨i, hi, hzz⟩ := Option.map_eq_some_iff.1 hinfo
  simp only [Prod.mk.injEq] at hzz
  obtain ⟨hz, hs, hb⟩ := hzz
  have hmap : (xs ++ List.replicate n (0 : UInt8)).map bv = xs.map bv ++ List.replicate n (.int .u8 0) := by simp [bv]
  have hlen : (xs ++ List.replicate n (0 : UInt8)).length = xs.length + n := by simp
  have grown : ∀ (old : Nat), old < xs.length + n → ∀ (row : Option Nat),
      OwB e (w.drew.alloc (.cells ((xs.map bv).toArray ++ Builtin.zeroCells (Value.int .u8 0).cells n ++ Builtin.zeroCells (Value.int .u8 0).cells (grownCap w (xs.length + n) old e - (xs.length + n))) e)) base
        (.slice (some ⟨w.heap.size, 0, none⟩) (xs.length + n) (grownCap w (xs.length + n) old e)) (xs ++ List.replicate n 0) ∧
      w.grownBy (w.drew.alloc (.cells ((xs.map bv).toArray ++ Builtin.zeroCells (Value.int .u8 0).cells n ++ Builtin.zeroCells (Value.int .u8 0).cells (grownCap w (xs.length + n) old e - (xs.length + n))) e)) row := by
    intro old ho row
    have hge := grownCap_ge w (xs.length + n) old e
    have hcm : grownCap w (xs.length + n) old e ≤ maxLen := grownCap_le_maxLen w (xs.length + n) old e (by unfold maxLen; omega)
    refine ⟨⟨⟨by simp, .inr ⟨w.heap.size, _, _, by rw [hlen], hbase, heap_alloc_new w.drew _, by rw [hlen]; exact hge, hcm, ?_, ?_⟩⟩, by rw [hlen]; omega⟩, ⟨rfl, rfl, rfl, by simp, fun k hk _ => heap_alloc_old w.drew _ hk⟩⟩
    · simp only [Array.size_append, List.size_toArray, zeroCells_size, List.length_map]
      omega
    · simp only [Array.toList_append, hmap, zeroCells_u8]
      rw [List.take_append_of_le_length (by simp), List.take_of_length_le (by simp)]
  rcases hown.1.2 with ⟨rfl, hx0⟩ | ⟨g, cap, cur, rfl, hbg, hg, hnc, hcm, hcs, htake⟩
  · obtain rfl : xs = [] := List.eq_nil_of_length_eq_zero hx0
    have hr := Lib.run_append_nil_zeros (P := P) w t tn ty e i _ kq kn ht htn hi hz n h0 (by omega) (by simp at hn; omega) (by rw [hb]; simp at hn; omega)
    have hgr := grown 0 (by simp; omega) (Value.ownBlock (.slice none 0 0))
    simp only [List.length_nil, Nat.zero_add, List.map_nil, List.nil_append, Array.empty_append] at hgr ⊢
    exact ⟨_, _, hr, hgr.1, hgr.2, .inr rfl⟩
  · by_cases hroom : xs.length + n ≤ cap
    · have hst := run_storeCells_at P g xs.length e (List.replicate n (.int .u8 0)) 0 cur w hg (by simp; omega) (fun u hu => by rw [List.eq_of_mem_replicate hu]; rfl)
      have hw : IntKind.i64.wrap (n : Int) = n := by rw [IntKind.wrap_i64]; omega
      have hneg : ¬ ((n : Int) < 0) := by omega
      have h48 : ¬ (281474976710656 < (n : Int)) := by omega
      have hn0 : n ≠ 0 := by omega
      have hadd : (⟨g, 0, none⟩ : Addr).add xs.length = ⟨g, xs.length, none⟩ := by unfold Addr.add; by_cases hx : xs.length = 0 <;> simp [hx]
      have hr : (Builtin.append_ #[t, tn] ty #[.slice (some ⟨g, 0, none⟩) xs.length cap, .int kq (n : Int)]).run P w = .ok (.slice (some ⟨g, 0, none⟩) (xs.length + n) cap) (w.setRow g (cur.toList.take xs.length ++ List.replicate n (Value.int .u8 0) ++ cur.toList.drop (xs.length + n)).toArray) := by
        simp only [List.length_replicate, Nat.add_zero] at hst
        simp [Builtin.append_, run_underlying ht, run_underlying htn, sizeOf, typeInfo, zeroValue, hi, hz, hs, hb, asInt, asIntOf, hw, hneg, h48, hn0, hroom, hadd, zeroCells_u8, hst]
      refine ⟨_, _, hr, ⟨⟨by simp, .inr ⟨g, cap, _, by rw [hlen], hbg, setRow_heap w g cur _ e _ hg, by rw [hlen]; exact hroom, hcm, ?_, ?_⟩⟩, by rw [hlen]; omega⟩, ⟨rfl, rfl, rfl, by simp, fun k _ hk => setRow_other w g k _ (fun e => hk (by simp [Value.ownBlock, e]))⟩, .inl rfl⟩
      · simp only [List.size_toArray, List.length_append, List.length_take, List.length_drop, Array.length_toList, List.length_replicate]
        omega
      · rw [Nat.mul_one] at htake
        rw [htake, hmap, List.toList_toArray, List.take_append_of_le_length (by simp), List.take_of_length_le (by simp)]
    · have holds : ∀ j u, (xs.map bv)[j]? = some u → w.cell? ((⟨g, 0, none⟩ : Addr).add j) = some u := hown.1.cells (g := g) rfl
      have hload : (Builtin.firstCells i.size xs.length (.slice (some ⟨g, 0, none⟩) xs.length cap)).run P w.drew = .ok (xs.map bv).toArray w.drew := by
        have := run_loadCells_list (P := P) w.drew ⟨g, 0, none⟩ (xs.map bv) holds
        simpa [Builtin.firstCells, hs] using this
      have hns := nextslicecap_le (need := xs.length + n) (old := cap) (by omega)
      have hr := Lib.run_append_grow_zeros (P := P) w t tn ty e i _ kq kn ht htn hi hz (some ⟨g, 0, none⟩) xs.length cap (xs.map bv) hload n h0 (by omega) (by omega) (by omega) (by rw [hb]; omega) (by rw [hb]; omega)
      have hgr := grown cap (by omega) (Value.ownBlock (.slice (some ⟨g, 0, none⟩) xs.length cap))
      exact ⟨_, _, hr, hgr.1, hgr.2, .inr rfl⟩
theorem wpList_append_Z {ops : Array Oper} {rest : List Oper} {o : Oper} {a : Act} {Q : Exit → Act → World → Prop} (hw : Region.wanted o (yielded ops a.tmps) = true) (s x : Operand) (t tn : TypeId)
    (ho : o.op = .call { callee := .builtin .append, args := #[s, x], argTypes := #[t, tn] }) (base : Nat) (e : TypeId) (kn : IntKind) (ht : P.underlying t = some (.slice e)) (htn : P.underlying tn = some (.int kn)) (hinfo : (P.info? e).map (fun i => (i.zero, i.size, i.bytes)) = some (some (.int .u8 0), 1, 1))
    (v : Value) (xs : List UInt8) (hs : a.eval s = v) (hown : OwB e w base v xs) (kq : IntKind) (n : Nat) (hx : a.eval x = .int kq (n : Int)) (h0 : 0 < n) (hn : xs.length + n ≤ 1048576) (hbase : base ≤ w.heap.size)
    (h : ∀ v' w', OwB e w' base v' (xs ++ List.replicate n 0) → w.grownBy w' v.ownBlock → (v'.ownBlock = v.ownBlock ∨ v'.ownBlock = some w.heap.size) → wpList P ops Q rest (a.put o.dst v') w') : wpList P ops Q (o :: rest) a w := by
  refine BigFrame.wpList_want hw fun K hK => ?_
  obtain ⟨v', w', hrun, h2, h3, h4⟩ := run_append_Z (P := P) w base t tn o.type e kn ht htn hinfo v xs hown kq n h0 hn hbase
  unfold Oper.wp execOp
  simp only [ho, resolve, invoke, builtin, Sem.run_bind, Sem.run_pure, Result.andThen_ok, List.map_toArray, List.map_cons, List.map_nil, hs, hx, hrun]
  exact hK _ _ (h v' w' h2 h3 h4)
theorem step_append_Z {ops : Array Oper} {o : Oper} {a : Act} {K : Act → World → Prop} {Q : Exit → Act → World → Prop} {E : Prop} (hgd : o.guard = none) (s x : Operand) (t tn : TypeId)
    (ho : o.op = .call { callee := .builtin .append, args := #[s, x], argTypes := #[t, tn] }) (base : Nat) (e : TypeId) (kn : IntKind) (ht : P.underlying t = some (.slice e)) (htn : P.underlying tn = some (.int kn)) (hinfo : (P.info? e).map (fun i => (i.zero, i.size, i.bytes)) = some (some (.int .u8 0), 1, 1))
    (v : Value) (xs : List UInt8) (hs : a.eval s = v) (hown : OwB e w base v xs) (kq : IntKind) (n : Nat) (hx : a.eval x = .int kq (n : Int)) (h0 : 0 < n) (hn : xs.length + n ≤ 1048576) (hbase : base ≤ w.heap.size)
    (h : ∀ v' w', OwB e w' base v' (xs ++ List.replicate n 0) → w.grownBy w' v.ownBlock → (v'.ownBlock = v.ownBlock ∨ v'.ownBlock = some w.heap.size) → K (a.put o.dst v') w') :
    if Region.wanted o (yielded ops a.tmps) = true then Oper.wp P o a w K Q else E := by
  have hw : Region.wanted o (yielded ops a.tmps) = true := by simp [Region.wanted, hgd]
  rw [if_pos hw]
  obtain ⟨v', w', hrun, h2, h3, h4⟩ := run_append_Z (P := P) w base t tn o.type e kn ht htn hinfo v xs hown kq n h0 hn hbase
  unfold Oper.wp execOp
  simp only [ho, resolve, invoke, builtin, Sem.run_bind, Sem.run_pure, Result.andThen_ok, List.map_toArray, List.map_cons, List.map_nil, hs, hx, hrun]
  exact h v' w' h2 h3 h4
end
end Go.Proofs.Ytpaegibaikpikaa
end
section
set_option maxRecDepth 8000
namespace Go.Proofs.Ytpaegibaikpikaa
open Go.RowKit

theorem own_empty (w : World) : OwB 5 (w.alloc (.cells #[] 5)) w.heap.size (.slice (some ⟨w.heap.size, 0, none⟩) 0 0) [] :=
  ⟨World.ownsRow_lit w #[] 0 (Nat.le_refl _) (by unfold maxLen; omega) rfl, by simp⟩
theorem clone_any (A : Option Addr) (bs : List UInt8) (n c : Nat) (w : World) (hn : n = bs.length) (hp : 0 < bs.length) (hr : RdB w w.heap.size A bs) :
    Calls Try.prog 68 #[.slice A n c] w fun e w' => ∃ v, e = .returned v ∧ OwB 5 w' w.heap.size v bs ∧ Below w.heap.size w w' := by
  have hl := hr.1
  obtain ⟨b, off, rfl, hb, hc⟩ := hr.2 hp
  subst hn
  have ho := own_empty w
  have hq : ∀ W : World, (binOp .eql 46 (.slice (some ⟨b, off, none⟩) bs.length c) (.slice none 0 0)).run Try.prog W = .ok (.bool false) W := fun _ => rfl
  have hr1 := hr.below (below1 w (.cells #[] 5)) (Nat.le_refl _)
  go_enter Try.func68, Try.ntmps68
  go_wp2_with (at_builtin; refine wpList_append_B _ rfl _ _ _ rfl w.heap.size 5 Try.underlying46 info_u8 (.slice (some ⟨w.heap.size, 0, none⟩) 0 0) [] rfl ho w.heap.size (some ⟨b, off, none⟩) bs.length c bs rfl rfl hr1 (by simpa using hl) (by simp) ?_; intro v' w' hown hg hat)
  have hbw := (below1 w (.cells #[] 5)).grown hg (by simp) (by simp [Value.ownBlock])
  rw [List.nil_append] at hown
  go_ret
  exact ⟨v', rfl, hown, hbw⟩
end Go.Proofs.Ytpaegibaikpikaa
end
section
namespace Go.Proofs.Ytpaegibaikpikaa
open Go.RowKit

theorem inv_any (a : Nat) (ha : a < 256) (w : World) : Calls Try.prog 108 #[.int .u8 (a : Int)] w fun e w' => e = .returned (.int .u8 ((ginv a : Nat) : Int)) ∧ w' = w := by
  have H := Lib.hid (gpw_inv ha)
  go_enter Try.func108, Try.ntmps108
  go_wp2_with (go_at_call 104; refine (power_any a 254 ha (by decide) _).mono ?_; rintro e w' ⟨rfl, rfl⟩)
  go_ret
  exact ⟨ret_int (congrArg Nat.cast H.out), rfl⟩
end Go.Proofs.Ytpaegibaikpikaa
end
section
namespace Go.Proofs.Ytpaegibaikpikaa
open Go.RowKit

/-- Bytes as a text. -/
def str (bs : List UInt8) : Value := .string ⟨bs.toArray⟩
theorem conv_str (A : Option Addr) (bs : List UInt8) (n c B : Nat) (w : World) (hn : n = bs.length) (hr : RdB w B A bs) : (convert 46 9 (.slice A n c)).run Try.prog w = .ok (str bs) w := by
  subst hn
  rcases Nat.eq_zero_or_pos bs.length with h0 | hp
  · have : bs = [] := List.eq_nil_of_length_eq_zero h0
    subst this
    rcases A with _ | a
    · exact run_convert_bytes_nil w _ _ Try.underlying46 Try.underlying5 _ _ _ Try.underlying9
    · have h := run_convert_bytes_string (P := Try.prog) w _ _ _ (some a) 0 c Try.underlying46 Try.underlying5 Try.underlying9
      have h2 := run_bytesToString (P := Try.prog) w a 0 c [] (by simp [loadCells, loadCellsFrom])
      exact h.trans h2
  · obtain ⟨b, off, rfl, _, hc⟩ := hr.2 hp
    have h := run_convert_bytes_arg (P := Try.prog) w _ _ Try.underlying46 Try.underlying5 b off bs.length c (bs.map fun x => (x.toNat : Int)) (by simp) (fun i hi => by
      rw [hc i hi]; simp [hi]) _ Try.underlying9
    have e : (bs.map fun x => (x.toNat : Int)).map (fun n => UInt8.ofNat n.toNat) = bs := by
      rw [List.map_map]
      exact (List.map_congr_left (g := id) fun x _ => by simp).trans (List.map_id bs)
    rw [h]
    unfold str strOfNums
    rw [e]
theorem str_eql (t : TypeId) (a b : List UInt8) (w : World) : (binOp .eql t (str a) (str b)).run Try.prog w = .ok (.bool (a == b)) w := by unfold str; rw [binOp_string_eql]; simp
theorem str_neq (t : TypeId) (a b : List UInt8) (w : World) : (binOp .neq t (str a) (str b)).run Try.prog w = .ok (.bool (!(a == b))) w := by unfold str; rw [binOp_string_neq]; simp
end Go.Proofs.Ytpaegibaikpikaa
end
section
set_option maxRecDepth 8000
set_option linter.unusedVariables false
set_option linter.unusedSimpArgs false
namespace Go.Proofs.Ytpaegibaikpikaa
open Go.RowKit

theorem rs_ext {rs qs : List (List UInt8)} (hl : rs.length = qs.length) (h : ∀ k, k < rs.length → rs.getD k [] = qs.getD k []) : rs = qs := by
  apply List.ext_getElem hl
  intro k h1 h2
  have := h k h1
  simpa [List.getD_eq_getElem?_getD, h1, h2] using this
end Go.Proofs.Ytpaegibaikpikaa
end
section
namespace Go.Proofs.Ytpaegibaikpikaa
open Go.RowKit

theorem bne_of {k : IntKind} {a b : Nat} (_ : k = k) (h : a ≠ b) : ((a : Int) == (b : Int)) = false := by simp; omega
theorem beq_of {a b : Nat} (h : a = b) : ((a : Int) == (b : Int)) = true := by simp [h]
theorem glog_at {a k : Nat} (hk : k < 255) (h : gE k = a) : ((k : Nat) : Int) = glog a := by rw [← h, glog_gE, Nat.mod_eq_of_lt hk]
theorem glog_none {a : Nat} (ha : a < 256) (h : ∀ j, j < 255 → gE j ≠ a) : (-1 : Int) = glog a := by
  by_cases h0 : a = 0
  · subst h0; rfl
  · exact absurd (gE_gL a ha h0) (h _ (gL_lt a ha))
theorem i64_xor_small (a b : Nat) (ha : a < 1024) (hb : b < 1024) : bits .xor .i64 (a : Int) (b : Int) = ((a ^^^ b : Nat) : Int) := by
  have hx : a ^^^ b < 2 ^ 10 := Nat.xor_lt_two_pow (by omega) (by omega)
  have o : ∀ n : Nat, n < 1024 → (BitVec.ofInt 64 (n : Int)).toNat = n := fun n hn => by rw [BitVec.ofInt_natCast, BitVec.toNat_ofNat]; exact Nat.mod_eq_of_lt (by omega)
  show IntKind.i64.wrap ((BitVec.ofInt 64 (a : Int) ^^^ BitVec.ofInt 64 (b : Int)).toNat : Int) = _
  rw [BitVec.toNat_xor, o a ha, o b hb]
  exact IntWalk.i64_in _ (by omega)
theorem xor285 : ∀ x : Nat, x < 256 → ¬ x < 128 → (2 * x) ^^^ 285 = dbl x := by decide +kernel
end Go.Proofs.Ytpaegibaikpikaa
end
section
namespace Go.Proofs.Ytpaegibaikpikaa
open Go.RowKit

theorem mulF_more (k b : Nat) (h : k < 8) (s x : Nat) : mulF (8 - k) s x (b / 2 ^ k) = mulF (8 - (k + 1)) (if b / 2 ^ k % 2 = 1 then s ^^^ x else s) (dbl x) (b / 2 ^ (k + 1)) := by
  rw [show 8 - k = (8 - (k + 1)) + 1 from by omega, mulF_step, Nat.div_div_eq_div_mul, ← Nat.pow_succ]
theorem bit_any (b k : Nat) (hb : b < 256) : bits .and .u8 ((b : Int) / 2 ^ k) 1 = ((b / 2 ^ k % 2 : Nat) : Int) := by
  have hlt : b / 2 ^ k < 256 := Nat.lt_of_le_of_lt (Nat.div_le_self _ _) hb
  have := u8_and_nat (b / 2 ^ k) 1 hlt (by decide)
  rw [nat_mask1] at this
  rw [← this]
  simp
theorem refMul_any (a b : Nat) (ha : a < 256) (hb : b < 256) (w : World) : Calls Try.prog 86 #[.int .u8 (a : Int), .int .u8 (b : Int)] w fun e w' => e = .returned (.int .u8 ((gmul a b : Nat) : Int)) ∧ w' = w := by
  go_enter Try.func86, Try.ntmps86
  go_wp2
  go_loop [5, 6, 7] (fun vx vs vk => ∃ k s x : Nat, k ≤ 8 ∧ s < 256 ∧ x < 256 ∧ vx = .int .i64 (x : Int) ∧ vs = .int .i64 (s : Int) ∧ vk = .int .i64 (k : Int) ∧ Hid (mulF (8 - k) s x (b / 2 ^ k) = gmul a b)) (fun _ _ vk => 8 - (intOf vk).toNat)
  case atStart => exact ⟨0, 0, a, by omega, by decide, ha, rfl, rfl, rfl, (by rw [Nat.pow_zero, Nat.div_one]; rfl : mulF (8 - 0) 0 a (b / 2 ^ 0) = gmul a b)⟩
  case round =>
    obtain ⟨k, s, x, hk, hs, hx, rfl, rfl, rfl, Hm⟩ := hrel
    by_cases h8 : k < 8
    · have hdx := dbl_lt x hx
      have hxl := xor_lt8 hs hx
      have ex := i64_xor_small s x (by omega) (by omega)
      have e0 := bit_any b k hb
      have Hk := Lib.hid ((mulF_more k b h8 s x).symm.trans Hm.out)
      clear Hm
      by_cases hbit : b / 2 ^ k % 2 = 1
      · rw [hbit, show ((1 : Nat) : Int) = 1 from rfl] at e0
        have Hr : Hid (mulF (8 - (k + 1)) (s ^^^ x) (dbl x) (b / 2 ^ (k + 1)) = gmul a b) := by have := Hk.out; rw [if_pos hbit] at this; exact this
        clear Hk hbit
        by_cases h : x < 128
        · have Hd : Hid (dbl x = 2 * x) := if_pos h
          go_wp2
          go_round
          case rel => exact ⟨k + 1, (s ^^^ x), dbl x, by omega, by assumption, hdx, by rw [Hd.out]; go_num, rfl, by go_num, Hr⟩
          case measure => simp [intOf]; omega
        · have e1 := i64_xor_small (2 * x) 285 (by omega) (by omega)
          have e2 : ((2 * x : Nat) : Int) = (x : Int) * 2 := by omega
          rw [e2, xor285 x hx h, show ((285 : Nat) : Int) = 285 from rfl] at e1
          clear e2
          go_wp2
          go_round
          case rel => exact ⟨k + 1, (s ^^^ x), dbl x, by omega, by assumption, hdx, rfl, rfl, by go_num, Hr⟩
          case measure => simp [intOf]; omega
      · rw [show b / 2 ^ k % 2 = 0 from by omega, show ((0 : Nat) : Int) = 0 from rfl] at e0
        have Hr : Hid (mulF (8 - (k + 1)) s (dbl x) (b / 2 ^ (k + 1)) = gmul a b) := by have := Hk.out; rw [if_neg hbit] at this; exact this
        clear Hk hbit
        by_cases h : x < 128
        · have Hd : Hid (dbl x = 2 * x) := if_pos h
          go_wp2
          go_round
          case rel => exact ⟨k + 1, s, dbl x, by omega, by assumption, hdx, by rw [Hd.out]; go_num, rfl, by go_num, Hr⟩
          case measure => simp [intOf]; omega
        · have e1 := i64_xor_small (2 * x) 285 (by omega) (by omega)
          have e2 : ((2 * x : Nat) : Int) = (x : Int) * 2 := by omega
          rw [e2, xor285 x hx h, show ((285 : Nat) : Int) = 285 from rfl] at e1
          clear e2
          go_wp2
          go_round
          case rel => exact ⟨k + 1, s, dbl x, by omega, by assumption, hdx, rfl, rfl, by go_num, Hr⟩
          case measure => simp [intOf]; omega
    · obtain rfl : k = 8 := by omega
      have Hr : Hid (s = gmul a b) := Hm.out
      clear Hm
      go_wp2
      go_ret
      exact ⟨ret_int (congrArg Nat.cast Hr.out), rfl⟩
end Go.Proofs.Ytpaegibaikpikaa
end
section
set_option linter.unusedVariables false
set_option linter.unusedSimpArgs false
namespace Go.Proofs.Ytpaegibaikpikaa
open Go.RowKit

def zv (z : Int) : Value := .int .i64 z
/-- The slice value v owns these numbers, in a block from B on. -/
def OwJ (w : World) (B : Nat) (v : Value) (zs : List Int) : Prop := w.ownsRow B 3 1 v zs.length (zs.map zv)
/-- The slice reads as these numbers; its cells lie below block B. -/
def RdJ (w : World) (B : Nat) (A : Option Addr) (zs : List Int) : Prop :=
  zs.length ≤ 140737488355328 ∧ (0 < zs.length → ∃ b off, A = some ⟨b, off, none⟩ ∧ b < B ∧ ∀ j, j < zs.length → w.cell? ⟨b, off + j, none⟩ = some (.int .i64 (zs.getD j 0)))
theorem RdJ.below {w w' : World} {B B' : Nat} {A : Option Addr} {zs : List Int} (h : RdJ w B A zs) (hb : Below B' w w') (hB : B ≤ B') : RdJ w' B A zs :=
  ⟨h.1, fun h0 => by
    obtain ⟨b, off, e, hlt, hc⟩ := h.2 h0
    exact ⟨b, off, e, hlt, fun j hj => (hb.cell (p := ⟨b, off + j, none⟩) (by show b < B'; omega)).trans (hc j hj)⟩⟩
theorem RdJ.more {w : World} {B B' : Nat} {A : Option Addr} {zs : List Int} (h : RdJ w B A zs) (hB : B ≤ B') : RdJ w B' A zs :=
  ⟨h.1, fun h0 => by
    obtain ⟨b, off, e, hlt, hc⟩ := h.2 h0
    exact ⟨b, off, e, by omega, hc⟩⟩
theorem RdJ.nil (w : World) (B : Nat) (A : Option Addr) : RdJ w B A [] := ⟨by simp, fun h => by simp at h⟩
theorem OwJ.below {w w' : World} {B : Nat} {v : Value} {zs : List Int} (h : OwJ w B v zs) (hb : Below w.heap.size w w') : OwJ w' B v zs := World.ownsRow.kept h (grown_none hb) (Classical.em _)
theorem OwJ.rd {w : World} {B : Nat} {v : Value} {zs : List Int} (h : OwJ w B v zs) (hl : zs.length ≤ 140737488355328) : ∃ A c, v = .slice A zs.length c ∧ RdJ w w.heap.size A zs := by
  rcases h.2 with ⟨rfl, h0⟩ | ⟨g, cap, cur, rfl, hB, hg, _⟩
  · exact ⟨none, 0, by rw [h0], hl, fun h => by omega⟩
  · refine ⟨_, cap, rfl, hl, fun _ => ⟨g, 0, rfl, (Array.getElem?_eq_some_iff.1 hg).1, fun j hj => ?_⟩⟩
    rw [Nat.zero_add, World.ownsRow.cellAt h j (by omega)]
    simp [hj, zv]
theorem OwJ.le {w : World} {B B' : Nat} {v : Value} {zs : List Int} (h : OwJ w B v zs) (hB : B' ≤ B) : OwJ w B' v zs := by
  refine ⟨h.1, ?_⟩
  rcases h.2 with h1 | ⟨g, cap, cur, h1, h2, r⟩
  · exact .inl h1
  · exact .inr ⟨g, cap, cur, h1, by omega, r⟩
theorem info_z : (Try.prog.info? 3).map (fun i => (i.zero, i.size, i.bytes)) = some (some (.int .i64 0), 1, 8) := by kernel_rfl
theorem make_ints (n : Nat) (hn : n ≤ 1000000) (w : World) :
    (Instr.makeSlice 22 (.int .i64 (n : Int)) (.int .i64 (n : Int))).run Try.prog w = .ok (.slice (some ⟨w.heap.size, 0, none⟩) n n) (w.alloc (.cells (madeCells #[.int .i64 0] n) 3)) :=
  run_make_row' _ _ _ 8 Try.underlying22 info_z rfl _ _ n (by omega) (by omega) w
theorem ownJ_make (w : World) (n : Nat) (hn : n ≤ 1000000) : OwJ (w.alloc (.cells (madeCells #[.int .i64 0] n) 3)) w.heap.size (.slice (some ⟨w.heap.size, 0, none⟩) n n) (List.replicate n 0) := by
  have h := World.ownsRow_lit (base := w.heap.size) (e := 3) (size := 1) w (madeCells #[.int .i64 0] n) n (Nat.le_refl _) (by unfold maxLen; omega) (by simp [size_madeCells])
  rw [toList_madeCells_one] at h
  unfold OwJ
  simpa [zv] using h
theorem OwJ.set {w : World} {B g n c : Nat} {zs : List Int} (h : OwJ w B (.slice (some ⟨g, 0, none⟩) n c) zs) (hn : n = zs.length) (j : Nat) (z : Int) : OwJ (w.setCell ⟨g, j, none⟩ (.int .i64 z)) B (.slice (some ⟨g, 0, none⟩) n c) (zs.set j z) := by
  subst hn
  have h1 := (World.ownsRow.stored h j (.int .i64 z)).1
  unfold OwJ
  rw [List.length_set, List.map_set]
  exact h1
theorem OwJ.cellF {w : World} {B g n c : Nat} {zs : List Int} (h : OwJ w B (.slice (some ⟨g, 0, none⟩) n c) zs) (hn : n = zs.length) (j : Nat) (hj : j < n) : w.cell? ⟨g, j, none⟩ = some (.int .i64 (zs.getD j 0)) ∧ w.frozen? ⟨g, j, none⟩ = false := by
  subst hn
  refine ⟨?_, World.ownsRow.frozenAt h j⟩
  rw [World.ownsRow.cellAt h j (by omega)]
  simp [hj, zv]
theorem ints_take_snoc {ra rb : List Int} {j : Nat} (h : ra.take j = rb.take j) (hj : j < ra.length) (hj' : j < rb.length) (he : ra.getD j 0 = rb.getD j 0) : ra.take (j + 1) = rb.take (j + 1) := by
  rw [List.take_succ_eq_append_getElem hj, List.take_succ_eq_append_getElem hj', h]
  have e : ra[j] = rb[j] := by simpa [hj, hj'] using he
  rw [e]
end Go.Proofs.Ytpaegibaikpikaa
end
section
namespace Go.Proofs.Ytpaegibaikpikaa
open Go.RowKit

theorem capacity_any (l d c : Int) (w : World) (hl : -9223372036854775808 ≤ l ∧ l ≤ 9223372036854775807) (hd : -9223372036854775808 ≤ d ∧ d ≤ 9223372036854775807) (hc : -9223372036854775808 ≤ c ∧ c ≤ 9223372036854775807) :
    Calls Try.prog 81 #[.agg #[.int .i64 l, .int .i64 d, .int .i64 c]] w fun e w' => e = .returned (.int .i64 (gCap l d c)) ∧ Below w.heap.size w w' := by
  have hB := gWid_bd l d c
  have HC : Hid (gCap l d c = gWid l d c * 16) := rfl
  go_enter Try.func81, Try.ntmps81
  go_wp2_with fail
  (with_reducible refine (width_any l d c _ hl hd hc).mono ?_); rintro e w1 ⟨rfl, hb⟩
  have F := (below1 w _).trans (hb.mono (by simp))
  clear hb
  generalize gWid l d c = wd at hB HC
  go_wp2_with fail
  go_ret
  exact ⟨by rw [HC.out]; rfl, F⟩
end Go.Proofs.Ytpaegibaikpikaa
end
section
namespace Go.Proofs.Ytpaegibaikpikaa
open Go.ChangeShapes Go.WideShapes Go.ChangeAt Go.RowKit Go.Deep

section
variable {H : Type} {enc : TypeId × Value → H} {P : Program}
theorem addr_of {W : World} {x : Addr} {u : Value} (h : W.cell? (x.add 0) = some u) : ∃ b off, x = ⟨b, off, none⟩ ∧ b < W.heap.size := by
  obtain ⟨b, off, spot⟩ := x
  have hspot : spot = none := by simpa [Addr.add] using World.cell?_spot h
  subst hspot
  have := World.block_lt_of_cell? _ _ h
  exact ⟨b, off, rfl, by simpa [Addr.add] using this⟩
theorem addr_add (b off k : Nat) : ((⟨b, off, none⟩ : Addr).add k) = ⟨b, off + k, none⟩ := by unfold Addr.add; by_cases hk0 : k = 0 <;> simp [hk0]
/-- A slice of bools that came in. -/
theorem open_rdo {t e : TypeId} (ht : P.underlying t = some (.slice e)) (he : P.underlying e = some .bool) (hc : P.cellsOf e = 1) {r : Reach} {W : World} {base : Nat} {v : Value} {d : DataW H} {p : List MemPlace}
    (hv : Value.okWide P W r base t v) (h : DataW.Trod enc P W 0 (fun _ => true) true t v d p) : ∃ A ks cap, v = .slice A ks.length cap ∧ ks.length ≤ cap ∧ RdO W W.heap.size A ks := by
  obtain ⟨A, len, cap, rfl⟩ := okWide_slice ht hv
  obtain ⟨fuel, hf⟩ := h
  rcases open_bools ht he hc hf with ⟨hcs, _⟩ | ⟨x, l, c, B, hcs, _, hl, hm, _, hcell⟩
  · simp [Value.cells] at hcs
    obtain ⟨rfl, rfl, rfl⟩ := hcs
    exact ⟨none, [], 0, rfl, Nat.le_refl _, RdO.nil _ _ _⟩
  · simp [Value.cells] at hcs
    obtain ⟨rfl, rfl, rfl⟩ := hcs
    have hL : ((List.range len).map B).length = len := by simp
    refine ⟨some x, (List.range len).map B, cap, by rw [hL], by rw [hL]; exact hl, by rw [hL]; unfold maxLen at hm; omega, fun hn => ?_⟩
    rw [hL] at hn
    obtain ⟨b, off, rfl, hb⟩ := addr_of (hcell 0 (by omega))
    refine ⟨b, off, rfl, hb, fun k hk => ?_⟩
    rw [hL] at hk
    have := hcell k (by omega)
    rw [addr_add] at this
    rw [this]
    simp [hk]
/-- A slice of whole numbers that came in. -/
theorem open_rdz {t e : TypeId} (ht : P.underlying t = some (.slice e)) (he : P.underlying e = some (.int .i64)) (hc : P.cellsOf e = 1) {r : Reach} {W : World} {base : Nat} {v : Value} {d : DataW H} {p : List MemPlace}
    (hv : Value.okWide P W r base t v) (h : DataW.Trod enc P W 0 (fun _ => true) true t v d p) : ∃ A zs cap, v = .slice A zs.length cap ∧ zs.length ≤ cap ∧ RdZ W W.heap.size A zs := by
  obtain ⟨A, len, cap, rfl⟩ := okWide_slice ht hv
  obtain ⟨fuel, hf⟩ := h
  rcases open_ints ht he hc hf with ⟨hcs, _⟩ | ⟨x, l, c, zs, hcs, _, hl, hm, hz, hd, hcell, hwz⟩
  · simp [Value.cells] at hcs
    obtain ⟨rfl, rfl, rfl⟩ := hcs
    exact ⟨none, [], 0, rfl, Nat.le_refl _, RdZ.nil _ _ _⟩
  · simp [Value.cells] at hcs
    obtain ⟨rfl, rfl, rfl⟩ := hcs
    simp only [if_true] at hz
    have hL : (zs.take len).length = len := by rw [List.length_take]; omega
    refine ⟨some x, zs.take len, cap, by rw [hL], by rw [hL]; exact hl, by rw [hL]; unfold maxLen at hm; omega, fun z hz => bounds_i64 (hwz z (List.mem_of_mem_take hz)), fun hn => ?_⟩
    rw [hL] at hn
    obtain ⟨b, off, rfl, hb⟩ := addr_of (hcell 0 (by omega))
    refine ⟨b, off, rfl, hb, fun k hk => ?_⟩
    rw [hL] at hk
    have := hcell k (by omega)
    rw [addr_add] at this
    rw [this]
    simp [hk]
end
end Go.Proofs.Ytpaegibaikpikaa
end
