/- CrcSeals' walk. -/
import Derived.Test.YtgpdmdahlcihmaaDoorSeal
import Derived.Test.YtgpdmdahlcihmaaDoorWakes
import Derived.Test.YtgpdmdahlcihmaaDoorCrcFind
namespace Go.Proofs.YtgpdmdahlcihmaaDoor
open Go.RowKit

set_option maxHeartbeats 800000 in
theorem seals (Aa : Option Addr) (a : List UInt8) (ca : Nat) (Ap : Option Addr) (p : List UInt8) (cp : Nat) (at_ : Int) (c : UInt8) (w : World)
    (_ : a.length ≤ ca) (_ : ca ≤ 140737488355328) (hra : RdB w w.heap.size Aa a) (hcp : p.length ≤ cp) (_ : cp ≤ 140737488355328) (hrp : RdB w w.heap.size Ap p) (hat_ : -9223372036854775808 ≤ at_ ∧ at_ ≤ 9223372036854775807) (ht : TabOk w) :
    Calls Tryd.prog 4 #[.slice Aa a.length ca, .slice Ap p.length cp, .int .i64 at_, .int .u8 (c.toNat : Int)] w fun e w' => e = .returned (.bool true) ∧ Below w.heap.size w w' := by
  have hpos := ht.pos
  have km : ∀ w, (Instr.makeSlice 23 (.int .i64 32) (.int .i64 32)).run Tryd.prog w = .ok (.slice (some ⟨w.heap.size, 0, none⟩) 32 32) (w.alloc (.cells (zcells 32) 5)) := make_bytes 32 (by decide)
  have own0 := own_make 5 w 32 (by decide)
  have Hz := Lib.hid (copyB_len (List.replicate 32 0) a)
  go_enter Tryd.func4, Tryd.ntmps4
  go_wp2_with (refine wpList_copy_B rfl _ _ _ rfl 5 Tryd.underlying23 size_u8 w.heap.size 32 32 w.heap.size (List.replicate 32 0) rfl own0 (by simp) w.heap.size Aa a.length ca a rfl rfl (hra.below (below1 w _) (Nat.le_refl _)) ?_; intro w2 hown2 hg2 r2)
  have hb2 : Below w.heap.size w w2 := (below1 w _).grown hg2 (by simp) (by simp)
  rw [List.length_replicate] at Hz
  generalize copyB (List.replicate 32 0) a = b0 at hown2 Hz
  have hs2 : w.heap.size < w2.heap.size := by have := hg2.size; simp at this; omega
  clear own0 hg2
  refine (copy_any (some ⟨w.heap.size, 0, none⟩) 32 32 w2.heap.size b0 w2 Hz.out.symm hown2.rdS.1).mono ?_
  rintro e w3 ⟨vwas, rfl, hwas, hb3⟩
  obtain ⟨gw, cw, rfl, hgw, hgw3, hcw, _, _⟩ := hwas.pos (by rw [Hz.out]; omega)
  rw [Hz.out] at hwas hcw ⊢
  have hb := hown2.below hb3
  clear hown2
  have hbw3 : Below w.heap.size w w3 := hb2.trans (hb3.mono (Nat.le_of_lt hs2))
  have hs3 := hb3.size
  go_wp2_with fail
  refine (cut_any Ap p.length cp w.heap.size 20 p w3 (by decide) rfl hcp (hrp.below hbw3 (Nat.le_refl _))).mono ?_
  rintro e w4 ⟨vp, rfl, hp4, hb4⟩
  have hlq : (p.take 20).length ≤ 20 := by rw [List.length_take]; omega
  go_wp2_with (at_builtin; refine wpList_append_B _ rfl _ _ _ rfl w3.heap.size 5 Tryd.underlying23 info_u8 vp (p.take 20) rfl (hp4.below (below1 w4 _)) (w4.heap.size + 1) (some ⟨w4.heap.size, 0, none⟩) 1 1 [7] rfl rfl (rdb_block (hp_new _ _ _ rfl) (by omega) (by simp) (fun k hk => by obtain rfl : k = 0 := (by simp at hk; omega); rfl)) (by simp; omega) (by have := hb4.size; simp; omega) ?_; intro vq w5 hq5 hg5 hat5)
  have hb5 : Below w3.heap.size w3 w5 := (hb4.trans ((below1 w4 _).mono hb4.size)).grown hg5 (by have := hb4.size; simp; omega) (fun k hk => (hp4.lt k hk).1)
  have hs5 := hb5.size
  have Hq : Hid (0 < (p.take 20 ++ [7]).length ∧ (p.take 20 ++ [7]).length ≤ 21) := Lib.hid (by simp; omega)
  generalize p.take 20 ++ [7] = q at hq5 Hq
  obtain ⟨gq, cq, rfl, hgq, hgq5, hcq, _, _⟩ := hq5.pos Hq.out.1
  have hbw5 : Below w.heap.size w w5 := hbw3.trans (hb5.mono (by omega))
  have hb' := hb.below hb5
  have hwas' := hwas.below hb5
  clear hb hwas hg5 hat5 hp4
  have C5 : Hid (∀ W, Below w5.heap.size w5 W → W.heap[w5.heap.size]? = some (.cells #[.slice (some ⟨gq, 0, none⟩) q.length cq] 23) →
      Calls Tryd.prog 12 #[.slice (some ⟨w.heap.size, 0, none⟩) 32 32, .slice (some ⟨w5.heap.size, 0, none⟩) 1 1] W fun e w' => e = .returned (.bool true) ∧ OwB 5 w' w.heap.size (.slice (some ⟨w.heap.size, 0, none⟩) 32 32) (stamped b0 [q]) ∧ W.grownBy w' (some w.heap.size)) :=
    Lib.hid fun W hb hg => stamp_any w.heap.size 32 w.heap.size _ 1 b0 [q] 1 W rfl (hb'.below hb) Hz.out (rdr_cells hg (Array.getElem?_eq_some_iff.1 hg).1 (by simp) fun k hk => by
      obtain rfl : k = 0 := by simp at hk; omega
      exact ⟨_, cq, rfl, (hq5.below hb).rdS.1⟩) (ht.below (hbw5.trans (hb.mono (by omega))) hpos)
  have icw : (28 : Int) ≤ (cw : Int) := by omega
  go_region_held3 (fun _ => True) (trivial)
    (first
      | (go_at_call 12; refine (C5.out _ (below1 _ _).drew ?_).mono ?_; ((try rw [hp_drew]); exact hp_new _ _ _ (by simp)); rintro e w6 ⟨rfl, hb6, hg6⟩)
      | (go_at_call 13
         have Hg6 := Lib.hid hg6
         clear hg6
         have hk6 := hwas'.grown ((grown_of_below (below1 w5 (.cells #[.slice (some ⟨gq, 0, none⟩) q.length cq] 23)).drew _).trans Hg6.out) (.inr (by simp [Value.ownBlock]; omega))
         refine (same_any _ _ 28 28 32 cw _ ((stamped b0 [q]).take 28) (b0.take 28) _ ?_ ?_ (hb6.rdS.1.take 28) (hk6.rdS.1.take 28)).mono ?_
         · rw [List.length_take, stamped_len _ _ Hz.out]; rfl
         · rw [List.length_take, Hz.out]; rfl
         rintro e w7 ⟨rfl, m7, rfl⟩
         rw [decide_eq_true (stamped_take b0 [q] Hz.out)]))
  have hg57 : w5.grownBy (w6.drewN m7) (some w.heap.size) := grown_drewN ((grown_of_below (below1 w5 (.cells #[.slice (some ⟨gq, 0, none⟩) q.length cq] 23)).drew _).trans Hg6.out) _
  have hb7 : OwB 5 (w6.drewN m7) w.heap.size (.slice (some ⟨w.heap.size, 0, none⟩) 32 32) (stamped b0 [q]) := hb6
  go_wp2_with fail
  generalize w6.drewN m7 = w7 at hg57 hb7 ⊢
  have hq7 := hq5.grown hg57 (.inr (by simp [Value.ownBlock]; omega))
  have hbw7 : Below w.heap.size w w7 := hbw5.grown hg57 (by omega) (fun k hk => by injection hk; omega)
  have hs7 := hg57.size
  have Hs1 := Lib.hid (stamped_len b0 [q] Hz.out)
  have Hst1 := Lib.hid (stamped_take b0 [q] Hz.out)
  clear hb6 Hg6 hwas' hb' hq5 C5 hb3 hb4 hb5 hg57
  refine (copy_any (some ⟨w.heap.size, 0, none⟩) 32 32 w7.heap.size (stamped b0 [q]) w7 Hs1.out.symm hb7.rdS.1).mono ?_
  rintro e w8 ⟨va, rfl, ha8, hb8⟩
  obtain ⟨ga, ka, rfl, hga, hga8, hka, _, _⟩ := ha8.pos (by rw [Hs1.out]; omega)
  rw [Hs1.out] at ha8 hka ⊢
  have hs8 := hb8.size
  go_wp2_with fail
  refine (copy_any (some ⟨gq, 0, none⟩) q.length cq w8.heap.size q w8 rfl (hq7.below hb8).rdS.1).mono ?_
  rintro e w9 ⟨vo, rfl, ho9, hb9⟩
  obtain ⟨go, ko, rfl, hgo, hgo9, hko, _, _⟩ := ho9.pos Hq.out.1
  have hs9 := hb9.size
  have hb9' := (hb7.below hb8).below hb9
  have hq9 := (hq7.below hb8).below hb9
  have ha9 := ha8.below hb9
  have hbw9 : Below w.heap.size w w9 := (hbw7.trans (hb8.mono (by omega))).trans (hb9.mono (by omega))
  clear hb7 hq7 ha8
  go_wp2_with fail
  have hwi := withinI_bd at_ (q.length : Int) (by have := Hq.out.1; omega)
  obtain ⟨i, hi⟩ := Int.eq_ofNat_of_zero_le hwi.1
  rw [hi] at hwi
  have hiq : i < q.length := by omega
  have Hi := Lib.hid hi
  clear hi hwi
  refine (within_any at_ (q.length : Int) w9 hat_ (by have := Hq.out; omega)).mono ?_
  rintro e w' ⟨rfl, rfl⟩
  rw [Hi.out]
  obtain ⟨hco, hfo⟩ := ho9.cell rfl i hiq
  have exr := xor_u8 (q.getD i 0) c
  have Hset := Lib.hid (ho9.set rfl i (q.getD i 0 ^^^ c))
  have Hmath := Lib.hid (seal_other b0 q i c Hz.out hiq)
  generalize q.getD i 0 = y at hco exr Hset Hmath
  generalize y ^^^ c = y' at exr Hset Hmath
  go_wp2_with fail
  have hg10 := Hset.out.2
  have ho10 := Hset.out.1
  generalize w'.setCell ⟨go, i, none⟩ (.int .u8 (y'.toNat : Int)) = w10 at hg10 ho10 ⊢
  have hb10 := hb9'.grown hg10 (.inr (by simp [Value.ownBlock]; omega))
  have hq10 := hq9.grown hg10 (.inr (by simp [Value.ownBlock]; omega))
  have ha10 := ha9.grown hg10 (.inr (by simp [Value.ownBlock]; omega))
  have hbw10 : Below w.heap.size w w10 := hbw9.grown hg10 (by omega) (fun k hk => by injection hk; omega)
  have hs10 := hg10.size
  have Hql : Hid ((q.set i y').length = q.length) := Lib.hid (by simp)
  clear Hset hco hfo exr hb9' hq9 ha9 hg10 ho9
  refine (copy_any (some ⟨w.heap.size, 0, none⟩) 32 32 w10.heap.size (stamped b0 [q]) w10 Hs1.out.symm hb10.rdS.1).mono ?_
  rintro e w11 ⟨vd, rfl, hd11, hb11⟩
  obtain ⟨gd, kd, rfl, hgd, hgd11, hkd, _, _⟩ := hd11.pos (by rw [Hs1.out]; omega)
  rw [Hs1.out] at hd11 hkd ⊢
  have hs11 := hb11.size
  have hb11' := hb10.below hb11
  have hq11 := hq10.below hb11
  have ha11 := ha10.below hb11
  have ho11 := ho10.below hb11
  have hbw11 : Below w.heap.size w w11 := hbw10.trans (hb11.mono (by omega))
  clear hb10 hq10 ha10 ho10
  rw [← Hql.out] at ho11
  go_wp2_with fail
  refine (stamp_one ga ka w7.heap.size _ cq _ (stamped b0 [q]) q _ w11 rfl ha11 Hs1.out hq11.rdS.1 (ht.below hbw11 hpos)).mono ?_
  rintro e w12 ⟨rfl, ha12, hg12⟩
  rw [restamped b0 _ _ Hz.out] at ha12
  have hb12 := hb11'.grown hg12 (.inr (by simp [Value.ownBlock]; omega))
  have hq12 := hq11.grown hg12 (.inr (by simp [Value.ownBlock]; omega))
  have hd12 := hd11.grown hg12 (.inr (by simp [Value.ownBlock]; omega))
  have ho12 := ho11.grown hg12 (.inr (by simp [Value.ownBlock]; omega))
  have hbw12 : Below w.heap.size w w12 := hbw11.grown hg12 (by omega) (fun k hk => by injection hk; omega)
  have hs12 := hg12.size
  clear hb11' hq11 hd11 ho11 ha11 hg12
  go_wp2_with fail
  refine (same_any _ _ 32 32 ka 32 w12.heap.size (stamped b0 [q]) (stamped b0 [q]) w12 Hs1.out.symm Hs1.out.symm ha12.rdS.1 hb12.rdS.1).mono ?_
  rintro e w13 ⟨rfl, m13, rfl⟩
  rw [decide_eq_true rfl]
  go_wp2_with fail
  have hb13 : OwB _ (w12.drewN m13) _ _ _ := hb12
  have hq13 : OwB _ (w12.drewN m13) _ _ _ := hq12
  have hd13 : OwB _ (w12.drewN m13) _ _ _ := hd12
  have ho13 : OwB _ (w12.drewN m13) _ _ _ := ho12
  have hbw13 : Below w.heap.size w (w12.drewN m13) := hbw12.trans (belowN _ _ _)
  have hs13 : w12.heap.size = (w12.drewN m13).heap.size := rfl
  clear hb12 hq12 hd12 ho12 ha12 hbw12
  refine (stamp_one gd kd w10.heap.size _ ko q.length (stamped b0 [q]) (q.set i y') _ (w12.drewN m13) Hql.out hd13 Hs1.out ho13.rdS.1 (ht.below hbw13 hpos)).mono ?_
  rintro e w14 ⟨rfl, hd14, hg14⟩
  have hb14 := hb13.grown hg14 (.inr (by simp [Value.ownBlock]; omega))
  have hq14 := hq13.grown hg14 (.inr (by simp [Value.ownBlock]; omega))
  have hbw14 : Below w.heap.size w w14 := hbw13.grown hg14 (by omega) (fun k hk => by injection hk; omega)
  have hs14 := hg14.size
  rw [← hs13] at hs14
  clear hb13 hq13 hd13 ho13 hg14 hbw13 hs13
  have Hl14 := Lib.hid (stamped_len (stamped b0 [q]) [q.set i y'] Hs1.out)
  go_wp2_with fail
  refine (same_any _ _ 32 32 kd 32 w14.heap.size (stamped (stamped b0 [q]) [q.set i y']) (stamped b0 [q]) w14 Hl14.out.symm Hs1.out.symm hd14.rdS.1 hb14.rdS.1).mono ?_
  rintro e w15 ⟨rfl, m15, rfl⟩
  rw [Hmath.out]
  have hb15 : OwB _ (w14.drewN m15) _ _ _ := hb14
  have hq15 : OwB _ (w14.drewN m15) _ _ _ := hq14
  have hbw15 : Below w.heap.size w (w14.drewN m15) := hbw14.trans (belowN _ _ _)
  have hs15 : w14.heap.size = (w14.drewN m15).heap.size := rfl
  clear hb14 hq14 hd14 hbw14
  go_wp2_with fail
  refine (stampNo_any _ _ 31 32 _ _ _ (by decide)).mono ?_
  rintro e w16 ⟨rfl, rfl⟩
  go_wp2_with fail
  have hb16 := hb15.below (below1 (w14.drewN m15) (.cells #[.slice (some ⟨gq, 0, none⟩) q.length cq] 23))
  have hbw16 := hbw15.alloc hbw15.size (.cells #[.slice (some ⟨gq, 0, none⟩) q.length cq] 23)
  generalize (w14.drewN m15).alloc (.cells #[.slice (some ⟨gq, 0, none⟩) q.length cq] 23) = w16 at hb16 hbw16 ⊢
  clear hb15 hq15 hbw15
  refine (copy_any (some ⟨w.heap.size, 0, none⟩) 32 32 w16.heap.size (stamped b0 [q]) w16 Hs1.out.symm hb16.rdS.1).mono ?_
  rintro e w17 ⟨vc, rfl, hc17, hb17⟩
  have hs16 := hbw16.size
  have hbw17 : Below w.heap.size w w17 := hbw16.trans (hb17.mono hs16)
  have hs17 := hb17.size
  go_wp2_with (at_builtin; refine wpList_append_B _ rfl _ _ _ rfl w16.heap.size 5 Tryd.underlying23 info_u8 vc (stamped b0 [q]) rfl (hc17.below (below1 w17 _)) (w17.heap.size + 1) (some ⟨w17.heap.size, 0, none⟩) 1 1 [0] rfl rfl (rdb_block (hp_new _ _ _ rfl) (by omega) (by simp) (fun k hk => by obtain rfl : k = 0 := (by simp at hk; omega); rfl)) (by rw [Hs1.out]; simp) (by simp; omega) ?_; intro vz w18 hz18 hg18 _)
  have hbw18 : Below w.heap.size w w18 := (hbw17.alloc hbw17.size (.cells #[.int .u8 0] 5)).grown hg18 (by have := hbw17.size; simp; omega) (fun k hk => by have := (hc17.lt k hk).1; omega)
  obtain ⟨Az, kz, rfl, _, _⟩ := hz18.rd
  have Hlz : Hid ((stamped b0 [q] ++ [0]).length = 33) := Lib.hid (by rw [List.length_append, Hs1.out]; rfl)
  rw [Hlz.out]
  refine (stampNo_any Az none 33 kz 0 0 w18 (by decide)).mono ?_
  rintro e w19 ⟨rfl, rfl⟩
  clear hz18 hg18 hc17 hb16 hbw16
  go_wp2_with (go_at_call 9; refine (wakes_any _ (ht.below hbw18 hpos)).mono ?_; rintro e w20 ⟨rfl, hb20⟩)
  go_ret
  exact ⟨rfl, hbw18.trans (hb20.mono hbw18.size)⟩
end Go.Proofs.YtgpdmdahlcihmaaDoor
