/- Loads in a plain region, guarded or not. Over any program. The walk of the message schedule: the words of a block. -/
import Derived.Test.YtahcjnganedbiaaGreatDoorBN00
import Derived.Test.YtahcjnganedbiaaGreatDoorBN01
import Derived.Test.YtahcjnganedbiaaGreatDoorBN03
namespace Go.Proofs.YtahcjnganedbiaaGreatDoor
namespace Mem
open Go.RowKit
theorem wpList_load_is_wanted {P : Program} {ops : Array Oper} {rest : List Oper} {o : Oper} {a : Act} {w : World} {Q : Exit → Act → World → Prop} (hw : Region.wanted o (yielded ops a.tmps) = true) (ty : TypeId) (x : Operand) (hop : o.op = .load ty x)
 (b c n : Nat) (hx : a.eval x = .pointer (some ⟨b, c, none⟩)) (d : TypeDesc) (hu : P.underlying ty = some d) (hd : d.isRow = true) (hi : (P.info? ty).map (·.size) = some n)
 (C : Array Value) (t : TypeId) (hC : At w b C t) (hn : c + n ≤ C.size) (R : Array Value) (hR : C.extract c (c + n) = R) (h : wpList P ops Q rest (a.put o.dst (.agg R)) w) : wpList P ops Q (o :: rest) a w := by
 unfold wpList
 rw [if_pos hw]
 left
 unfold Oper.wp
 have hr := run_loadAt_mid (P := P) w b c ty (C.extract c (c + n)).toList d (hC.range c n) hu hd (by rw [hi]; simp; omega)
 have : (execOp a.eval o).run P w = .ok (.value (.agg R)) w := by
  unfold execOp
  simp only [hop, hx, Sem.run_bind, hr, Result.andThen_ok, Sem.run_pure]
  simp [hR]
 rw [this]
 exact h
end Mem
end Go.Proofs.YtahcjnganedbiaaGreatDoor
namespace Go.Proofs.YtahcjnganedbiaaGreatDoor
namespace Sha
open Go.RowKit Mem
def wrow (l : List (BitVec 32)) : Array Value := (u32s (l ++ List.replicate (64 - l.length) 0)).toArray
def Z64 : Array Value := wrow []
theorem zero64 (w : World) : (zeroValue 254).run Tryz.prog w = .ok (.agg Z64) w := by kernel_rfl
theorem wrow_get (l : List (BitVec 32)) (i : Nat) (h : i < 64) (hl : l.length ≤ 64) : (wrow l)[i]? = some (.int .u32 (V (l.getD i 0))) := by
 unfold wrow
 rw [List.getElem?_toArray]
 rw [u32s_get _ i (by simp; omega)]
 have e : (l ++ List.replicate (64 - l.length) 0).getD i 0 = l.getD i 0 := ?_
 ·rw [e]
 simp only [List.getD_eq_getElem?_getD, List.getElem?_append]
 split
 ·rfl
 ·rename_i h'
  rw [List.getElem?_replicate, List.getElem?_eq_none (by omega)]
  split <;> rfl
theorem wrow_set (l : List (BitVec 32)) (x : BitVec 32) (hl : l.length < 64) : (wrow l).setIfInBounds l.length (.int .u32 (V x)) = wrow (l ++ [x]) := by
 unfold wrow u32s
 rw [List.setIfInBounds_toArray]
 congr 1
 have e : 64 - l.length = (64 - (l ++ [x]).length) + 1 := by simp; omega
 rw [e, List.replicate_succ]
 simp
theorem wrow_size (l : List (BitVec 32)) (h : l.length ≤ 64) : (wrow l).size = 64 := by
 simp [wrow, u32s]; omega
theorem info64 : (Tryz.prog.info? 254).map (·.size) = some 64 := by kernel_rfl
structure SInv (B : Nat) (A : Array Value) (l : List (BitVec 32)) (w wr : World) : Prop where
 a : At wr B A 217
 r : At wr (B + 1) Z64 254
 v : At wr (B + 2) (wrow l) 254
 b : Below B w wr
set_option maxRecDepth 100000 in
set_option maxHeartbeats 400000 in
theorem sched_any (T : List (BitVec 8)) (hT : T.length = 64) (w : World) :
 Calls Tryz.prog 168 #[.agg (u8s T).toArray] w fun e w' => e = .returned (.agg (u32s (sched T)).toArray) ∧ Below w.heap.size w w' := by
 obtain ⟨A, hA⟩ : ∃ A, A = (u8s T).toArray := ⟨_, rfl⟩
 obtain ⟨Z, hZ⟩ : ∃ Z, Z = Z64 := ⟨_, rfl⟩
 rw [← hA]
 have hz := zero64
 rw [← hZ] at hz
 have HA := zh hA; have HZ := zh hZ; have HT := zh hT; clear hA hZ hT
 go_enter Tryz.func168, Tryz.ntmps168
 go_wp2_with fail
 go_loopw [4, 10] (fun _ v10 wr => ∃ k : Nat, k ≤ 16 ∧ v10 = .int .i64 k ∧ SInv w.heap.size A (wds T k) w wr) (fun _ v10 _ => 16 - (intOf v10).toNat)
 case atStart =>
  refine ⟨0, by omega, rfl, ?_, ?_, ?_, ?_⟩
  ·exact ((at_new w A _).alloc _).alloc _
  ·rw [← HZ.out]
   have := (at_new (w.alloc (.cells A 217)) Z 254).alloc (.cells Z 254)
   simpa using this
  ·have e : wrow (wds T 0) = Z := HZ.out.symm
   rw [e]
   have := at_new ((w.alloc (.cells A 217)).alloc (.cells Z 254)) Z 254
   simpa using this
  ·exact (((Below.refl _ _).alloc (Nat.le_refl _) _).alloc (by simp) _).alloc (by simp; omega) _
 case round =>
  obtain ⟨k, hk, rfl, hI⟩ := hrel
  by_cases hlt : k < 16
  ·have key : ∀ j, j < 4 → wr.cell? ⟨w.heap.size, 4 * k + j, none⟩ = some (.int .u8 ((T.getD (4 * k + j) 0).toNat : Int)) := fun j hj => by
    rw [hI.a.cell, HA.out, List.getElem?_toArray]
    exact u8s_get T _ (by rw [HT.out]; omega)
   have c0 := key 0 (by omega)
   have c1 := key 1 (by omega)
   have c2 := key 2 (by omega)
   have c3 := key 3 (by omega)
   clear key
   obtain ⟨b0, e0⟩ : ∃ b, b = T.getD (4 * k) 0 := ⟨_, rfl⟩
   obtain ⟨b1, e1⟩ : ∃ b, b = T.getD (4 * k + 1) 0 := ⟨_, rfl⟩
   obtain ⟨b2, e2⟩ : ∃ b, b = T.getD (4 * k + 2) 0 := ⟨_, rfl⟩
   obtain ⟨b3, e3⟩ : ∃ b, b = T.getD (4 * k + 3) 0 := ⟨_, rfl⟩
   rw [Nat.add_zero, ← e0] at c0
   rw [← e1] at c1
   rw [← e2] at c2
   rw [← e3] at c3
   have E := zh (And.intro e0 (And.intro e1 (And.intro e2 e3)))
   clear e0 e1 e2 e3
   have l0 := b0.isLt
   have l1 := b1.isLt
   have l2 := b2.isLt
   have l3 := b3.isLt
   have hf : wr.frozen? ⟨w.heap.size + 1 + 1, k, none⟩ = false := hI.v.free k
   have hdr : wr.drew.heap = wr.heap := rfl
   have hc : wr.cell? ⟨w.heap.size + 1 + 1, k, none⟩ = some (.int .u32 0) := by
    rw [show w.heap.size + 1 + 1 = w.heap.size + 2 from rfl, hI.v.cell, wrow_get _ k (by omega) (by rw [wds_length]; omega)]
    rw [List.getD_eq_getElem?_getD, List.getElem?_eq_none (by rw [wds_length]; omega)]; rfl
   go_wp2_with fail
   refine wp_region_quiet_tail 31 (by kernel_rfl) (by kernel_rfl) ?_
   simp only [List.take_succ_cons, List.take_zero, List.drop_succ_cons, List.drop_zero]
   repeat (go_big_quiet_step (fail))
   refine wpQuiet_nil ?_
   go_wp2_with fail
   go_roundw
   case rel =>
    refine ⟨k + 1, by omega, by go_num, ?_⟩
    rw [word_val]
    refine ⟨(hI.a.set_other _ _ (by simp; omega)).drew, (hI.r.set_other _ _ (by simp)).drew, ?_, (hI.b.setCell (by simp; omega) _).drew⟩
    have e := wrow_set (wds T k) (word T k) (by rw [wds_length]; omega)
    rw [wds_length] at e
    have hv := hI.v.set k (.int .u32 (V (word T k)))
    rw [e] at hv
    obtain ⟨e0, e1, e2, e3⟩ := E.out
    rw [e0, e1, e2, e3]
    exact hv.drew
   case measure => simp [intOf]; omega
  ·have hk16 : k = 16 := by omega
   rw [hk16] at hI
   have hge : ¬ (k : Int) < 16 := by omega
   clear hk16 hk hlt
   go_wp2_with fail
   obtain ⟨wo, rfl⟩ : ∃ wo : World, wo = wr := ⟨_, rfl⟩
   go_loopw [5] (fun v5 wq => ∃ j : Nat, j ≤ 48 ∧ v5 = .int .i64 ((j : Int) + 16) ∧ SInv w.heap.size A (ext (wds T 16) j) w wq) (fun v5 _ => 64 - (intOf v5).toNat)
   case atStart => exact ⟨0, by omega, rfl, hI⟩
   case round =>
    clear hI
    obtain ⟨j, hj, rfl, hI⟩ := hrel
    by_cases hlt : j < 48
    ·have hlen : (ext (wds T 16) j).length = j + 16 := by rw [ext_length, wds_length]; omega
     have key : ∀ i, i < 64 → wr.cell? ⟨w.heap.size + 1 + 1, i, none⟩ = some (.int .u32 (V ((ext (wds T 16) j).getD i 0))) := fun i hi => by
      rw [show w.heap.size + 1 + 1 = w.heap.size + 2 from rfl, hI.v.cell, wrow_get _ i hi (by omega)]
     obtain ⟨x, hx⟩ : ∃ x, x = (ext (wds T 16) j).getD (j + 14) 0 := ⟨_, rfl⟩
     obtain ⟨y, hy⟩ : ∃ y, y = (ext (wds T 16) j).getD (j + 1) 0 := ⟨_, rfl⟩
     obtain ⟨z, hz'⟩ : ∃ z, z = (ext (wds T 16) j).getD (j + 9) 0 := ⟨_, rfl⟩
     obtain ⟨v, hv⟩ : ∃ v, v = (ext (wds T 16) j).getD j 0 := ⟨_, rfl⟩
     have c2 := key (j + 14) (by omega)
     have c15 := key (j + 1) (by omega)
     have c7 := key (j + 9) (by omega)
     have c16 := key j (by omega)
     have hc := key (j + 16) (by omega)
     rw [← hx] at c2
     rw [← hy] at c15
     rw [← hz'] at c7
     rw [← hv] at c16
     obtain ⟨o, ho⟩ : ∃ o : Int, o = V ((ext (wds T 16) j).getD (j + 16) 0) := ⟨_, rfl⟩
     rw [← ho] at hc
     have hf : wr.frozen? ⟨w.heap.size + 1 + 1, j + 16, none⟩ = false := hI.v.free _
     have E := zh (And.intro hx (And.intro hy (And.intro hz' hv)))
     have HL := zh hlen
     clear hx hy hz' hv key ho hlen
     have s2 : IntKind.i64.wrap ((j : Int) + 16 - 2) = (j : Int) + 14 := by rw [IntWalk.i64_in _ (by omega)]; omega
     have s15 : IntKind.i64.wrap ((j : Int) + 16 - 15) = (j : Int) + 1 := by rw [IntWalk.i64_in _ (by omega)]; omega
     have s7 : IntKind.i64.wrap ((j : Int) + 16 - 7) = (j : Int) + 9 := by rw [IntWalk.i64_in _ (by omega)]; omega
     have s16 : IntKind.i64.wrap ((j : Int) + 16 - 16) = (j : Int) := by rw [IntWalk.i64_in _ (by omega)]; omega
     have q0 : 0 ≤ (j : Int) := by omega
     have q1 : 0 ≤ (j : Int) + 1 := by omega
     have q9 : 0 ≤ (j : Int) + 9 := by omega
     have q14 : 0 ≤ (j : Int) + 14 := by omega
     have i14 : (j : Int) + 14 < 64 := by omega
     have i9 : (j : Int) + 9 < 64 := by omega
     have i1 : (j : Int) + 1 < 64 := by omega
     have i0 : (j : Int) < 64 := by omega
     have n14 : ((j : Int) + 14).toNat = j + 14 := by omega
     have n9 : ((j : Int) + 9).toNat = j + 9 := by omega
     have n1 : ((j : Int) + 1).toNat = j + 1 := by omega
     go_wp2_with fail
     go_quiet (fail)
     go_wp2_with (go_at_call 169; first | ((with_reducible refine (turn_any _ 17 17 _ rfl (by decide) (by decide)).mono ?_); rintro e w' ⟨rfl, rfl⟩) | ((with_reducible refine (turn_any _ 19 19 _ rfl (by decide) (by decide)).mono ?_); rintro e w' ⟨rfl, rfl⟩) | ((with_reducible refine (turn_any _ 7 7 _ rfl (by decide) (by decide)).mono ?_); rintro e w' ⟨rfl, rfl⟩) | ((with_reducible refine (turn_any _ 18 18 _ rfl (by decide) (by decide)).mono ?_); rintro e w' ⟨rfl, rfl⟩))
     refine wp_region_quiet_tail 15 (by kernel_rfl) (by kernel_rfl) ?_
     simp only [List.take_succ_cons, List.take_zero, List.drop_succ_cons, List.drop_zero]
     repeat (go_big_quiet_step (fail))
     refine wpQuiet_nil ?_
     go_wp2_with fail
     go_roundw
     case rel =>
      refine ⟨j + 1, by omega, by go_num, ?_⟩
      rw [r_xor, r_xor, shr10, shr3, r_xor, r_xor, r_add4]
      have hlen := HL.out
      have e := wrow_set (ext (wds T 16) j) (nextW (ext (wds T 16) j)) (by omega)
      rw [hlen] at e
      have hv := At.set (w := wr.drewN (nq + 1)) hI.v (j + 16) (.int .u32 (V (nextW (ext (wds T 16) j))))
      rw [e] at hv
      refine ⟨At.set_other (w := wr.drewN (nq + 1)) hI.a _ _ (by simp; omega), At.set_other (w := wr.drewN (nq + 1)) hI.r _ _ (by simp), ?_, (Below.drewN' hI.b).setCell (by simp; omega) _⟩
      obtain ⟨ex, ey, ez, ev⟩ := E.out
      have en : nextW (ext (wds T 16) j) = (x.rotateRight 17 ^^^ x.rotateRight 19 ^^^ (x >>> 10)) + z + (y.rotateRight 7 ^^^ y.rotateRight 18 ^^^ (y >>> 3)) + v := by
       unfold nextW s0 s1
       rw [hlen, show j + 16 - 2 = j + 14 from rfl, show j + 16 - 15 = j + 1 from rfl, show j + 16 - 7 = j + 9 from rfl, show j + 16 - 16 = j from rfl, ← ex, ← ey, ← ez, ← ev]
      rw [← en]
      exact hv
     case measure => simp [intOf]; omega
    ·have hj48 : j = 48 := by omega
     rw [hj48] at hI
     have hge' : ¬ (j : Int) + 16 < 64 := by omega
     clear hj48 hj hlt
     have hv : At wr (w.heap.size + 1 + 1) (wrow (ext (wds T 16) 48)) 254 := hI.v
     have hr : At wr (w.heap.size + 1) Z64 254 := hI.r
     have hb := hI.b
     have hsz : (wrow (ext (wds T 16) 48)).size = 64 := wrow_size _ (by rw [ext_length, wds_length]; omega)
     have hfin : wrow (ext (wds T 16) 48) = (u32s (sched T)).toArray := by
      have : (ext (wds T 16) 48).length = 64 := by rw [ext_length, wds_length]
      unfold wrow sched; rw [this]; simp
     have HF := zh hfin; clear hfin
     generalize wrow (ext (wds T 16) 48) = D at *
     have HV := zh hv; have HR := zh hr; have HB := zh hb; have HS := zh hsz
     have h1 : D.all (·.oneCell') = true := by rw [HF.out]; exact u32s_one _
     have H1 := zh h1
     clear hv hr hb hsz hI h1
     go_wp2_with (first | (refine wpList_load_all zr 254 _ zr _ zr _ Tryz.underlying254 zr _ _ HV.out (by rw [HS.out]; exact info64) ?_) | (refine wpList_store_all zr 254 _ _ zr zr _ _ zr zr (by rw [HS.out]; exact info64) _ _ HR.out (by rw [HS.out]; rfl) H1.out ?_))
     try simp only [Exit.inBlock, Exit.then]
     refine ret_row zr (w.heap.size + 1) 254 D _ zr (HR.out.row D) Tryz.underlying254 zr (by rw [HS.out]; exact info64) ?_
     exact ⟨by rw [HF.out], below_row HB.out (by omega) D⟩
end Sha
end Go.Proofs.YtahcjnganedbiaaGreatDoor
