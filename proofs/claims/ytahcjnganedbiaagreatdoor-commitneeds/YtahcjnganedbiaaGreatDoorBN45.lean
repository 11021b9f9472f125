/- Layer 16's law: same, of two readings of the same nodes (written by comsame.py). -/
import Derived.Test.YtahcjnganedbiaaGreatDoorBN43
import Derived.Test.YtahcjnganedbiaaGreatDoorBN38
import Derived.Test.YtahcjnganedbiaaGreatDoorBN09
namespace Go.Proofs.YtahcjnganedbiaaGreatDoor
namespace Sha
open Go.RowKit Mem
set_option maxRecDepth 100000
theorem neqRR_self16 {a : RefV} (ha : a.Wf) (x y : Operand) (w : World) : (do eqGuard .neq 64 x y (.agg (refC a)) (.agg (refC a)); binOp .neq 64 (.agg (refC a)) (.agg (refC a)) : Sem Value).run Tryz.prog w = .ok (.bool false) w := by
 have h := neqRR14 ha ha x y w
 rw [sameRef_self] at h
 exact h
set_option maxHeartbeats 8000000 in
theorem same16_any (N : List NdV) (va vb : Value) (w : World) (ha : SlNd w va N) (hb : SlNd w vb N) (hN : NdWf N) : Calls Tryz.prog 16 #[va, vb] w (VEnd (.bool true) w) := by
 obtain ⟨aa, ca, rfl⟩ := ha.hd
 obtain ⟨ab, cb, rfl⟩ := hb.hd
 have hget := hN.get
 have hl := hN.n
 obtain ⟨n, hn⟩ : ∃ n, n = N.length := ⟨_, rfl⟩
 rw [← hn] at ha hb hl hget ⊢
 have HA := zh ha; have HB := zh hb; have HN := zh hn; have GET := zh hget
 clear ha hb hn hget hN
 go_enter Tryz.func16, Tryz.ntmps16
 go_wp2_with fail
 go_loopw [15] (fun vi wr => ∃ j : Nat, j ≤ n ∧ vi = .int .i64 (j : Int) ∧ Below w.heap.size w wr) (fun vi _ => n - (intOf vi).toNat)
 case atStart => exact ⟨0, by omega, rfl, Below.refl _ _⟩
 case round =>
  obtain ⟨j, hj, rfl, hbw⟩ := hrel
  by_cases hlt : j < n
  ·have hlt' : (j : Int) < (n : Int) := by omega
   obtain ⟨ba, oa, ua, e1, hlb, cz0, cu0, hsu⟩ := slnd_at (i := j) HA.out HN.out hlt
   subst e1
   obtain ⟨bb, ob, ub, e1, hlb2, dz0, du0, hsv⟩ := slnd_at (i := j) HB.out HN.out hlt
   subst e1
   have hgt := GET.out j hlt
   obtain ⟨x, hx⟩ : ∃ x, x = (N.getD j znd).2 := ⟨_, rfl⟩
   obtain ⟨y, hy⟩ : ∃ y, y = (N.getD j znd).1 := ⟨_, rfl⟩
   rw [← hx] at hsu hsv hgt
   rw [← hy] at cz0 dz0
   obtain ⟨a3, c3, e3⟩ := hsu.hd
   subst e3
   obtain ⟨a4, c4, e4⟩ := hsv.hd
   subst e4
   obtain ⟨m, hm⟩ : ∃ m, m = x.length := ⟨_, rfl⟩
   have hm1 : m ≤ 1000 := by rw [hm]; exact hgt.1
   have XW := zh hgt.2
   rw [← hm] at cu0 hsu du0 hsv
   have SX := zh hsu; have SY := zh hsv; have HM := zh hm; have BW := zh hbw
   have L1 : Hid (ba < wr.heap.size) := zh (Nat.lt_of_lt_of_le hlb hbw.size); have L2 : Hid (bb < wr.heap.size) := zh (Nat.lt_of_lt_of_le hlb2 hbw.size)
   have CZ : Hid (wr.cell? ⟨ba, oa + j * 2, none⟩ = some (.int .i64 y)) := zh ((cell_keep hbw hlb).trans cz0)
   have CU : Hid (wr.cell? ⟨ba, oa + j * 2 + 1, none⟩ = some (.slice a3 m c3)) := zh ((cell_keep hbw hlb).trans cu0)
   have DZ : Hid (wr.cell? ⟨bb, ob + j * 2, none⟩ = some (.int .i64 y)) := zh ((cell_keep hbw hlb2).trans dz0)
   have DU : Hid (wr.cell? ⟨bb, ob + j * 2 + 1, none⟩ = some (.slice a4 m c4)) := zh ((cell_keep hbw hlb2).trans du0)
   clear cz0 cu0 dz0 du0 hsu hsv hgt hx hy hm hlb hlb2 hbw
   go_upto_region 6 with fail
   refine wp_region_plan_in (fun x' => Below wr.heap.size wr x') (.take 0 (.take 1 (.take 2 (.take 3 (.take 4 (.take 5 (.take 6 (.take 7 (.take 8 (.take 9 (.take 10 (.take 11 (.take 12 (.take 13 (.take 14 (.take 15 (.take 16 (.take 17 (.take 18 (.take 19 (.take 20 (.take 21 (.take 22 (.take 23 (.take 24 (.take 25 .done)))))))))))))))))))))))))) (by kernel_rfl) (by kernel_rfl) (by kernel_rfl) (Below.refl _ _).drew ?_
   (first | refine Mem.pm1 ?_ | refine Mem.pm2 ?_ | refine Mem.pt ?_ | refine Mem.pf ?_)
   (simp only [Act.put, Mem.pa, Mem.pb, Mem.pc])
   (first | refine Mem.pm1 ?_ | refine Mem.pm2 ?_ | refine Mem.pt ?_ | refine Mem.pf ?_)
   (simp only [Act.put, Mem.pa, Mem.pb, Mem.pc])
   refine plan_index_z 45 52 _ _ ba oa n ca 2 j zr zr zr Mem.ev_a Mem.ev_a (by omega) Tryz.underlying45 (by kernel_rfl) ?_
   (simp only [Act.put, Mem.pa, Mem.pb, Mem.pc])
   refine plan_field 52 _ 0 ba (oa + j * 2) ⟨ba, oa + j * 2, none⟩ zr zr zr Mem.ev_a (fun wx => by go_simp) ?_
   (simp only [Act.put, Mem.pa, Mem.pb, Mem.pc])
   refine plan_cell 3 _ _ (.int .i64 y) _ zr zr zr Mem.ev_a (fun w' hw' => (hw'.cell (p := ⟨ba, oa + j * 2, none⟩) L1.out).trans CZ.out) Tryz.underlying3 zr ?_
   (simp only [Act.put, Mem.pa, Mem.pb, Mem.pc])
   (first | refine Mem.pm1 ?_ | refine Mem.pm2 ?_ | refine Mem.pt ?_ | refine Mem.pf ?_)
   (simp only [Act.put, Mem.pa, Mem.pb, Mem.pc])
   (first | refine Mem.pm1 ?_ | refine Mem.pm2 ?_ | refine Mem.pt ?_ | refine Mem.pf ?_)
   (simp only [Act.put, Mem.pa, Mem.pb, Mem.pc])
   refine plan_index_z 22 54 _ _ bb ob n cb 2 j zr zr zr Mem.ev_a Mem.ev_a (by omega) Tryz.underlying22 (by kernel_rfl) ?_
   (simp only [Act.put, Mem.pa, Mem.pb, Mem.pc])
   refine plan_field 54 _ 0 bb (ob + j * 2) ⟨bb, ob + j * 2, none⟩ zr zr zr Mem.ev_a (fun wx => by go_simp) ?_
   (simp only [Act.put, Mem.pa, Mem.pb, Mem.pc])
   refine plan_cell 3 _ _ (.int .i64 y) _ zr zr zr Mem.ev_a (fun w' hw' => (hw'.cell (p := ⟨bb, ob + j * 2, none⟩) L2.out).trans DZ.out) Tryz.underlying3 zr ?_
   (simp only [Act.put, Mem.pa, Mem.pb, Mem.pc])
   refine plan_bin _ _ _ _ _ _ _ (.bool false) zr zr zr Mem.ev_a Mem.ev_a (fun wx => o_ine _ _ _ _ _ wx) ?_
   (simp only [Act.put, Mem.pa, Mem.pb, Mem.pc])
   (first | refine Mem.pm1 ?_ | refine Mem.pm2 ?_ | refine Mem.pt ?_ | refine Mem.pf ?_)
   (simp only [Act.put, Mem.pa, Mem.pb, Mem.pc])
   (first | refine Mem.pm1 ?_ | refine Mem.pm2 ?_ | refine Mem.pt ?_ | refine Mem.pf ?_)
   (simp only [Act.put, Mem.pa, Mem.pb, Mem.pc])
   (first | refine Mem.pm1 ?_ | refine Mem.pm2 ?_ | refine Mem.pt ?_ | refine Mem.pf ?_)
   (simp only [Act.put, Mem.pa, Mem.pb, Mem.pc])
   refine plan_index_z 45 52 _ _ ba oa n ca 2 j zr zr zr Mem.ev_a Mem.ev_a (by omega) Tryz.underlying45 (by kernel_rfl) ?_
   (simp only [Act.put, Mem.pa, Mem.pb, Mem.pc])
   refine plan_field 52 _ 1 ba (oa + j * 2) ⟨ba, oa + j * 2 + 1, none⟩ zr zr zr Mem.ev_a (fun wx => by go_simp) ?_
   (simp only [Act.put, Mem.pa, Mem.pb, Mem.pc])
   refine plan_cell 42 _ _ (.slice a3 m c3) _ zr zr zr Mem.ev_a (fun w' hw' => (hw'.cell (p := ⟨ba, oa + j * 2 + 1, none⟩) L1.out).trans CU.out) Tryz.underlying42 zr ?_
   (simp only [Act.put, Mem.pa, Mem.pb, Mem.pc])
   refine plan_len _ _ _ _ m _ zr zr zr zr Mem.ev_a (fun wx => by go_simp) ?_
   (simp only [Act.put, Mem.pa, Mem.pb, Mem.pc])
   (first | refine Mem.pm1 ?_ | refine Mem.pm2 ?_ | refine Mem.pt ?_ | refine Mem.pf ?_)
   (simp only [Act.put, Mem.pa, Mem.pb, Mem.pc])
   (first | refine Mem.pm1 ?_ | refine Mem.pm2 ?_ | refine Mem.pt ?_ | refine Mem.pf ?_)
   (simp only [Act.put, Mem.pa, Mem.pb, Mem.pc])
   refine plan_index_z 22 54 _ _ bb ob n cb 2 j zr zr zr Mem.ev_a Mem.ev_a (by omega) Tryz.underlying22 (by kernel_rfl) ?_
   (simp only [Act.put, Mem.pa, Mem.pb, Mem.pc])
   refine plan_field 54 _ 1 bb (ob + j * 2) ⟨bb, ob + j * 2 + 1, none⟩ zr zr zr Mem.ev_a (fun wx => by go_simp) ?_
   (simp only [Act.put, Mem.pa, Mem.pb, Mem.pc])
   refine plan_cell 47 _ _ (.slice a4 m c4) _ zr zr zr Mem.ev_a (fun w' hw' => (hw'.cell (p := ⟨bb, ob + j * 2 + 1, none⟩) L2.out).trans DU.out) Tryz.underlying47 zr ?_
   (simp only [Act.put, Mem.pa, Mem.pb, Mem.pc])
   refine plan_len _ _ _ _ m _ zr zr zr zr Mem.ev_a (fun wx => by go_simp) ?_
   (simp only [Act.put, Mem.pa, Mem.pb, Mem.pc])
   refine plan_bin _ _ _ _ _ _ _ (.bool false) zr zr zr Mem.ev_a Mem.ev_a (fun wx => o_ine _ _ _ _ _ wx) ?_
   (simp only [Act.put, Mem.pa, Mem.pb, Mem.pc])
   refine plan_pick_f _ _ _ _ zr zr zr Mem.ev_a Mem.ev_a ?_
   (simp only [Act.put, Mem.pa, Mem.pb, Mem.pc])
   refine plan_nil ?_
   have cu : wr.drew.cell? ⟨ba, oa + j * 2 + 1, none⟩ = some (.slice a3 m c3) := CU.out
   have B6 : Hid (Below w.heap.size w wr.drew) := zh BW.out.drew
   have DU6 : Hid (wr.drew.cell? ⟨bb, ob + j * 2 + 1, none⟩ = some (.slice a4 m c4)) := DU
   have L26 : Hid (bb < wr.drew.heap.size) := L2
   generalize wr.drew = w6 at *
   clear CZ CU DZ DU L1 L2
   go_upto_region 9 with fail
   clear cu
   go_loopw [50] (fun vi wr => ∃ i : Nat, i ≤ m ∧ vi = .int .i64 (i : Int) ∧ Below w6.heap.size w6 wr) (fun vi _ => m - (intOf vi).toNat)
   case atStart => exact ⟨0, by omega, rfl, Below.refl _ _⟩
   case round =>
    obtain ⟨i, hi, rfl, hb7⟩ := hrel
    by_cases hit : i < m
    ·have hit' : (i : Int) < (m : Int) := by omega
     obtain ⟨b2, o2, e2, hlb2, hrg⟩ := slrf_at (i := i) SX.out HM.out hit
     subst e2
     obtain ⟨b4, o4, e4, hlb4, hrg4⟩ := slrf_at (i := i) SY.out HM.out hit
     subst e4
     have hwi := getD_wf XW.out i
     obtain ⟨r, hr⟩ : ∃ r, r = x.getD i zref := ⟨_, rfl⟩
     rw [← hr] at hrg hrg4 hwi
     have nq := fun wx a b => neqRR_self16 hwi a b wx
     have hx := zeroRfP
     obtain ⟨M, hM⟩ : ∃ M, M = refC r := ⟨_, rfl⟩
     obtain ⟨Z, hZ⟩ : ∃ Z, Z = refC zref := ⟨_, rfl⟩
     have zsz : Z.size = 34 := by rw [hZ]; exact refC_size zref_wf
     have ms : M.size = 34 := by rw [hM]; exact refC_size hwi
     have mo : M.all (·.oneCell') = true := by rw [hM]; exact refC_one r
     have b07 : Below w.heap.size w wr := B6.out.trans (hb7.mono B6.out.size)
     have hrgm : wr.rangeAt b2 (o2 + i * 34) M.toList := by rw [hM]; exact range_block hrg (b07.block b2 hlb2)
     have hrgn : wr.rangeAt b4 (o4 + i * 34) M.toList := by rw [hM]; exact range_block hrg4 (b07.block b4 hlb4)
     rw [← hM] at nq
     rw [← hZ] at hx
     have MS := zh ms; have MO := zh mo; have ZSZ := zh zsz; have NQ := zh nq; have RGM := zh hrgm
     have A8 := zh (at_new wr M 69)
     have hq : Below wr.heap.size wr (wr.alloc (.cells M 69)) := (Below.refl _ _).alloc (Nat.le_refl _) _
     have RGN : Hid ((wr.alloc (.cells M 69)).rangeAt b4 (o4 + i * 34) M.toList) := zh (range_block hrgn (hq.block b4 (Nat.lt_of_lt_of_le hlb4 b07.size)))
     have L4 : Hid (b4 < (wr.alloc (.cells M 69)).heap.size) := zh (Nat.lt_of_lt_of_le hlb4 (Nat.le_trans b07.size hq.size))
     have B8 : Hid (Below w6.heap.size w6 (wr.alloc (.cells M 69))) := zh (hb7.alloc hb7.size _)
     have DU8 : Hid ((wr.alloc (.cells M 69)).cell? ⟨bb, ob + j * 2 + 1, none⟩ = some (.slice (some ⟨b4, o4, none⟩) m c4)) := zh ((cell_keep B8.out L26.out).trans DU6.out)
     have L28 : Hid (bb < (wr.alloc (.cells M 69)).heap.size) := zh (Nat.lt_of_lt_of_le L26.out B8.out.size)
     clear hrg hrg4 hwi hr nq zsz ms mo hrgm hrgn hM hZ hlb2 hlb4 b07 hq hb7
     go_upto_region 11 with (first
      | (refine wpList_load_mid zr 69 _ zr b2 (o2 + i * 34) zr M.toList _ RGM.out Tryz.underlying69 zr (by rw [infoRfP, Array.length_toList, MS.out]) ?_; rw [Array.toArray_toList])
      | (refine wpList_store_new zr 69 _ _ zr zr M _ _ zr zr (by rw [MS.out]; exact infoRfP) (by rw [MS.out, ZSZ.out]) MO.out ?_))
     clear hx
     obtain ⟨b8, hb8⟩ : ∃ b, b = wr.heap.size := ⟨_, rfl⟩
     rw [← hb8] at A8 ⊢
     clear hb8
     generalize (wr.alloc (.cells M 69)) = w8 at *
     refine wp_region_plan_in (fun x' => Below w8.heap.size w8 x') (.take 0 (.take 1 (.take 2 (.take 3 (.take 4 (.take 5 (.take 6 (.take 7 (.take 8 (.take 9 .done)))))))))) (by kernel_rfl) (by kernel_rfl) (by kernel_rfl) (Below.refl _ _).drew ?_
     refine plan_row 69 _ b8 _ M 69 zr zr zr Mem.ev_a (fun w' hw' => A8.out.below hw' A8.out.lt) Tryz.underlying69 zr (by rw [MS.out]; exact infoRfP) ?_
     (simp only [Act.put, Mem.pa, Mem.pb, Mem.pc])
     (first | refine Mem.pm1 ?_ | refine Mem.pm2 ?_ | refine Mem.pt ?_ | refine Mem.pf ?_)
     (simp only [Act.put, Mem.pa, Mem.pb, Mem.pc])
     (first | refine Mem.pm1 ?_ | refine Mem.pm2 ?_ | refine Mem.pt ?_ | refine Mem.pf ?_)
     (simp only [Act.put, Mem.pa, Mem.pb, Mem.pc])
     refine plan_index_z 22 54 _ _ bb ob n cb 2 j zr zr zr Mem.ev_a Mem.ev_a (by omega) Tryz.underlying22 (by kernel_rfl) ?_
     (simp only [Act.put, Mem.pa, Mem.pb, Mem.pc])
     refine plan_field 54 _ 1 bb (ob + j * 2) ⟨bb, ob + j * 2 + 1, none⟩ zr zr zr Mem.ev_a (fun wx => by go_simp) ?_
     (simp only [Act.put, Mem.pa, Mem.pb, Mem.pc])
     refine plan_cell 47 _ _ (.slice (some ⟨b4, o4, none⟩) m c4) _ zr zr zr Mem.ev_a (fun w' hw' => (hw'.cell (p := ⟨bb, ob + j * 2 + 1, none⟩) L28.out).trans DU8.out) Tryz.underlying47 zr ?_
     (simp only [Act.put, Mem.pa, Mem.pb, Mem.pc])
     (first | refine Mem.pm1 ?_ | refine Mem.pm2 ?_ | refine Mem.pt ?_ | refine Mem.pf ?_)
     (simp only [Act.put, Mem.pa, Mem.pb, Mem.pc])
     refine plan_index_z 47 64 _ _ b4 o4 m c4 34 i zr zr zr Mem.ev_a Mem.ev_a (by omega) Tryz.underlying47 (by kernel_rfl) ?_
     (simp only [Act.put, Mem.pa, Mem.pb, Mem.pc])
     refine plan_load_range 64 _ b4 (o4 + i * 34) _ M zr zr zr Mem.ev_a (fun w' hw' => range_block RGN.out (hw'.block b4 L4.out)) Tryz.underlying64 zr (by rw [MS.out]; exact infoRfR) ?_
     (simp only [Act.put, Mem.pa, Mem.pb, Mem.pc])
     refine plan_bin _ _ _ _ _ _ _ (.bool false) zr zr zr Mem.ev_a Mem.ev_a (fun wx => NQ.out wx _ _) ?_
     (simp only [Act.put, Mem.pa, Mem.pb, Mem.pc])
     refine plan_nil ?_
     have B9 : Hid (Below w6.heap.size w6 w8.drew) := zh B8.out.drew
     go_wp2_with fail
     go_roundw
     case rel => exact ⟨i + 1, by omega, by go_num, B9.out⟩
     case measure => simp [intOf]; omega
    ·have him : i = m := by omega
     subst him
     have hge : ¬ (i : Int) < (i : Int) := by omega
     have B9 : Hid (Below w.heap.size w wr) := zh (B6.out.trans (hb7.mono B6.out.size))
     clear hb7
     go_wp2_with fail
     go_roundw
     case rel => exact ⟨j + 1, by omega, by go_num, B9.out⟩
     case measure => simp [intOf]; omega
  ·have hjn : j = n := by omega
   subst hjn
   have hge : ¬ (j : Int) < (j : Int) := by omega
   have BW := zh hbw
   clear hbw
   go_wp2_with fail
   go_ret
   exact ⟨rfl, BW.out⟩
end Sha
end Go.Proofs.YtahcjnganedbiaaGreatDoor
