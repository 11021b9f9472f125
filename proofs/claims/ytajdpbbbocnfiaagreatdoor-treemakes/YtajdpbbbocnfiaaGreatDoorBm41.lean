/- Package dev: Write, Put: walks. -/
import Derived.Test.YtajdpbbbocnfiaaGreatDoorBm37
import Derived.Test.YtajdpbbbocnfiaaGreatDoorBm39
namespace Go.Proofs.YtajdpbbbocnfiaaGreatDoor
namespace Sha
open Go.RowKit Mem
theorem elemRW : elemR Tryz.prog 107 104 zeroPut 2 32 := ⟨Tryz.underlying107, by kernel_rfl⟩
theorem pv_wait {F D : Foot} {br bb n N : Nat} {w w2 w3 w5 w8 : World} {s : St6} {vw vs vt vw' v2 : Value} {x : List (BitVec 8)} {ws : List (Nat × Value)} (h : PV F D br bb w s vw vs vt) (he : Each2 (fun p q => p.1 = q.1 ∧ SlB D w p.2 q.2) ws s.w)
 (hb : Below w.heap.size w w2) (ho : OwnB w2 w.heap.size v2 x) (hb2 : Below w2.heap.size w2 w3) (ha : App w3 w5 vw vw') (hb5 : Below 0 w3 w5) (ho5 : w5.ownsRow 0 104 2 vw' (s.w.length + 1) (putC ws ++ [.int .i64 (n : Int), v2]))
 (hN : N = s.n) (hA : At w8 br (pRow bb N vw' vs vt) 109) (hk2 : ∀ k, k ≠ br → w8.heap[k]? = w5.heap[k]?) (hk : ∀ B a, Below B a w5 → B ≤ br → Below B a w8) :
 PV (grow F w w8) (fun k => D k ∨ v2.ownBlock = some k) br bb w8 { s with w := s.w ++ [(n, x)] } vw' vs vt ∧ Chg F w w8 := by
 obtain ⟨m2, s2⟩ := pm_data h.m h.blt hb ho
 have m3 := m2.keep hb2.size fun k _ _ hlt => hb2.block k hlt
 have hb3 : Below w.heap.size w w3 := hb.trans (hb2.mono hb.size)
 have e3 : Each2 (fun p q => p.1 = q.1 ∧ SlB (fun k => D k ∨ v2.ownBlock = some k) w3 p.2 q.2) (ws ++ [(n, v2)]) (s.w ++ [(n, x)]) :=
  Each2.snoc ⟨rfl, s2.keep hb2.size fun k _ hlt => hb2.block k hlt⟩ (he.mono fun _ _ h => ⟨h.1, (h.2.keep hb3.size fun k _ hlt => hb3.block k hlt).mono fun _ hk _ => .inl hk⟩)
 have m5 := pm_wait m3 (Nat.lt_of_lt_of_le h.blt hb3.size) ⟨_, h.row.below hb3 h.blt⟩ ha e3 (by rw [List.length_append, putC_snoc]; exact ho5)
 have c3 : Chg F w w3 := Chg.of_below hb3
 exact pv_set (s' := { s with w := s.w ++ [(n, x)] }) h hN (c3.trans (F1 := F) (ha.chg hb5 fun k e => (h.m.ow k e).1) fun k hk => .inl hk) hA hk2 hk m5 (fun k hk _ => by
  rcases hk with (hk | hk) | hk
  ·exact .inl hk
  ·exact .inr hk
  ·exact .inr (Nat.le_trans hb3.size hk))
set_option maxRecDepth 100000 in
set_option maxHeartbeats 4000000 in
theorem pwrite_good {F : Foot} {br : Nat} {s : St6} (n : Nat) (x : List (BitVec 8)) (v : Value) (w : World) (hr : PSt F br w s) (hok : Ok6 1000 s) (hx : Sl w v x) (hn : n < s.n) (hxl : x.length = 256) :
 Calls Tryz.prog 71 #[rq br, .int .i64 (n : Int), v] w fun e w' => e = .returned (.int .i64 0) ∧ StEnd PSt F br w (dvWrite s n x) w' := by
 obtain ⟨D, bb, vw, vs, vt, hv⟩ := hr
 obtain ⟨aw, capw, rfl⟩ := hv.w_hd
 have hck := pcheck_good br bb s.n n _ vs vt w hv.row hok.n2 hn
 have hm1 := hok.w
 have ht : s.t.length ≤ 1001 := Nat.le_succ_of_le hok.t
 obtain ⟨ws, he, hown⟩ := hv.m.hw
 have hne := own_ne_at hown hv.row (by decide)
 have hcl := pclone_any x v w.drew (by omega) (hx.below (Below.refl _ _).drew)
 obtain ⟨ax, capx, rfl, _, _⟩ := hx
 rw [hxl] at hcl ⊢
 obtain ⟨N, hN⟩ : ∃ N, N = s.n := ⟨_, rfl⟩
 obtain ⟨M, hM⟩ : ∃ M, M = s.w.length := ⟨_, rfl⟩
 have hrow := hv.row
 rw [← hM] at hrow hm1 hown hne hv
 rw [← hN] at hrow
 have hv2 := hv.below (Below.refl _ _).drew
 have c1 : w.drew.cell? ⟨br, 1, none⟩ = some (.slice aw M capw) := by show w.cell? _ = _; rw [hrow.cell]; rfl
 have hbld : ∀ (a2 : Option Addr) (l c : Nat) (wx : World), (Instr.build 104 #[(0, .int .i64 (n : Int)), (1, .slice a2 l c)]).run Tryz.prog wx = .ok (.agg (wRow n (.slice a2 l c))) wx := fun a2 l c wx => by
  unfold wRow
  go_simp
 have HV := zh hv2; have CK := zh hck; have CL := zh hcl; have HROW : Hid (At w.drew br (pRow bb N (.slice aw M capw) vs vt) 109) := hrow.drew; have HO : Hid (w.drew.ownsRow 0 104 2 (.slice aw M capw) M (putC ws)) := hown; have HE : Hid (Each2 (fun p q => p.1 = q.1 ∧ SlB D w.drew p.2 q.2) ws s.w) := he; have NE := zh hne; have C1 := zh c1; have XL := zh hxl; have HN := zh hN; have HM := zh hM; have HT := zh ht; have BLD := zh hbld
 clear hv hv2 hck hcl hrow hown he hne c1 hxl hN hM ht hbld hok
 go_enter Tryz.func71, Tryz.ntmps71
 go_wp2_with fail
 refine CK.out.mono ?_
 rintro o w' ⟨rfl, rfl⟩
 go_wp2_with fail
 refine wp_region_plan_in (fun _ => True) (.take 0 (.take 1 (.take 2 (.take 3 (.take 5 (.take 6 (.two 4 7 (.sole 7 (.take 8 (.sole 9 (.sole 10 (.take 11 (.take 12 (.sole 13 .done))))))) (.take 8 (.two 4 9 (.sole 9 (.sole 10 (.take 11 (.take 12 (.sole 13 .done))))) (.sole 4 (.sole 10 (.take 11 (.take 12 (.sole 13 .done)))))))))))))) (by kernel_rfl) (by kernel_rfl) (by kernel_rfl) trivial ?_
 (first | refine Mem.pm1 ?_ | refine Mem.pm2 ?_ | refine Mem.pt ?_ | refine Mem.pf ?_)
 (simp only [Act.put, Mem.pa, Mem.pb, Mem.pc])
 (first | refine Mem.pm1 ?_ | refine Mem.pm2 ?_ | refine Mem.pt ?_ | refine Mem.pf ?_)
 (simp only [Act.put, Mem.pa, Mem.pb, Mem.pc])
 refine plan_nilcheck _ ⟨br, 0, none⟩ zr zr zr Mem.ev_a ?_
 (simp only [Act.put, Mem.pa, Mem.pb, Mem.pc])
 refine plan_field 109 _ 1 br 0 ⟨br, 1, none⟩ zr zr zr Mem.ev_a (fun wx => by go_simp) ?_
 (simp only [Act.put, Mem.pa, Mem.pb, Mem.pc])
 (first | refine Mem.pm1 ?_ | refine Mem.pm2 ?_ | refine Mem.pt ?_ | refine Mem.pf ?_)
 (simp only [Act.put, Mem.pa, Mem.pb, Mem.pc])
 (first | refine Mem.pm1 ?_ | refine Mem.pm2 ?_ | refine Mem.pt ?_ | refine Mem.pf ?_)
 (simp only [Act.put, Mem.pa, Mem.pb, Mem.pc])
 refine plan_two ?_ ?_
 ·refine plan_sole_cell 107 _ _ (.slice aw M capw) _ zr zr zr Mem.ev_a (by first | exact C1.out | exact C2.out | exact C3.out) Tryz.underlying107 zr trivial ?_
  (simp only [Act.put, Mem.pa, Mem.pb, Mem.pc])
  refine plan_call 46 _ _ _ (by kernel_rfl) zr zr zr (by first | exact Mem.ev_none _ | (simp only [List.map_toArray, List.map_cons, List.map_nil, Mem.ev_tmp, List.getD_cons_succ, List.getD_cons_zero] <;> rfl)) ?_
  refine CL.out.mono ?_
  rintro o w2 ⟨v2, rfl, ho2, hb2⟩
  obtain ⟨a2, c2, rfl⟩ := own_hd ho2 XL.out.symm
  have C2 : Hid (w2.cell? ⟨br, 1, none⟩ = some (.slice aw M capw)) := by have h := C1.out; rw [hb2.cell (p := ⟨br, 1, none⟩) HV.out.blt]; exact h
  have C3 : Hid ((w2.alloc (.cells (wRow n (.slice a2 256 c2)) 104)).cell? ⟨br, 1, none⟩ = some (.slice aw M capw)) := (cell_alloc (block_lt_of_cell C2.out)).trans C2.out
  have O2 := zh ho2; have B2 := zh hb2; have OW := zh (ownsRow_below (ownsRow_below HO.out hb2) ((Below.refl _ w2).alloc (Nat.le_refl _) (.cells (wRow n (.slice a2 256 c2)) 104)))
  clear ho2 hb2
  refine ⟨_, rfl, trivial, ?_⟩
  (simp only [Act.put, Mem.pa, Mem.pb, Mem.pc])
  refine plan_build 104 _ #[(0, .int .i64 (n : Int)), (1, .slice a2 256 c2)] (.agg (wRow n (.slice a2 256 c2))) zr zr zr (by first | rfl | simp [Act.eval]) (fun wx => BLD.out _ _ _ wx) ?_
  (simp only [Act.put, Mem.pa, Mem.pb, Mem.pc])
  refine plan_slice 107 104 1 _ (wRow n (.slice a2 256 c2)) zr zr zr Tryz.underlying107 (by kernel_rfl) trivial ?_
  (simp only [Act.put, Mem.pa, Mem.pb, Mem.pc])
  refine plan_append_app _ _ 107 zr zr zr (.slice (some ⟨w2.heap.size, 0, none⟩) 1 1) M 1 2 [.int .i64 (n : Int), .slice a2 256 c2] zeroPut 32 elemRW zr (by decide) Mem.ev_a OW.out Mem.ev_a (by exact rdR_new (e := 104) (C := wRow n (.slice a2 256 c2))) (by simp [Value.oneCell']) (by omega) (by omega) (by omega) ?_
  intro v5 w5 ho5 ha5 hb5
  obtain ⟨a5, c5, rfl⟩ := rows_hd ho5
  have O5 := zh ho5; have A5 := zh ha5; have B5 := zh hb5
  have R5 : Hid (At w5 br (pRow bb N (.slice aw M capw) vs vt) 109) := at_appd (((HROW.out.below B2.out HV.out.blt)).alloc _) A5.out NE.out
  clear ho5 ha5 hb5
  refine ⟨trivial, ?_⟩
  (simp only [Act.put, Mem.pa, Mem.pb, Mem.pc])
  refine plan_nilcheck _ ⟨br, 0, none⟩ zr zr zr Mem.ev_a ?_
  (simp only [Act.put, Mem.pa, Mem.pb, Mem.pc])
  refine plan_field 109 _ 1 br 0 ⟨br, 1, none⟩ zr zr zr Mem.ev_a (fun wx => by go_simp) ?_
  (simp only [Act.put, Mem.pa, Mem.pb, Mem.pc])
  refine plan_store_one 107 _ _ br 1 (.slice a5 (M + 1) c5) _ 109 zr zr zr zr Mem.ev_a Mem.ev_a zr infoWs R5.out (by simp [pRow]) trivial ?_
  refine plan_nil ?_
  have E8 := zh (pv_wait (n := n) HV.out HE.out B2.out O2.out ((Below.refl _ w2).alloc (Nat.le_refl _) _) A5.out B5.out (by rw [← HM.out]; exact O5.out) HN.out (R5.out.set 1 (.slice a5 (M + 1) c5)) (fun k hk => heap_setCell_other w5 ⟨br, 1, none⟩ k _ hk) (fun B a hB hle => hB.setCell hle _))
  generalize w5.setCell ⟨br, 1, none⟩ (.slice a5 (M + 1) c5) = w8 at *
  go_wp2_with fail
  refine (pnote_any (n : Int) w8 E8.out.1.ps HT.out).mono ?_
  rintro o w9 ⟨rfl, hs9⟩
  have S9 := zh hs9
  clear hs9
  go_wp2_with fail
  go_ret
  exact ⟨rfl, StEnd.trans ((Chg.refl F w).drew) (fun k hk => .inl hk) (StEnd.trans E8.out.2 grow_ext S9.out)⟩
 ·refine plan_call 46 _ _ _ (by kernel_rfl) zr zr zr (by first | exact Mem.ev_none _ | (simp only [List.map_toArray, List.map_cons, List.map_nil, Mem.ev_tmp, List.getD_cons_succ, List.getD_cons_zero] <;> rfl)) ?_
  refine CL.out.mono ?_
  rintro o w2 ⟨v2, rfl, ho2, hb2⟩
  obtain ⟨a2, c2, rfl⟩ := own_hd ho2 XL.out.symm
  have C2 : Hid (w2.cell? ⟨br, 1, none⟩ = some (.slice aw M capw)) := by have h := C1.out; rw [hb2.cell (p := ⟨br, 1, none⟩) HV.out.blt]; exact h
  have C3 : Hid ((w2.alloc (.cells (wRow n (.slice a2 256 c2)) 104)).cell? ⟨br, 1, none⟩ = some (.slice aw M capw)) := (cell_alloc (block_lt_of_cell C2.out)).trans C2.out
  have O2 := zh ho2; have B2 := zh hb2; have OW := zh (ownsRow_below (ownsRow_below HO.out hb2) ((Below.refl _ w2).alloc (Nat.le_refl _) (.cells (wRow n (.slice a2 256 c2)) 104)))
  clear ho2 hb2
  refine ⟨_, rfl, trivial, ?_⟩
  (simp only [Act.put, Mem.pa, Mem.pb, Mem.pc])
  refine plan_build 104 _ #[(0, .int .i64 (n : Int)), (1, .slice a2 256 c2)] (.agg (wRow n (.slice a2 256 c2))) zr zr zr (by first | rfl | simp [Act.eval]) (fun wx => BLD.out _ _ _ wx) ?_
  (simp only [Act.put, Mem.pa, Mem.pb, Mem.pc])
  refine plan_two ?_ ?_
  ·refine plan_sole_cell 107 _ _ (.slice aw M capw) _ zr zr zr Mem.ev_a (by first | exact C1.out | exact C2.out | exact C3.out) Tryz.underlying107 zr trivial ?_
   (simp only [Act.put, Mem.pa, Mem.pb, Mem.pc])
   refine plan_slice 107 104 1 _ (wRow n (.slice a2 256 c2)) zr zr zr Tryz.underlying107 (by kernel_rfl) trivial ?_
   (simp only [Act.put, Mem.pa, Mem.pb, Mem.pc])
   refine plan_append_app _ _ 107 zr zr zr (.slice (some ⟨w2.heap.size, 0, none⟩) 1 1) M 1 2 [.int .i64 (n : Int), .slice a2 256 c2] zeroPut 32 elemRW zr (by decide) Mem.ev_a OW.out Mem.ev_a (by exact rdR_new (e := 104) (C := wRow n (.slice a2 256 c2))) (by simp [Value.oneCell']) (by omega) (by omega) (by omega) ?_
   intro v5 w5 ho5 ha5 hb5
   obtain ⟨a5, c5, rfl⟩ := rows_hd ho5
   have O5 := zh ho5; have A5 := zh ha5; have B5 := zh hb5
   have R5 : Hid (At w5 br (pRow bb N (.slice aw M capw) vs vt) 109) := at_appd (((HROW.out.below B2.out HV.out.blt)).alloc _) A5.out NE.out
   clear ho5 ha5 hb5
   refine ⟨trivial, ?_⟩
   (simp only [Act.put, Mem.pa, Mem.pb, Mem.pc])
   refine plan_nilcheck _ ⟨br, 0, none⟩ zr zr zr Mem.ev_a ?_
   (simp only [Act.put, Mem.pa, Mem.pb, Mem.pc])
   refine plan_field 109 _ 1 br 0 ⟨br, 1, none⟩ zr zr zr Mem.ev_a (fun wx => by go_simp) ?_
   (simp only [Act.put, Mem.pa, Mem.pb, Mem.pc])
   refine plan_store_one 107 _ _ br 1 (.slice a5 (M + 1) c5) _ 109 zr zr zr zr Mem.ev_a Mem.ev_a zr infoWs R5.out (by simp [pRow]) trivial ?_
   refine plan_nil ?_
   have E8 := zh (pv_wait (n := n) HV.out HE.out B2.out O2.out ((Below.refl _ w2).alloc (Nat.le_refl _) _) A5.out B5.out (by rw [← HM.out]; exact O5.out) HN.out (R5.out.set 1 (.slice a5 (M + 1) c5)) (fun k hk => heap_setCell_other w5 ⟨br, 1, none⟩ k _ hk) (fun B a hB hle => hB.setCell hle _))
   generalize w5.setCell ⟨br, 1, none⟩ (.slice a5 (M + 1) c5) = w8 at *
   go_wp2_with fail
   refine (pnote_any (n : Int) w8 E8.out.1.ps HT.out).mono ?_
   rintro o w9 ⟨rfl, hs9⟩
   have S9 := zh hs9
   clear hs9
   go_wp2_with fail
   go_ret
   exact ⟨rfl, StEnd.trans ((Chg.refl F w).drew) (fun k hk => .inl hk) (StEnd.trans E8.out.2 grow_ext S9.out)⟩
  ·refine plan_slice 107 104 1 _ (wRow n (.slice a2 256 c2)) zr zr zr Tryz.underlying107 (by kernel_rfl) trivial ?_
   (simp only [Act.put, Mem.pa, Mem.pb, Mem.pc])
   refine plan_sole_cell 107 _ _ (.slice aw M capw) _ zr zr zr Mem.ev_a (by first | exact C1.out | exact C2.out | exact C3.out) Tryz.underlying107 zr trivial ?_
   (simp only [Act.put, Mem.pa, Mem.pb, Mem.pc])
   refine plan_append_app _ _ 107 zr zr zr (.slice (some ⟨w2.heap.size, 0, none⟩) 1 1) M 1 2 [.int .i64 (n : Int), .slice a2 256 c2] zeroPut 32 elemRW zr (by decide) Mem.ev_a OW.out Mem.ev_a (by exact rdR_new (e := 104) (C := wRow n (.slice a2 256 c2))) (by simp [Value.oneCell']) (by omega) (by omega) (by omega) ?_
   intro v5 w5 ho5 ha5 hb5
   obtain ⟨a5, c5, rfl⟩ := rows_hd ho5
   have O5 := zh ho5; have A5 := zh ha5; have B5 := zh hb5
   have R5 : Hid (At w5 br (pRow bb N (.slice aw M capw) vs vt) 109) := at_appd (((HROW.out.below B2.out HV.out.blt)).alloc _) A5.out NE.out
   clear ho5 ha5 hb5
   refine ⟨trivial, ?_⟩
   (simp only [Act.put, Mem.pa, Mem.pb, Mem.pc])
   refine plan_nilcheck _ ⟨br, 0, none⟩ zr zr zr Mem.ev_a ?_
   (simp only [Act.put, Mem.pa, Mem.pb, Mem.pc])
   refine plan_field 109 _ 1 br 0 ⟨br, 1, none⟩ zr zr zr Mem.ev_a (fun wx => by go_simp) ?_
   (simp only [Act.put, Mem.pa, Mem.pb, Mem.pc])
   refine plan_store_one 107 _ _ br 1 (.slice a5 (M + 1) c5) _ 109 zr zr zr zr Mem.ev_a Mem.ev_a zr infoWs R5.out (by simp [pRow]) trivial ?_
   refine plan_nil ?_
   have E8 := zh (pv_wait (n := n) HV.out HE.out B2.out O2.out ((Below.refl _ w2).alloc (Nat.le_refl _) _) A5.out B5.out (by rw [← HM.out]; exact O5.out) HN.out (R5.out.set 1 (.slice a5 (M + 1) c5)) (fun k hk => heap_setCell_other w5 ⟨br, 1, none⟩ k _ hk) (fun B a hB hle => hB.setCell hle _))
   generalize w5.setCell ⟨br, 1, none⟩ (.slice a5 (M + 1) c5) = w8 at *
   go_wp2_with fail
   refine (pnote_any (n : Int) w8 E8.out.1.ps HT.out).mono ?_
   rintro o w9 ⟨rfl, hs9⟩
   have S9 := zh hs9
   clear hs9
   go_wp2_with fail
   go_ret
   exact ⟨rfl, StEnd.trans ((Chg.refl F w).drew) (fun k hk => .inl hk) (StEnd.trans E8.out.2 grow_ext S9.out)⟩
end Sha
end Go.Proofs.YtajdpbbbocnfiaaGreatDoor
