/- The program's meter: Use and Used (written by eppuse.py). -/
import Derived.Test.YtmpibofkihfiiaaEpPAcc
import Derived.Test.YtmpibofkihfiiaaEqStruct
import Derived.Lib.SliceRun
namespace Go.Proofs.Ytmpibofkihfiiaa
namespace Sha
open Go.RowKit Mem
theorem infoUsP : (Try.prog.info? 40).map (·.size) = some 1 := by kernel_rfl
theorem elemUP : elemR Try.prog 40 43 (.agg #[.int .u32 0, .int .i64 0]) 2 16 := ⟨Try.underlying40, by kernel_rfl⟩
theorem buildUP (now b : Int) (w : World) : (Instr.build 43 #[(0, .int .u32 now), (1, .int .i64 b)]).run Try.prog w = .ok (.agg (euC (now, b))) w := by kernel_rfl
theorem zeroUnit (w : World) : (zeroValue 59).run Try.prog w = .ok (.agg #[]) w := by kernel_rfl
/-- One more use. -/
theorem puse_end {F : Foot} {b bm : Nat} {last now x : Int} {l : List EU} {v v' : Value} {w w8 wl w6 : World} (h : PMv F b w ⟨last, now, l⟩ (.map (some bm)) v) (h0 : F bm ∧ BSet w bm (blks now l)) (hc : Chg (fun k => k = bm) w w8) (hset : BSet w8 bm (x :: blks now l)) (hl : Below w8.heap.size w8 wl) (ha : App wl w6 v v') (hb6 : Below 0 wl w6)
    (ho : w6.ownsRow 0 43 2 v' (l.length + 1) (euCs l ++ [.int .u32 now, .int .i64 x])) : EEnd PMt F b w ⟨last, now, l ++ [(now, x)]⟩ (w6.setCell ⟨b, 3, none⟩ v') := by
  obtain ⟨hF, hs0⟩ := h0
  have hne : bm ≠ b := hs0.ne_at h.row
  have hno : v.ownBlock ≠ some bm := hs0.ne_own h.own
  have hnb : v.ownBlock ≠ some b := own_ne_at h.own h.row (by decide)
  have r8 : At w8 b (pmC last now (.map (some bm)) v) 56 := h.row.chg hc fun e => hne e.symm
  have rl := r8.below hl r8.lt
  have r6 := at_appd rl ha hnb
  have s8 := hc.size
  have sl := hl.size
  have s6 := ha.size
  have hnb' : v'.ownBlock ≠ some b := own_ne_at ho r6 (by decide)
  have hsz : (w6.setCell ⟨b, 3, none⟩ v').heap.size = w6.heap.size := size_setCell _ _ _
  have c8 : Chg F w w8 := hc.mono fun k hk => .inl (by rw [hk]; exact hF)
  have c6 : Chg F w w6 := (c8.trans (Chg.of_below (F := F) hl) fun k hk => .inl hk).trans (ha.chg hb6 (F := F) h.ownF) fun k hk => .inl hk
  refine ⟨⟨grow F w (w6.setCell ⟨b, 3, none⟩ v'), ⟨.map (some bm), v', ⟨?_, rfl, ?_, fun k hk => ⟨?_, ?_⟩, ⟨.inl h.bF, by rw [hsz]; exact r6.lt⟩, grow_lt, fun hn => ⟨bm, rfl, ⟨.inl hF, ?_⟩, ?_⟩⟩⟩, grow_ext⟩, ⟨c6.os, c6.tape, c6.output, by rw [hsz]; exact c6.size, fun k hk hn => (heap_setCell_other w6 ⟨b, 3, none⟩ k _ fun e => hn (by rw [e]; exact h.bF)).trans (c6.block k hk hn)⟩⟩
  · have := r6.set 3 v'
    simpa [pmC] using this
  · show World.ownsRow _ _ _ _ _ (l ++ [(now, x)]).length (euCs (l ++ [(now, x)]))
    rw [euCs_snoc, List.length_append, List.length_singleton]
    exact ownsRow_keep ho fun g hg => heap_setCell_other w6 ⟨b, 3, none⟩ g _ fun e => hnb' (by have e : g = b := e; rw [← e]; exact hg)
  · rcases ha.b with h1 | ⟨g, h1, h2⟩
    · rw [h1] at hk; exact .inl (h.ownF k hk)
    · rw [h1] at hk
      have : g = k := by simpa using hk
      exact .inr (by omega)
  · rw [hsz]; exact (World.ownsRow.lt ho k hk).2
  · rw [hsz]
    have := hset.lt
    omega
  · have t6 : BSet (w6.setCell ⟨b, 3, none⟩ v') bm (x :: blks now l) := by
      refine ((hset.same (hl.block bm hset.lt)).same (ha.k bm (Nat.lt_of_lt_of_le hset.lt sl) hno)).same (heap_setCell_other w6 ⟨b, 3, none⟩ bm _ hne)
    have hb : blks now (l ++ [(now, x)]) = blks now l ++ [x] := by simp [blks, List.filter_append]
    show BSet _ bm (blks now (l ++ [(now, x)]))
    rw [hb]
    exact t6.alike (fun c => by simp [or_comm]) (by simp)
set_option maxRecDepth 100000 in
set_option maxHeartbeats 4000000 in
theorem puse_any {F : Foot} {b : Nat} {m : Mtr} (x : Int) (w : World) (h : PMt F b w m) (ok : OkM 1000 m) (hx : (Lit.int .i64 x).wf = true) : Calls Try.prog 19 #[mq b, .int .i64 x] w fun e w' => e = .returned (.int .i64 (m.use x).2) ∧ EEnd PMt F b w (m.use x).1 w' := by
  obtain ⟨mp, v, h⟩ := h
  obtain ⟨last, now, l⟩ := m
  have hlen : l.length ≤ 1000 := ok.len
  clear ok
  have c1 : w.cell? ⟨b, 1, none⟩ = some (.int .u32 now) := by rw [h.row.cell]; rfl
  by_cases g1 : now = 0
  · subst g1
    have H := Lib.hid h; have HX := Lib.hid hx
    clear h hx
    go_enter Try.func19, Try.ntmps19
    go_wp2_with fail
    go_ret
    exact ⟨by simp [Mtr.use], by simpa [Mtr.use] using pm_same H.out (Below.refl _ _)⟩
  by_cases g2 : x < 0
  · have H := Lib.hid h; have HX := Lib.hid hx
    clear h hx
    go_enter Try.func19, Try.ntmps19
    go_wp2_with fail
    go_ret
    exact ⟨by simp [Mtr.use, g2], by simpa [Mtr.use, g2] using pm_same H.out (Below.refl _ _)⟩
  obtain ⟨bm, rfl, hF, hset⟩ := h.map g1
  have hset : BSet w bm (blks now l) := hset
  have c2 : w.cell? ⟨b, 2, none⟩ = some (.map (some bm)) := by rw [h.row.cell]; rfl
  have hhas := hset
  obtain ⟨mn, D, hown, _, hr⟩ := hhas
  have hhas := (hr x hx).1
  have hkey : keyOf Try.prog 3 (.int .i64 x) = some (.int .i64 x) := keyTy_blk.read x hx
  have hS0 : F bm ∧ BSet w bm (blks now l) := ⟨hF, hset⟩
  have ha : Below w.heap.size w (w.alloc (.cells #[] 59)) := (Below.refl _ _).alloc (Nat.le_refl _) _
  have HOW := Lib.hid hown; have KEY := Lib.hid hkey; have H := Lib.hid h; have S0 := Lib.hid hS0; have HX := Lib.hid hx; have BA := Lib.hid ha
  clear hr hown hkey h hF hset hS0 hx ha
  by_cases g3 : x ∈ blks now l
  · have hd : Maps.has D (.int .i64 x) = true := by rw [hhas]; exact decide_eq_true g3
    have hm : (now, x) ∈ l := mem_blks.1 g3
    have HD := Lib.hid hd; have HM := Lib.hid hm
    clear hd hhas g3 hm
    go_enter Try.func19, Try.ntmps19
    go_wp2_with (at_lookup; refine wpList_lookup_own_unit _ rfl _ _ 54 rfl 3 59 keyTy_blk.keyed Try.underlying54 (zeroUnit _) bm mn D rfl HOW.out _ _ rfl KEY.out ?_; rw [HD.out])
    go_ret
    have h2 : ¬ x < 0 := by omega
    have h3 := HM.out
    exact ⟨by simp [Mtr.use, g1, h2, h3], by simpa [Mtr.use, g1, h2, h3] using pm_same H.out BA.out⟩
  · have hd : Maps.has D (.int .i64 x) = false := by rw [hhas]; exact decide_eq_false g3
    have hm : (now, x) ∉ l := fun h => g3 (mem_blks.2 h)
    have hml : (blks now l).length < maxLen := by
      unfold blks maxLen
      rw [List.length_map]
      have := List.length_filter_le (fun p : EU => decide (p.1 = now)) l
      omega
    have hst : BSet (w.alloc (.cells #[] 59)) bm (blks now l) := S0.out.2.alloc _
    have ht := Try.underlying54
    have HD := Lib.hid hd; have NN := Lib.hid hm; have HML := Lib.hid hml; have ST := Lib.hid hst; have G1 := Lib.hid g1; have G2 := Lib.hid g2
    have ca2 : (w.alloc (.cells #[] 59)).cell? ⟨b, 2, none⟩ = some (.map (some bm)) := (BA.out.cell (p := ⟨b, 2, none⟩) H.out.row.lt).trans c2
    clear hd hhas g3 hm hml hst ht
    go_enter Try.func19, Try.ntmps19
    go_wp2_with (first
      | (at_lookup; refine wpList_lookup_own_unit _ rfl _ _ 54 rfl 3 59 keyTy_blk.keyed Try.underlying54 (zeroUnit _) bm mn D rfl HOW.out _ _ rfl KEY.out ?_; rw [HD.out])
      | (at_mapUpdate; go_loud (refine wpList_set_put (by rfl) 54 _ _ _ (by rfl) 59 bm x (.agg #[]) unitElem (.agg []) [] (by rfl) (by rfl) (by rfl) unitElem_mk ST.out keyTy_blk Try.underlying54 HML.out HX.out ?_; intro w8 hs8 hc8 hz8; have SE8 := Lib.hid hs8; have CH8 : Hid (Chg (fun k => k = bm) w w8) := Lib.hid ((Chg.of_below BA.out).trans hc8 fun k hk => .inl hk); clear hs8 hc8 hz8 c1 c2 ca2)))
    have hne := S0.out.2.ne_at H.out.row
    have r8 : At w8 b (pmC last now (.map (some bm)) v) 56 := H.out.row.chg CH8.out fun e => hne e.symm
    have hnb : v.ownBlock ≠ some b := own_ne_at H.out.own H.out.row (by decide)
    have hno : v.ownBlock ≠ some bm := S0.out.2.ne_own H.out.own
    have o8 : w8.ownsRow 0 43 2 v l.length (euCs l) := ownsRow_keep H.out.own fun g hg => CH8.out.block g (World.ownsRow.lt H.out.own g hg).2 fun e => hno (e ▸ hg)
    obtain ⟨a, cap, rfl⟩ := rows_hd o8
    obtain ⟨n, hn⟩ : ∃ n, n = l.length := ⟨_, rfl⟩
    rw [← hn] at r8 o8 hlen
    have hH : PMv F b w ⟨last, now, l⟩ (.map (some bm)) (.slice a n cap) := by rw [hn]; exact H.out
    clear H
    have H := Lib.hid hH
    have c1 : w8.drew.cell? ⟨b, 1, none⟩ = some (.int .u32 now) := by show w8.cell? _ = _; rw [r8.cell]; rfl
    have c3 : w8.drew.cell? ⟨b, 3, none⟩ = some (.slice a n cap) := by show w8.cell? _ = _; rw [r8.cell]; rfl
    have hbl : Below w8.heap.size w8 (w8.drew.alloc (.cells (euC (now, x)) 43)) := (Below.refl _ _).drew.alloc (Nat.le_refl _) _
    have rol := r8.below hbl r8.lt
    have owl := ownsRow_below o8 hbl
    have rdl : RdR (w8.drew.alloc (.cells (euC (now, x)) 43)) 2 (.slice (some ⟨w8.drew.heap.size, 0, none⟩) 1 1) 1 [.int .u32 now, .int .i64 x] := rdR_new (w := w8.drew) (e := 43) (C := euC (now, x))
    have l1 : (w8.drew.alloc (.cells (euC (now, x)) 43)).cell? ⟨b, 1, none⟩ = some (.int .u32 now) := by rw [rol.cell]; rfl
    have l3 : (w8.drew.alloc (.cells (euC (now, x)) 43)).cell? ⟨b, 3, none⟩ = some (.slice a n cap) := by rw [rol.cell]; rfl
    have HN := Lib.hid hn; have BL := Lib.hid hbl; have ROL := Lib.hid rol; have OWL := Lib.hid owl; have RDL := Lib.hid rdl; have L1 := Lib.hid l1; have L3 := Lib.hid l3
    have ONB : Hid ((Value.slice a n cap).ownBlock ≠ some b) := Lib.hid (by rw [hn]; exact hnb)
    clear hH hn hbl rol owl rdl l1 l3 hnb hno o8 r8 hne
    refine wp_region_plan_in (fun x => x.cell? ⟨b, 1, none⟩ = some (.int .u32 now)) (.take 0 (.take 1 (.take 2 (.take 3 (.take 5 (.take 6 (.take 7 (.take 8 (.take 9 (.take 10 (.two 4 11 (.sole 11 (.sole 12 (.take 13 (.take 14 (.sole 15 .done))))) (.sole 4 (.sole 12 (.take 13 (.take 14 (.sole 15 .done)))))))))))))))) (by kernel_rfl) (by kernel_rfl) (by kernel_rfl) c1 ?_
    (first | (refine plan_move _ _ (by rfl) (by rfl) (.inl (by rfl)) (by first | (with_reducible exact Mem.ev_const _ _) | (with_reducible exact Mem.ev_zero _ _ _) | (with_reducible (apply Eq.trans (Mem.ev_tmp _ _ _)); simp only [List.getD_cons_succ, List.getD_cons_zero] <;> rfl)) ?_) | (refine plan_move _ _ (by rfl) (by rfl) (.inr (by rfl)) (by first | (with_reducible exact Mem.ev_const _ _) | (with_reducible exact Mem.ev_zero _ _ _) | (with_reducible (apply Eq.trans (Mem.ev_tmp _ _ _)); simp only [List.getD_cons_succ, List.getD_cons_zero] <;> rfl)) ?_) | (refine plan_pick_t _ _ _ _ (by rfl) (by rfl) (by rfl) (by first | (with_reducible exact Mem.ev_const _ _) | (with_reducible exact Mem.ev_zero _ _ _) | (with_reducible (apply Eq.trans (Mem.ev_tmp _ _ _)); simp only [List.getD_cons_succ, List.getD_cons_zero] <;> rfl)) (by first | (with_reducible exact Mem.ev_const _ _) | (with_reducible exact Mem.ev_zero _ _ _) | (with_reducible (apply Eq.trans (Mem.ev_tmp _ _ _)); simp only [List.getD_cons_succ, List.getD_cons_zero] <;> rfl)) ?_) | (refine plan_pick_f _ _ _ _ (by rfl) (by rfl) (by rfl) (by first | (with_reducible exact Mem.ev_const _ _) | (with_reducible exact Mem.ev_zero _ _ _) | (with_reducible (apply Eq.trans (Mem.ev_tmp _ _ _)); simp only [List.getD_cons_succ, List.getD_cons_zero] <;> rfl)) (by first | (with_reducible exact Mem.ev_const _ _) | (with_reducible exact Mem.ev_zero _ _ _) | (with_reducible (apply Eq.trans (Mem.ev_tmp _ _ _)); simp only [List.getD_cons_succ, List.getD_cons_zero] <;> rfl)) ?_))
    (simp only [Act.put, List.setIfInBounds_toArray, List.set_cons_zero, List.set_cons_succ])
    (first | (refine plan_move _ _ (by rfl) (by rfl) (.inl (by rfl)) (by first | (with_reducible exact Mem.ev_const _ _) | (with_reducible exact Mem.ev_zero _ _ _) | (with_reducible (apply Eq.trans (Mem.ev_tmp _ _ _)); simp only [List.getD_cons_succ, List.getD_cons_zero] <;> rfl)) ?_) | (refine plan_move _ _ (by rfl) (by rfl) (.inr (by rfl)) (by first | (with_reducible exact Mem.ev_const _ _) | (with_reducible exact Mem.ev_zero _ _ _) | (with_reducible (apply Eq.trans (Mem.ev_tmp _ _ _)); simp only [List.getD_cons_succ, List.getD_cons_zero] <;> rfl)) ?_) | (refine plan_pick_t _ _ _ _ (by rfl) (by rfl) (by rfl) (by first | (with_reducible exact Mem.ev_const _ _) | (with_reducible exact Mem.ev_zero _ _ _) | (with_reducible (apply Eq.trans (Mem.ev_tmp _ _ _)); simp only [List.getD_cons_succ, List.getD_cons_zero] <;> rfl)) (by first | (with_reducible exact Mem.ev_const _ _) | (with_reducible exact Mem.ev_zero _ _ _) | (with_reducible (apply Eq.trans (Mem.ev_tmp _ _ _)); simp only [List.getD_cons_succ, List.getD_cons_zero] <;> rfl)) ?_) | (refine plan_pick_f _ _ _ _ (by rfl) (by rfl) (by rfl) (by first | (with_reducible exact Mem.ev_const _ _) | (with_reducible exact Mem.ev_zero _ _ _) | (with_reducible (apply Eq.trans (Mem.ev_tmp _ _ _)); simp only [List.getD_cons_succ, List.getD_cons_zero] <;> rfl)) (by first | (with_reducible exact Mem.ev_const _ _) | (with_reducible exact Mem.ev_zero _ _ _) | (with_reducible (apply Eq.trans (Mem.ev_tmp _ _ _)); simp only [List.getD_cons_succ, List.getD_cons_zero] <;> rfl)) ?_))
    (simp only [Act.put, List.setIfInBounds_toArray, List.set_cons_zero, List.set_cons_succ])
    refine plan_nilcheck _ ⟨b, 0, none⟩ (by rfl) (by rfl) (by rfl) (by first | (with_reducible exact Mem.ev_const _ _) | (with_reducible exact Mem.ev_zero _ _ _) | (with_reducible (apply Eq.trans (Mem.ev_tmp _ _ _)); simp only [List.getD_cons_succ, List.getD_cons_zero] <;> rfl)) ?_
    (simp only [Act.put, List.setIfInBounds_toArray, List.set_cons_zero, List.set_cons_succ])
    refine plan_field 56 _ 3 b 0 ⟨b, 3, none⟩ (by rfl) (by rfl) (by rfl) (by first | (with_reducible exact Mem.ev_const _ _) | (with_reducible exact Mem.ev_zero _ _ _) | (with_reducible (apply Eq.trans (Mem.ev_tmp _ _ _)); simp only [List.getD_cons_succ, List.getD_cons_zero] <;> rfl)) (fun wx => by go_simp) ?_
    (simp only [Act.put, List.setIfInBounds_toArray, List.set_cons_zero, List.set_cons_succ])
    (first | (refine plan_move _ _ (by rfl) (by rfl) (.inl (by rfl)) (by first | (with_reducible exact Mem.ev_const _ _) | (with_reducible exact Mem.ev_zero _ _ _) | (with_reducible (apply Eq.trans (Mem.ev_tmp _ _ _)); simp only [List.getD_cons_succ, List.getD_cons_zero] <;> rfl)) ?_) | (refine plan_move _ _ (by rfl) (by rfl) (.inr (by rfl)) (by first | (with_reducible exact Mem.ev_const _ _) | (with_reducible exact Mem.ev_zero _ _ _) | (with_reducible (apply Eq.trans (Mem.ev_tmp _ _ _)); simp only [List.getD_cons_succ, List.getD_cons_zero] <;> rfl)) ?_) | (refine plan_pick_t _ _ _ _ (by rfl) (by rfl) (by rfl) (by first | (with_reducible exact Mem.ev_const _ _) | (with_reducible exact Mem.ev_zero _ _ _) | (with_reducible (apply Eq.trans (Mem.ev_tmp _ _ _)); simp only [List.getD_cons_succ, List.getD_cons_zero] <;> rfl)) (by first | (with_reducible exact Mem.ev_const _ _) | (with_reducible exact Mem.ev_zero _ _ _) | (with_reducible (apply Eq.trans (Mem.ev_tmp _ _ _)); simp only [List.getD_cons_succ, List.getD_cons_zero] <;> rfl)) ?_) | (refine plan_pick_f _ _ _ _ (by rfl) (by rfl) (by rfl) (by first | (with_reducible exact Mem.ev_const _ _) | (with_reducible exact Mem.ev_zero _ _ _) | (with_reducible (apply Eq.trans (Mem.ev_tmp _ _ _)); simp only [List.getD_cons_succ, List.getD_cons_zero] <;> rfl)) (by first | (with_reducible exact Mem.ev_const _ _) | (with_reducible exact Mem.ev_zero _ _ _) | (with_reducible (apply Eq.trans (Mem.ev_tmp _ _ _)); simp only [List.getD_cons_succ, List.getD_cons_zero] <;> rfl)) ?_))
    (simp only [Act.put, List.setIfInBounds_toArray, List.set_cons_zero, List.set_cons_succ])
    refine plan_nilcheck _ ⟨b, 0, none⟩ (by rfl) (by rfl) (by rfl) (by first | (with_reducible exact Mem.ev_const _ _) | (with_reducible exact Mem.ev_zero _ _ _) | (with_reducible (apply Eq.trans (Mem.ev_tmp _ _ _)); simp only [List.getD_cons_succ, List.getD_cons_zero] <;> rfl)) ?_
    (simp only [Act.put, List.setIfInBounds_toArray, List.set_cons_zero, List.set_cons_succ])
    refine plan_field 56 _ 1 b 0 ⟨b, 1, none⟩ (by rfl) (by rfl) (by rfl) (by first | (with_reducible exact Mem.ev_const _ _) | (with_reducible exact Mem.ev_zero _ _ _) | (with_reducible (apply Eq.trans (Mem.ev_tmp _ _ _)); simp only [List.getD_cons_succ, List.getD_cons_zero] <;> rfl)) (fun wx => by go_simp) ?_
    (simp only [Act.put, List.setIfInBounds_toArray, List.set_cons_zero, List.set_cons_succ])
    refine plan_cell 22 _ _ (.int .u32 now) _ (by rfl) (by rfl) (by rfl) (by first | (with_reducible exact Mem.ev_const _ _) | (with_reducible exact Mem.ev_zero _ _ _) | (with_reducible (apply Eq.trans (Mem.ev_tmp _ _ _)); simp only [List.getD_cons_succ, List.getD_cons_zero] <;> rfl)) (fun w' hw' => hw') Try.underlying22 (by rfl) ?_
    (simp only [Act.put, List.setIfInBounds_toArray, List.set_cons_zero, List.set_cons_succ])
    (first | (refine plan_move _ _ (by rfl) (by rfl) (.inl (by rfl)) (by first | (with_reducible exact Mem.ev_const _ _) | (with_reducible exact Mem.ev_zero _ _ _) | (with_reducible (apply Eq.trans (Mem.ev_tmp _ _ _)); simp only [List.getD_cons_succ, List.getD_cons_zero] <;> rfl)) ?_) | (refine plan_move _ _ (by rfl) (by rfl) (.inr (by rfl)) (by first | (with_reducible exact Mem.ev_const _ _) | (with_reducible exact Mem.ev_zero _ _ _) | (with_reducible (apply Eq.trans (Mem.ev_tmp _ _ _)); simp only [List.getD_cons_succ, List.getD_cons_zero] <;> rfl)) ?_) | (refine plan_pick_t _ _ _ _ (by rfl) (by rfl) (by rfl) (by first | (with_reducible exact Mem.ev_const _ _) | (with_reducible exact Mem.ev_zero _ _ _) | (with_reducible (apply Eq.trans (Mem.ev_tmp _ _ _)); simp only [List.getD_cons_succ, List.getD_cons_zero] <;> rfl)) (by first | (with_reducible exact Mem.ev_const _ _) | (with_reducible exact Mem.ev_zero _ _ _) | (with_reducible (apply Eq.trans (Mem.ev_tmp _ _ _)); simp only [List.getD_cons_succ, List.getD_cons_zero] <;> rfl)) ?_) | (refine plan_pick_f _ _ _ _ (by rfl) (by rfl) (by rfl) (by first | (with_reducible exact Mem.ev_const _ _) | (with_reducible exact Mem.ev_zero _ _ _) | (with_reducible (apply Eq.trans (Mem.ev_tmp _ _ _)); simp only [List.getD_cons_succ, List.getD_cons_zero] <;> rfl)) (by first | (with_reducible exact Mem.ev_const _ _) | (with_reducible exact Mem.ev_zero _ _ _) | (with_reducible (apply Eq.trans (Mem.ev_tmp _ _ _)); simp only [List.getD_cons_succ, List.getD_cons_zero] <;> rfl)) ?_))
    (simp only [Act.put, List.setIfInBounds_toArray, List.set_cons_zero, List.set_cons_succ])
    refine plan_build _ _ #[(0, .int .u32 now), (1, .int .i64 x)] (.agg (euC (now, x))) (by rfl) (by rfl) (by rfl) (by simp only [List.map_toArray, List.map_cons, List.map_nil, Mem.ev_tmp, List.getD_cons_succ, List.getD_cons_zero]) (fun w' => buildUP now x w') ?_
    (simp only [Act.put, List.setIfInBounds_toArray, List.set_cons_zero, List.set_cons_succ])
    refine plan_two ?_ ?_
    · refine plan_sole_cell 40 _ _ (.slice a n cap) _ (by rfl) (by rfl) (by rfl) (by first | (with_reducible exact Mem.ev_const _ _) | (with_reducible exact Mem.ev_zero _ _ _) | (with_reducible (apply Eq.trans (Mem.ev_tmp _ _ _)); simp only [List.getD_cons_succ, List.getD_cons_zero] <;> rfl)) (by exact c3) Try.underlying40 (by rfl) (by exact c1) ?_
      (simp only [Act.put, List.setIfInBounds_toArray, List.set_cons_zero, List.set_cons_succ])
      refine plan_slice 40 43 1 _ (euC (now, x)) (by rfl) (by rfl) (by rfl) Try.underlying40 (by kernel_rfl) (by exact L1.out) ?_
      (simp only [Act.put, List.setIfInBounds_toArray, List.set_cons_zero, List.set_cons_succ])
      refine plan_append_app _ _ 40 (by rfl) (by rfl) (by rfl) (.slice (some ⟨w8.drew.heap.size, 0, none⟩) 1 1) n 1 2 [.int .u32 now, .int .i64 x] (.agg #[.int .u32 0, .int .i64 0]) 16 elemUP (by rfl) (by decide) (by first | (with_reducible exact Mem.ev_const _ _) | (with_reducible exact Mem.ev_zero _ _ _) | (with_reducible (apply Eq.trans (Mem.ev_tmp _ _ _)); simp only [List.getD_cons_succ, List.getD_cons_zero] <;> rfl)) OWL.out (by first | (with_reducible exact Mem.ev_const _ _) | (with_reducible exact Mem.ev_zero _ _ _) | (with_reducible (apply Eq.trans (Mem.ev_tmp _ _ _)); simp only [List.getD_cons_succ, List.getD_cons_zero] <;> rfl)) (by exact RDL.out) (by simp [Value.oneCell']) (by omega) (by omega) (Nat.zero_le _) ?_
      intro v6 w6 ho6 ha6 hb6
      obtain ⟨a6, c6, rfl⟩ := rows_hd ho6
      have R6 : Hid (At w6 b (pmC last now (.map (some bm)) (.slice a n cap)) 56) := Lib.hid (at_appd ROL.out ha6 ONB.out)
      have O6 := Lib.hid ho6; have AP6 := Lib.hid ha6; have B6 := Lib.hid hb6
      clear ho6 ha6 hb6
      refine ⟨by rw [R6.out.cell]; rfl, ?_⟩
      (simp only [Act.put, List.setIfInBounds_toArray, List.set_cons_zero, List.set_cons_succ])
      refine plan_nilcheck _ ⟨b, 0, none⟩ (by rfl) (by rfl) (by rfl) (by first | (with_reducible exact Mem.ev_const _ _) | (with_reducible exact Mem.ev_zero _ _ _) | (with_reducible (apply Eq.trans (Mem.ev_tmp _ _ _)); simp only [List.getD_cons_succ, List.getD_cons_zero] <;> rfl)) ?_
      (simp only [Act.put, List.setIfInBounds_toArray, List.set_cons_zero, List.set_cons_succ])
      refine plan_field 56 _ 3 b 0 ⟨b, 3, none⟩ (by rfl) (by rfl) (by rfl) (by first | (with_reducible exact Mem.ev_const _ _) | (with_reducible exact Mem.ev_zero _ _ _) | (with_reducible (apply Eq.trans (Mem.ev_tmp _ _ _)); simp only [List.getD_cons_succ, List.getD_cons_zero] <;> rfl)) (fun wx => by go_simp) ?_
      (simp only [Act.put, List.setIfInBounds_toArray, List.set_cons_zero, List.set_cons_succ])
      refine plan_store_one 40 _ _ b 3 (.slice a6 (n + 1) c6) _ 56 (by rfl) (by rfl) (by rfl) (by rfl) (by first | (with_reducible exact Mem.ev_const _ _) | (with_reducible exact Mem.ev_zero _ _ _) | (with_reducible (apply Eq.trans (Mem.ev_tmp _ _ _)); simp only [List.getD_cons_succ, List.getD_cons_zero] <;> rfl)) (by first | (with_reducible exact Mem.ev_const _ _) | (with_reducible exact Mem.ev_zero _ _ _) | (with_reducible (apply Eq.trans (Mem.ev_tmp _ _ _)); simp only [List.getD_cons_succ, List.getD_cons_zero] <;> rfl)) (by rfl) infoUsP R6.out (by simp [pmC]) (by rw [(R6.out.set 3 _).cell]; simp [pmC]) ?_
      refine plan_nil ?_
      have hE := puse_end (v' := .slice a6 (n + 1) c6) H.out S0.out CH8.out SE8.out BL.out AP6.out B6.out (by have := O6.out; rw [HN.out] at this ⊢; exact this)
      have HE := Lib.hid hE
      clear hE c1 c3
      go_wp2_with fail
      go_ret
      have h1 := G1.out; have h2 : ¬ x < 0 := (by have := G2.out; omega); have h3 := NN.out
      exact ⟨by simp [Mtr.use, h1, h2, h3], by simpa [Mtr.use, h1, h2, h3] using HE.out⟩
    · refine plan_slice 40 43 1 _ (euC (now, x)) (by rfl) (by rfl) (by rfl) Try.underlying40 (by kernel_rfl) (by exact L1.out) ?_
      (simp only [Act.put, List.setIfInBounds_toArray, List.set_cons_zero, List.set_cons_succ])
      refine plan_sole_cell 40 _ _ (.slice a n cap) _ (by rfl) (by rfl) (by rfl) (by first | (with_reducible exact Mem.ev_const _ _) | (with_reducible exact Mem.ev_zero _ _ _) | (with_reducible (apply Eq.trans (Mem.ev_tmp _ _ _)); simp only [List.getD_cons_succ, List.getD_cons_zero] <;> rfl)) (by exact L3.out) Try.underlying40 (by rfl) (by exact L1.out) ?_
      (simp only [Act.put, List.setIfInBounds_toArray, List.set_cons_zero, List.set_cons_succ])
      refine plan_append_app _ _ 40 (by rfl) (by rfl) (by rfl) (.slice (some ⟨w8.drew.heap.size, 0, none⟩) 1 1) n 1 2 [.int .u32 now, .int .i64 x] (.agg #[.int .u32 0, .int .i64 0]) 16 elemUP (by rfl) (by decide) (by first | (with_reducible exact Mem.ev_const _ _) | (with_reducible exact Mem.ev_zero _ _ _) | (with_reducible (apply Eq.trans (Mem.ev_tmp _ _ _)); simp only [List.getD_cons_succ, List.getD_cons_zero] <;> rfl)) OWL.out (by first | (with_reducible exact Mem.ev_const _ _) | (with_reducible exact Mem.ev_zero _ _ _) | (with_reducible (apply Eq.trans (Mem.ev_tmp _ _ _)); simp only [List.getD_cons_succ, List.getD_cons_zero] <;> rfl)) (by exact RDL.out) (by simp [Value.oneCell']) (by omega) (by omega) (Nat.zero_le _) ?_
      intro v6 w6 ho6 ha6 hb6
      obtain ⟨a6, c6, rfl⟩ := rows_hd ho6
      have R6 : Hid (At w6 b (pmC last now (.map (some bm)) (.slice a n cap)) 56) := Lib.hid (at_appd ROL.out ha6 ONB.out)
      have O6 := Lib.hid ho6; have AP6 := Lib.hid ha6; have B6 := Lib.hid hb6
      clear ho6 ha6 hb6
      refine ⟨by rw [R6.out.cell]; rfl, ?_⟩
      (simp only [Act.put, List.setIfInBounds_toArray, List.set_cons_zero, List.set_cons_succ])
      refine plan_nilcheck _ ⟨b, 0, none⟩ (by rfl) (by rfl) (by rfl) (by first | (with_reducible exact Mem.ev_const _ _) | (with_reducible exact Mem.ev_zero _ _ _) | (with_reducible (apply Eq.trans (Mem.ev_tmp _ _ _)); simp only [List.getD_cons_succ, List.getD_cons_zero] <;> rfl)) ?_
      (simp only [Act.put, List.setIfInBounds_toArray, List.set_cons_zero, List.set_cons_succ])
      refine plan_field 56 _ 3 b 0 ⟨b, 3, none⟩ (by rfl) (by rfl) (by rfl) (by first | (with_reducible exact Mem.ev_const _ _) | (with_reducible exact Mem.ev_zero _ _ _) | (with_reducible (apply Eq.trans (Mem.ev_tmp _ _ _)); simp only [List.getD_cons_succ, List.getD_cons_zero] <;> rfl)) (fun wx => by go_simp) ?_
      (simp only [Act.put, List.setIfInBounds_toArray, List.set_cons_zero, List.set_cons_succ])
      refine plan_store_one 40 _ _ b 3 (.slice a6 (n + 1) c6) _ 56 (by rfl) (by rfl) (by rfl) (by rfl) (by first | (with_reducible exact Mem.ev_const _ _) | (with_reducible exact Mem.ev_zero _ _ _) | (with_reducible (apply Eq.trans (Mem.ev_tmp _ _ _)); simp only [List.getD_cons_succ, List.getD_cons_zero] <;> rfl)) (by first | (with_reducible exact Mem.ev_const _ _) | (with_reducible exact Mem.ev_zero _ _ _) | (with_reducible (apply Eq.trans (Mem.ev_tmp _ _ _)); simp only [List.getD_cons_succ, List.getD_cons_zero] <;> rfl)) (by rfl) infoUsP R6.out (by simp [pmC]) (by rw [(R6.out.set 3 _).cell]; simp [pmC]) ?_
      refine plan_nil ?_
      have hE := puse_end (v' := .slice a6 (n + 1) c6) H.out S0.out CH8.out SE8.out BL.out AP6.out B6.out (by have := O6.out; rw [HN.out] at this ⊢; exact this)
      have HE := Lib.hid hE
      clear hE c1 c3
      go_wp2_with fail
      go_ret
      have h1 := G1.out; have h2 : ¬ x < 0 := (by have := G2.out; omega); have h3 := NN.out
      exact ⟨by simp [Mtr.use, h1, h2, h3], by simpa [Mtr.use, h1, h2, h3] using HE.out⟩
set_option maxRecDepth 100000 in
set_option maxHeartbeats 1000000 in
/-- slices.Clone of uses: its own text is walked. -/
theorem pcloneU_any {F : Foot} (l : List EU) (v : Value) (w : World) (hl : l.length ≤ 1000) (hv : SlR F w 2 v l.length (euCs l)) : Calls Try.prog 21 #[v] w fun e w' => ∃ v', e = .returned v' ∧ SlR (fun k => w.heap.size ≤ k) w' 2 v' l.length (euCs l) ∧ Below w.heap.size w w' := by
  have q22 : ∀ (w : World) (a : Option Addr) (n c n' c' : Nat), (binOp .eql 40 (.slice a n c) (.slice none n' c')).run Try.prog w = .ok (.bool a.isNone) w := fun w a n c n' c' => Lib.run_eql_slice_nil w _ _ a n c n' c' Try.underlying40
  have hv0 := hv
  obtain ⟨hlen, a0, cap, rfl, _, hr⟩ := hv
  obtain ⟨m, hm⟩ : ∃ m, m = l.length := ⟨_, rfl⟩
  cases a0 with
  | none =>
    have hl0 : l.length = 0 := by
      by_cases h0 : l.length = 0
      · exact h0
      · obtain ⟨_, _, h, _⟩ := hr h0
        cases h
    have hl : l = [] := List.eq_nil_of_length_eq_zero hl0
    subst hl
    clear hr hv0 hm hlen
    go_enter Try.func21, Try.ntmps21
    go_wp2
    go_ret
    exact ⟨_, rfl, SlR.nil _ _ _, Below.refl _ _⟩
  | some ad =>
    have hsl : SlR F (w.alloc (.cells #[] 43)) 2 (.slice (some ad) l.length cap) l.length (euCs l) := hv0.below ((Below.refl _ _).alloc (Nat.le_refl _) _)
    have hb0 : Below w.heap.size w (w.alloc (.cells #[] 43)) := (Below.refl _ _).alloc (Nat.le_refl _) _
    have how : (w.alloc (.cells #[] 43)).ownsRow w.heap.size 43 2 (.slice (some ⟨w.heap.size, 0, none⟩) 0 0) 0 [] := own_none w w.heap.size (Nat.le_refl _)
    rw [← hm] at hl hsl ⊢
    have HV := Lib.hid hsl; have HM := Lib.hid hm; have HB := Lib.hid hb0; have HO := Lib.hid how
    clear hv0 hm hr hsl hb0 how hlen
    go_enter Try.func21, Try.ntmps21
    go_wp2_with (at_builtin; refine wpList_append_app (by rfl) _ _ 40 (by rfl) (.slice (some ad) m cap) 0 m 2 (euCs l) (.agg #[.int .u32 0, .int .i64 0]) 16 elemUP (by rfl) (by decide) (by rfl) HO.out (by rfl) HV.out.rd (euCs_one l) (by omega) (by omega) HB.out.size ?_; intro v5 w5 ho5 _ hb5; have O5 := Lib.hid ho5; have B5 := Lib.hid (HB.out.trans hb5); clear ho5 hb5)
    go_ret
    refine ⟨_, rfl, ?_, B5.out⟩
    have := ownsRow_slR O5.out
    simpa using this
set_option maxRecDepth 100000 in
set_option maxHeartbeats 1000000 in
theorem pused_any {F : Foot} {b : Nat} {m : Mtr} (w : World) (h : PMt F b w m) (ok : OkM 1000 m) : Calls Try.prog 16 #[mq b] w fun e w' => ∃ v, e = .returned v ∧ SlR (fun k => F k ∨ w.heap.size ≤ k) w' 2 v m.l.length (euCs m.l) ∧ Below w.heap.size w w' := by
  obtain ⟨mp, v, h⟩ := h
  have c3 : w.cell? ⟨b, 3, none⟩ = some v := by rw [h.row.cell]; rfl
  have hcl := pcloneU_any m.l v w ok.len (ownsRow_slR h.own)
  obtain ⟨a, c, rfl⟩ := rows_hd h.own
  have CL := Lib.hid hcl
  clear hcl h ok
  go_enter Try.func16, Try.ntmps16
  go_wp2_with fail
  refine CL.out.mono ?_
  rintro e w2 ⟨v2, rfl, hs, hb⟩
  have S2 := Lib.hid hs; have B2 := Lib.hid hb
  clear hs hb CL
  go_wp2_with fail
  go_ret
  exact ⟨v2, rfl, S2.out.mono fun k hk _ => .inr hk, B2.out⟩
end Sha
end Go.Proofs.Ytmpibofkihfiiaa
